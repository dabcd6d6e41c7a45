/-
  Down, Up and Round of a number that is not Cut, told by their digits; how they lie to the number.
-/
import Derived.Test.YtladeppjccfbhaaDoorDecHv
import Derived.Test.YtladeppjccfbhaaDoorDecJ
import Derived.Test.YtladeppjccfbhaaDoorDecW
namespace Go.Proofs.YtladeppjccfbhaaDoor
open Go.RowKit

/-- What low and high are, and how they lie to the number. -/
structure Ord (s : ByteArray) (p : Int) (n : Nat) (sl : ByteArray) (pl : Int) (sh : ByteArray) (ph : Int) (sm : ByteArray) (pm : Int) (a b : Int) : Prop where
  dn : ∀ W, Calls Tryd.prog 14 #[dcV s p false, .int .i64 n] W fun e w' => e = .returned (.tuple #[dcV sl pl false, .nilIface]) ∧ Below W.heap.size W w'
  up : ∀ W, Calls Tryd.prog 16 #[dcV s p false, .int .i64 n] W fun e w' => e = .returned (.tuple #[dcV sh ph false, .nilIface]) ∧ Below W.heap.size W w'
  rn : ∀ W, Calls Tryd.prog 12 #[dcV s p false, .int .i64 n] W fun e w' => e = .returned (.tuple #[dcV sm pm false, .nilIface]) ∧ Below W.heap.size W w'
  ca : ∀ W, Calls Tryd.prog 8 #[dcV sl pl false, dcV s p false] W fun e w' => e = .returned (.tuple #[.int .i64 a, .nilIface]) ∧ Below W.heap.size W w'
  cb : ∀ W, Calls Tryd.prog 8 #[dcV s p false, dcV sh ph false] W fun e w' => e = .returned (.tuple #[.int .i64 b, .nilIface]) ∧ Below W.heap.size W w'
  l1 : sl.size ≤ max n 1
  l2 : sh.size ≤ max n 1

theorem cmpI_neg {x y : Int} (h : x < y) : cmpI x y = -1 := by unfold cmpI; rw [if_pos h]

theorem ord_off {s : ByteArray} {p : Int} {n : Nat} (h : VD s p false) (hl : s.size ≤ 700) (hn : n < 40) (hs : s.size ≤ n) : Ord s p n s p s p s p 0 0 := by
  have mr : ∀ known, MR s p false n known := fun known => ⟨h, by omega, by omega, fun z => by cases z⟩
  have B := fun W => below_self h (n := n) (by omega) hs W
  have on : onB s false n = false := by unfold onB; rw [Bool.false_or]; exact decide_eq_false (by omega)
  have C : ∀ W, Calls Tryd.prog 8 #[dcV s p false, dcV s p false] W fun e w' => e = .returned (.tuple #[.int .i64 0, .nilIface]) ∧ Below W.heap.size W w' := by
    intro W
    by_cases z : s.size = 0
    · have q := dcmp_empty h h (Or.inl z) W
      have e : cmpI (s.size : Int) (s.size : Int) = 0 := by unfold cmpI; rw [if_neg (by omega), if_neg (by omega)]
      rw [e] at q
      exact q
    · have q := dcmp_behind h h (by omega) (by omega) (fun j _ a b => rfl) W
      have e : onB s false ((min s.size s.size : Nat) : Int) = false := by unfold onB; rw [Bool.false_or]; exact decide_eq_false (by omega)
      rw [e] at q
      exact q
  exact ⟨fun W => ddown_ok (mr _) B W, fun W => dup_off (mr _) on B W, fun W => dround_off (mr _) on B W, C, C, by omega, by omega⟩

theorem vn_pre {s : ByteArray} {p : Int} (g : VN s p false) {m : Nat} (m0 : 0 < m) (hm : m ≤ s.size) (h2 : dgt s (m - 1) ≠ 48) : VN (s.extract 0 m) p false := by
  have z := pre_size hm
  have l := g.len
  refine nf_vn ⟨by omega, pre_dg g.dg hm, by rw [pre_dgt hm m0, dgt_lt g.pos]; exact g.first, by rw [z, pre_dgt hm (by omega)]; exact h2⟩ (by omega) g.lo g.hi
theorem cmp_pre {s : ByteArray} {p : Int} (g : VN s p false) {m : Nat} (m0 : 0 < m) (hm : m < s.size) (h2 : dgt s (m - 1) ≠ 48) (W : World) :
    Calls Tryd.prog 8 #[dcV (s.extract 0 m) p false, dcV s p false] W fun e w' => e = .returned (.tuple #[.int .i64 (-1), .nilIface]) ∧ Below W.heap.size W w' := by
  have z := pre_size (s := s) (k := m) (by omega)
  have q := dcmp_behind (Or.inr (vn_pre g m0 (by omega) h2)) (Or.inr g : VD s p false) (by omega) (by omega) (fun j hj a b => by rw [← dgt_lt a, ← dgt_lt b, pre_dgt (by omega) (by omega)]) W
  have e1 : onB (s.extract 0 m) false ((min (s.extract 0 m).size s.size : Nat) : Int) = false := by unfold onB; rw [Bool.false_or]; exact decide_eq_false (by omega)
  have e2 : onB s false ((min (s.extract 0 m).size s.size : Nat) : Int) = true := by unfold onB; rw [Bool.false_or]; exact decide_eq_true (by omega)
  rw [e1, e2] at q
  exact q

theorem vn_up {s : ByteArray} {p : Int} (g : VN s p false) {m : Nat} (m0 : 0 < m) (hm : m ≤ s.size) (h2 : dgt s (m - 1) ≠ 57) : VN (upS s m) p false := by
  have z := upS_size (s := s) m0 hm
  obtain ⟨u1, u2⟩ := upS_dgt g.dg m0 hm
  have l := g.len
  have d := dgt_in g.dg (m - 1)
  have f0 : dgt s 0 ≠ 48 := by rw [dgt_lt g.pos]; exact g.first
  have d0 := dgt_in g.dg 0
  refine nf_vn ⟨by omega, ?_, ?_, by rw [z, u2]; omega⟩ (by omega) g.lo g.hi
  · intro i hi
    rw [← dgt_lt hi]
    by_cases c : i < m - 1
    · rw [u1 i c]; exact dgt_in g.dg i
    · rw [show i = m - 1 by omega, u2]; omega
  · by_cases c : 0 < m - 1
    · rw [u1 0 c]; exact f0
    · have : m - 1 = 0 := by omega
      rw [this] at u2
      rw [u2]; omega
theorem cmp_up {s : ByteArray} {p : Int} (g : VN s p false) {m : Nat} (m0 : 0 < m) (hm : m ≤ s.size) (h2 : dgt s (m - 1) ≠ 57) (W : World) :
    Calls Tryd.prog 8 #[dcV s p false, dcV (upS s m) p false] W fun e w' => e = .returned (.tuple #[.int .i64 (-1), .nilIface]) ∧ Below W.heap.size W w' := by
  have z := upS_size (s := s) m0 hm
  obtain ⟨u1, u2⟩ := upS_dgt g.dg m0 hm
  have hs : m - 1 < s.size := by omega
  have ht : m - 1 < (upS s m).size := by omega
  have q := dcmp_diff (Or.inr g : VD s p false) (Or.inr (vn_up g m0 hm h2)) (m - 1) hs ht (fun j hj a b => by rw [← dgt_lt a, ← dgt_lt b, u1 j hj]) (by rw [← dgt_lt hs, ← dgt_lt ht, u2]; omega) W
  rw [← dgt_lt hs, ← dgt_lt ht, u2, cmpI_neg (by omega)] at q
  exact q
theorem vn_one {p : Int} (h0 : -1099511627776 ≤ p) (h1 : p ≤ 1099511627776) : VN ⟨#[49]⟩ p false :=
  ⟨by decide, by decide, dg_one, by decide, Or.inl (by decide), h0, h1⟩
theorem cmp_one {s : ByteArray} {p : Int} (g : VN s p false) (hp : p ≤ 1000) (W : World) :
    Calls Tryd.prog 8 #[dcV s p false, dcV ⟨#[49]⟩ (p + 1) false] W fun e w' => e = .returned (.tuple #[.int .i64 (-1), .nilIface]) ∧ Below W.heap.size W w' := by
  have lo := g.lo
  have q := dcmp_point (Or.inr g : VD s p false) (Or.inr (vn_one (p := p + 1) (by omega) (by omega))) g.pos (by decide) (by omega) W
  rw [cmpI_neg (by omega)] at q
  exact q

/-- With digits behind: the three answers. -/
theorem ord_on {s : ByteArray} {p : Int} {n : Nat} (g : VN s p false) (hl : s.size ≤ 700) (hp0 : -1000 ≤ p) (hp1 : p ≤ 1000) (hn : n < 40) (hs : n < s.size) :
    ∃ (sl : ByteArray) (pl : Int) (sh : ByteArray) (ph : Int), (∀ sm pm, (upB s false n = true → sm = sh ∧ pm = ph) → (upB s false n = false → sm = sl ∧ pm = pl) → Ord s p n sl pl sh ph sm pm (-1) (-1)) ∧
      ((sl = ⟨#[]⟩ ∧ pl = 0 ∧ sh = ⟨#[49]⟩ ∧ ph = p + 1) ∨ (pl = p ∧ ph = p + 1 ∧ 0 < sl.size) ∨ (∃ m k, 0 < m ∧ m ≤ n ∧ 0 < k ∧ k ≤ n ∧ sl = s.extract 0 m ∧ pl = p ∧ sh = upS s k ∧ ph = p ∧ (∀ i, m ≤ i → i < n → dgt s i = 48) ∧ dgt s (m - 1) ≠ 48)) := by
  have mr : ∀ known, MR s p false n known := fun known => ⟨Or.inr g, by omega, by omega, fun z => by cases z⟩
  have on : onB s false n = true := by unfold onB; rw [Bool.false_or]; exact decide_eq_true (by omega)
  have U := fun W => roundsUp_any (p := p) (c := false) g.dg hs (by omega) W
  obtain ⟨m, m1, m2, m3⟩ := zeros_at s n
  obtain ⟨k, k1, k2, k3⟩ := nines_at s n
  have Bl := fun W => below_any (s := s) (p := p) (c := false) (by omega) (n := n) (k := n) (by omega) (by omega) m1 m2 m3 W
  have f0 : dgt s 0 ≠ 48 := by rw [dgt_lt g.pos]; exact g.first
  have all : ∀ (sl : ByteArray) (pl : Int) (sh : ByteArray) (ph : Int), lowD s p m = dcV sl pl false → (∀ W, Calls Tryd.prog 49 #[dcV s p false, .int .i64 n] W fun e w' => e = .returned (.tuple #[dcV sh ph false, .nilIface]) ∧ Below W.heap.size W w') →
      (∀ W, Calls Tryd.prog 8 #[dcV sl pl false, dcV s p false] W fun e w' => e = .returned (.tuple #[.int .i64 (-1), .nilIface]) ∧ Below W.heap.size W w') →
      (∀ W, Calls Tryd.prog 8 #[dcV s p false, dcV sh ph false] W fun e w' => e = .returned (.tuple #[.int .i64 (-1), .nilIface]) ∧ Below W.heap.size W w') → sl.size ≤ max n 1 → sh.size ≤ max n 1 →
      ∀ sm pm, (upB s false n = true → sm = sh ∧ pm = ph) → (upB s false n = false → sm = sl ∧ pm = pl) → Ord s p n sl pl sh ph sm pm (-1) (-1) := by
    intro sl pl sh ph e A CA CB L1 L2 sm pm q1 q2
    rw [e] at Bl
    refine ⟨fun W => ddown_ok (mr _) Bl W, fun W => dup_on (mr _) on A W, fun W => ?_, CA, CB, L1, L2⟩
    cases c : upB s false n
    · obtain ⟨rfl, rfl⟩ := q2 c
      exact dround_dn (mr _) on (fun W => by have := U W; rw [c] at this; exact this) Bl W
    · obtain ⟨rfl, rfl⟩ := q1 c
      exact dround_up (mr _) on (fun W => by have := U W; rw [c] at this; exact this) A W
  have An : k = 0 → ∀ W, Calls Tryd.prog 49 #[dcV s p false, .int .i64 n] W fun e w' => e = .returned (.tuple #[dcV ⟨#[49]⟩ (p + 1) false, .nilIface]) ∧ Below W.heap.size W w' := fun z W => by
    have q := above_none (s := s) (p := p) (c := false) (by omega) (n := n) (by omega) (fun i hi => k2 i (by omega) hi) (by omega) (by omega) W
    rw [if_neg (by omega)] at q
    exact q
  by_cases nz : n = 0
  · have mz : m = 0 := by omega
    refine ⟨⟨#[]⟩, 0, ⟨#[49]⟩, p + 1, all _ _ _ _ (by unfold lowD; rw [if_pos mz]) (An (by omega)) (fun W => ?_) (fun W => cmp_one g hp1 W) (by show 0 ≤ _; omega) (by show 1 ≤ _; omega), Or.inl ⟨rfl, rfl, rfl, rfl⟩⟩
    have q := dcmp_empty (Or.inl ⟨rfl, rfl, rfl⟩ : VD ⟨#[]⟩ 0 false) (Or.inr g : VD s p false) (Or.inl rfl) W
    rw [cmpI_neg (by have := g.pos; show (0 : Int) < _; omega)] at q
    exact q
  · have mz : 0 < m := by
      rcases Nat.eq_zero_or_pos m with c | c
      · exact absurd (m2 0 (by omega) (by omega)) f0
      · exact c
    have el : lowD s p m = dcV (s.extract 0 m) p false := by unfold lowD; rw [if_neg (by omega)]
    have z := pre_size (s := s) (k := m) (by omega)
    by_cases kz : k = 0
    · exact ⟨s.extract 0 m, p, ⟨#[49]⟩, p + 1, all _ _ _ _ el (An kz) (fun W => cmp_pre g mz (by omega) (m3 mz) W) (fun W => cmp_one g hp1 W) (by omega) (by show 1 ≤ _; omega), Or.inr (Or.inl ⟨rfl, rfl, by omega⟩)⟩
    · have zu := upS_size (s := s) (m := k) (by omega) (by omega)
      exact ⟨s.extract 0 m, p, upS s k, p, all _ _ _ _ el (fun W => above_some g.dg (by omega) (by omega) k1 (by omega) (fun i a b => k2 i a b) (k3 (by omega)) W) (fun W => cmp_pre g mz (by omega) (m3 mz) W) (fun W => cmp_up g (by omega) (by omega) (k3 (by omega)) W) (by omega) (by omega),
        Or.inr (Or.inr ⟨m, k, mz, m1, by omega, k1, rfl, rfl, rfl, rfl, m2, m3 mz⟩)⟩

end Go.Proofs.YtladeppjccfbhaaDoor
