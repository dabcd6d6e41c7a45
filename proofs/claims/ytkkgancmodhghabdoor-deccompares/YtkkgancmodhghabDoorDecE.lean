/-
  dec's Compare and the document's answer the same.
-/
import Derived.Test.YtkkgancmodhghabDoorDecC
namespace Go.Proofs.YtkkgancmodhghabDoor
open Go.RowKit

/-- What the document's Compare answers. -/
def RA (s : ByteArray) (p : Int) (c : Bool) (t : ByteArray) (q : Int) (d : Bool) (n : Int) : Prop :=
  match c, d with
  | false, false => n = lowF s p t q
  | true, false => (BB s p t q ∧ n = -1) ∨ (¬ BB s p t q ∧ 0 ≤ lowF s p t q ∧ n = 1) ∨ (¬ BB s p t q ∧ ¬ 0 ≤ lowF s p t q ∧ n = 2)
  | false, true => (BB t q s p ∧ n = 1) ∨ (¬ BB t q s p ∧ lowF s p t q ≤ 0 ∧ n = -1) ∨ (¬ BB t q s p ∧ ¬ lowF s p t q ≤ 0 ∧ n = 2)
  | true, true => (BB s p t q ∧ n = -1) ∨ (¬ BB s p t q ∧ BB t q s p ∧ n = 1) ∨ (¬ BB s p t q ∧ ¬ BB t q s p ∧ n = 2)

theorem rcmp_all {s : ByteArray} {p : Int} {c : Bool} {t : ByteArray} {q : Int} {d : Bool} (h1 : VD s p c) (h2 : VD t q d) {n : Int} (h : RA s p c t q d n) (w : World) :
    Calls Tryd.prog 8 #[dcV s p c, dcV t q d] w fun e w' => e = .returned (.tuple #[.int .i64 n, .int .i64 0]) ∧ Below w.heap.size w w' := by
  cases c <;> cases d
  · have h' : n = lowF s p t q := h
    subst h'
    exact rcmp_ff h1 h2 w
  · rcases (show _ ∨ _ ∨ _ from h) with ⟨a, rfl⟩ | ⟨a, b, rfl⟩ | ⟨a, b, rfl⟩
    · exact rcmp_ft1 h1 h2 a w
    · exact rcmp_ft2 h1 h2 a b w
    · exact rcmp_ft3 h1 h2 a b w
  · rcases (show _ ∨ _ ∨ _ from h) with ⟨a, rfl⟩ | ⟨a, b, rfl⟩ | ⟨a, b, rfl⟩
    · exact rcmp_a h1 h2 a w
    · exact rcmp_tf1 h1 h2 a b w
    · exact rcmp_tf2 h1 h2 a b w
  · rcases (show _ ∨ _ ∨ _ from h) with ⟨a, rfl⟩ | ⟨a, b, rfl⟩ | ⟨a, b, rfl⟩
    · exact rcmp_a h1 h2 a w
    · exact rcmp_tt1 h1 h2 a b w
    · exact rcmp_tt2 h1 h2 a b w

theorem longer {s t : ByteArray} (ds : DG s) (dt : DG t) (h : s.size < t.size) (he : pv s s.size = pv t s.size) (hl : dgt t (t.size - 1) ≠ 48) : pv s t.size < pv t t.size := by
  obtain ⟨k, hk⟩ : ∃ k, t.size = (s.size + k) + 1 := ⟨t.size - s.size - 1, by omega⟩
  have a := (pad_iff ds dt (Nat.le_refl s.size) k).mpr (by omega)
  have b : dgt s (s.size + k) = 48 := dgt_ge (by omega)
  have c := dgt_in dt (s.size + k)
  rw [hk, Nat.add_sub_cancel] at hl
  rw [hk]
  show 10 * pv s (s.size + k) + (dgt s (s.size + k) - 48) < 10 * pv t (s.size + k) + (dgt t (s.size + k) - 48)
  omega

theorem lowF_same {s t : ByteArray} (p : Int) (hs : 0 < s.size) (ht : 0 < t.size) : lowF s p t p = cmpI (pv s (max s.size t.size) : Nat) (pv t (max s.size t.size) : Nat) := by
  unfold lowF
  rw [if_neg (by omega), if_neg (by omega), if_neg (by omega), if_neg (by omega), if_neg (by omega)]
  rfl

theorem ra_empty {s : ByteArray} {p : Int} {c : Bool} {t : ByteArray} {q : Int} {d : Bool} (h1 : VD s p c) (h2 : VD t q d) (he : s.size = 0 ∨ t.size = 0) : RA s p c t q d (cmpI (s.size : Int) (t.size : Int)) := by
  cases c <;> cases d
  · show cmpI _ _ = lowF s p t q
    unfold cmpI lowF
    by_cases a : s.size = 0
    · by_cases b : t.size = 0
      · rw [if_neg (by omega), if_neg (by omega), if_pos ⟨a, b⟩]
      · rw [if_pos (by omega), if_neg (by omega), if_pos a]
    · have b : t.size = 0 := by omega
      rw [if_neg (by omega), if_pos (by omega), if_neg (by omega), if_neg a, if_pos b]
  · have a := (vd_cut h2).pos
    have b : s.size = 0 := by omega
    refine Or.inr (Or.inl ⟨fun g => ?_, ?_, ?_⟩)
    · have := g.1; omega
    · unfold lowF; rw [if_neg (by omega), if_pos b]; omega
    · unfold cmpI; rw [if_pos (by omega)]
  · have a := (vd_cut h1).pos
    have b : t.size = 0 := by omega
    refine Or.inr (Or.inl ⟨fun g => ?_, ?_, ?_⟩)
    · have := g.1; omega
    · unfold lowF; rw [if_neg (by omega), if_neg (by omega), if_pos b]; omega
    · unfold cmpI; rw [if_neg (by omega), if_pos (by omega)]
  · have a := (vd_cut h1).pos
    have b := (vd_cut h2).pos
    omega

/-- Where one of both is below whatever is behind. -/
theorem ra_less {s : ByteArray} {p : Int} {c : Bool} {t : ByteArray} {q : Int} {d : Bool} (h1 : BB s p t q) (h2 : ¬ BB t q s p) (h3 : lowF s p t q = -1) : RA s p c t q d (-1) := by
  cases c <;> cases d
  · exact h3.symm
  · exact Or.inr (Or.inl ⟨h2, by omega, rfl⟩)
  · exact Or.inl ⟨h1, rfl⟩
  · exact Or.inl ⟨h1, rfl⟩
theorem ra_more {s : ByteArray} {p : Int} {c : Bool} {t : ByteArray} {q : Int} {d : Bool} (h1 : BB t q s p) (h2 : ¬ BB s p t q) (h3 : lowF s p t q = 1) : RA s p c t q d 1 := by
  cases c <;> cases d
  · exact h3.symm
  · exact Or.inl ⟨h1, rfl⟩
  · exact Or.inr (Or.inl ⟨h2, by omega, rfl⟩)
  · exact Or.inr (Or.inl ⟨h2, h1, rfl⟩)

theorem ra_point {s : ByteArray} {p : Int} {c : Bool} {t : ByteArray} {q : Int} {d : Bool} (hs : 0 < s.size) (ht : 0 < t.size) (hp : p ≠ q) : RA s p c t q d (cmpI p q) := by
  unfold cmpI
  by_cases a : p < q
  · rw [if_pos a]
    refine ra_less ⟨ht, Or.inl a⟩ (fun g => ?_) ?_
    · rcases g.2 with g | g
      · omega
      · exact hp g.1.symm
    · unfold lowF; rw [if_neg (by omega), if_neg (by omega), if_neg (by omega), if_pos a]
  · have b : q < p := by omega
    rw [if_neg a, if_pos b]
    refine ra_more ⟨hs, Or.inl b⟩ (fun g => ?_) ?_
    · rcases g.2 with g | g
      · omega
      · exact hp g.1
    · unfold lowF; rw [if_neg (by omega), if_neg (by omega), if_neg (by omega), if_neg a, if_pos b]

theorem ra_diff {s : ByteArray} {p : Int} {c : Bool} {t : ByteArray} {d : Bool} (ds : DG s) (dt : DG t) {i : Nat} (hs : i < s.size) (ht : i < t.size) (he : ∀ j, j < i → dgt s j = dgt t j) (hne : dgt s i ≠ dgt t i) : RA s p c t p d (cmpI (dgt s i : Nat) (dgt t i : Nat)) := by
  unfold cmpI
  rcases Nat.lt_or_gt_of_ne hne with a | a
  · rw [if_pos (by omega)]
    have k := fun K (h : i < K) => pv_diff ds dt he a h
    refine ra_less ⟨by omega, Or.inr ⟨rfl, k _ hs⟩⟩ (fun g => ?_) ?_
    · have := k t.size ht
      rcases g.2 with g | g
      · omega
      · omega
    · rw [lowF_same p (by omega) (by omega)]
      have := k (max s.size t.size) (by omega)
      unfold cmpI; rw [if_pos (by omega)]
  · rw [if_neg (by omega), if_pos (by omega)]
    have k := fun K (h : i < K) => pv_diff dt ds (fun j hj => (he j hj).symm) a h
    refine ra_more ⟨by omega, Or.inr ⟨rfl, k _ ht⟩⟩ (fun g => ?_) ?_
    · have := k s.size hs
      rcases g.2 with g | g
      · omega
      · omega
    · rw [lowF_same p (by omega) (by omega)]
      have := k (max s.size t.size) (by omega)
      unfold cmpI; rw [if_neg (by omega), if_pos (by omega)]

theorem ra_behind {s : ByteArray} {p : Int} {c : Bool} {t : ByteArray} {d : Bool} (h1 : VN s p c) (h2 : VN t p d) (he : ∀ j, j < min s.size t.size → dgt s j = dgt t j) : RA s p c t p d (bhd (onB s c (min s.size t.size : Nat)) (onB t d (min s.size t.size : Nat))) := by
  have hs := h1.pos
  have ht := h2.pos
  have e := pv_ext _ he
  have L := lowF_same p hs ht
  by_cases a : s.size ≤ t.size
  · have m : min s.size t.size = s.size := by omega
    have M : max s.size t.size = t.size := by omega
    rw [m] at e ⊢
    rw [M] at L
    have le : pv s t.size ≤ pv t t.size := by
      obtain ⟨k, hk⟩ : ∃ k, t.size = s.size + k := ⟨t.size - s.size, by omega⟩
      rw [hk]; exact (pad_iff h1.dg h2.dg (Nat.le_refl _) k).mpr (by omega)
    have B1 : ¬ BB s p t p := fun g => by rcases g.2 with g | g <;> omega
    have B2 : ¬ BB t p s p := fun g => by rcases g.2 with g | g <;> omega
    have o1 : onB s false (s.size : Nat) = false := by unfold onB; simp
    have lf0 : lowF s p t p ≤ 0 := by rw [L, cmpI_le]; exact le
    by_cases b : s.size < t.size
    · have o2 : onB t false (s.size : Nat) = true := by unfold onB; simp; omega
      cases c <;> cases d
      · rw [o1, o2]
        have l := h2.last.resolve_right (by decide)
        rw [← dgt_lt] at l
        have lt := longer h1.dg h2.dg b e l
        show -1 = lowF s p t p
        rw [L]; unfold cmpI; rw [if_pos (by omega)]
      · rw [o1]
        exact Or.inr (Or.inl ⟨B2, lf0, rfl⟩)
      · rw [o2]
        have l := h2.last.resolve_right (by decide)
        rw [← dgt_lt] at l
        have lt := longer h1.dg h2.dg b e l
        refine Or.inr (Or.inr ⟨B1, ?_, rfl⟩)
        rw [L, cmpI_ge]; omega
      · exact Or.inr (Or.inr ⟨B1, B2, rfl⟩)
    · have z : t.size = s.size := by omega
      have o2 : onB t false (s.size : Nat) = false := by unfold onB; simp; omega
      have eq : pv s t.size = pv t t.size := by rw [z]; exact e
      cases c <;> cases d
      · rw [o1, o2]
        show 0 = lowF s p t p
        rw [L, eq]; unfold cmpI; rw [if_neg (by omega), if_neg (by omega)]
      · rw [o1]
        exact Or.inr (Or.inl ⟨B2, lf0, rfl⟩)
      · rw [o2]
        refine Or.inr (Or.inl ⟨B1, ?_, rfl⟩)
        rw [L, cmpI_ge]; omega
      · exact Or.inr (Or.inr ⟨B1, B2, rfl⟩)
  · have m : min s.size t.size = t.size := by omega
    have M : max s.size t.size = s.size := by omega
    rw [m] at e ⊢
    rw [M] at L
    have le : pv t s.size ≤ pv s s.size := by
      obtain ⟨k, hk⟩ : ∃ k, s.size = t.size + k := ⟨s.size - t.size, by omega⟩
      rw [hk]; exact (pad_iff h2.dg h1.dg (Nat.le_refl _) k).mpr (by omega)
    have B1 : ¬ BB s p t p := fun g => by rcases g.2 with g | g <;> omega
    have B2 : ¬ BB t p s p := fun g => by rcases g.2 with g | g <;> omega
    have o1 : onB s false (t.size : Nat) = true := by unfold onB; simp; omega
    have o2 : onB t false (t.size : Nat) = false := by unfold onB; simp
    have lf0 : 0 ≤ lowF s p t p := by rw [L, cmpI_ge]; exact le
    cases c <;> cases d
    · rw [o1, o2]
      have l := h1.last.resolve_right (by decide)
      rw [← dgt_lt] at l
      have lt := longer h2.dg h1.dg (by omega) e.symm l
      show 1 = lowF s p t p
      rw [L]; unfold cmpI; rw [if_neg (by omega), if_pos (by omega)]
    · rw [o1]
      have l := h1.last.resolve_right (by decide)
      rw [← dgt_lt] at l
      have lt := longer h2.dg h1.dg (by omega) e.symm l
      refine Or.inr (Or.inr ⟨B2, ?_, rfl⟩)
      rw [L, cmpI_le]; omega
    · rw [o2]
      exact Or.inr (Or.inl ⟨B1, lf0, rfl⟩)
    · exact Or.inr (Or.inr ⟨B1, B2, rfl⟩)

/-- The first digit that differs, or none ahead of n. -/
theorem first_diff (s t : ByteArray) : ∀ n, (∀ j, j < n → dgt s j = dgt t j) ∨ ∃ i, i < n ∧ (∀ j, j < i → dgt s j = dgt t j) ∧ dgt s i ≠ dgt t i
  | 0 => Or.inl fun _ h => absurd h (Nat.not_lt_zero _)
  | n + 1 => by
    rcases first_diff s t n with h | ⟨i, a, b, c⟩
    · by_cases z : dgt s n = dgt t n
      · refine Or.inl fun j hj => ?_
        by_cases y : j = n
        · rw [y]; exact z
        · exact h j (by omega)
      · exact Or.inr ⟨n, by omega, h, z⟩
    · exact Or.inr ⟨i, by omega, b, c⟩

theorem cmp_same {s : ByteArray} {p : Int} {c : Bool} {t : ByteArray} {q : Int} {d : Bool} (h1 : VD s p c) (h2 : VD t q d) : ∃ n : Int,
    (∀ W, Calls Tryd.prog 7 #[dcV s p c, dcV t q d] W fun e w' => e = .returned (.tuple #[.int .i64 n, .nilIface]) ∧ Below W.heap.size W w') ∧
    (∀ W, Calls Tryd.prog 8 #[dcV s p c, dcV t q d] W fun e w' => e = .returned (.tuple #[.int .i64 n, .int .i64 0]) ∧ Below W.heap.size W w') := by
  by_cases a : s.size = 0 ∨ t.size = 0
  · exact ⟨_, fun W => dcmp_empty h1 h2 a W, fun W => rcmp_all h1 h2 (ra_empty h1 h2 a) W⟩
  have hs : 0 < s.size := by omega
  have ht : 0 < t.size := by omega
  by_cases b : p = q
  · subst b
    have n1 : VN s p c := h1.resolve_left (fun g => by omega)
    have n2 : VN t p d := h2.resolve_left (fun g => by omega)
    rcases first_diff s t (min s.size t.size) with g | ⟨i, g1, g2, g3⟩
    · exact ⟨_, fun W => dcmp_behind h1 h2 hs ht (fun j hj x y => by have := g j hj; rw [dgt_lt x, dgt_lt y] at this; exact this) W, fun W => rcmp_all h1 h2 (ra_behind n1 n2 g) W⟩
    · have i1 : i < s.size := by omega
      have i2 : i < t.size := by omega
      have r := ra_diff (p := p) (c := c) (d := d) n1.dg n2.dg i1 i2 g2 g3
      rw [dgt_lt i1, dgt_lt i2] at r g3
      exact ⟨_, fun W => dcmp_diff h1 h2 i i1 i2 (fun j hj x y => by have := g2 j hj; rw [dgt_lt x, dgt_lt y] at this; exact this) g3 W, fun W => rcmp_all h1 h2 r W⟩
  · exact ⟨_, fun W => dcmp_point h1 h2 hs ht b W, fun W => rcmp_all h1 h2 (ra_point hs ht b) W⟩

end Go.Proofs.YtkkgancmodhghabDoor
