/-
  Holds: IvU QkT SoC.
-/
import Derived.Test.YtjagnfddmlkalaaGreatDoorRows
import Derived.Laws.Externs
import Derived.WalkKit
import Derived.WalkSpells
import Derived.WalkLawsBesides
import Derived.Lib.Mul64
import Derived.Stop.Asserts
import Derived.RowKitTokens
import Derived.Lib.Strings
import Derived.Lib.BufferWrite
import Derived.Deep.OwnRows
import Derived.Deep.RegionHeld3
import Derived.BigQuiet
import Derived.Lib.ConvBytes
import Derived.Laws.CopyOwn
import Derived.Lib.TrailingZeros
import Derived.Lib.ItoaNum
import Derived.Deep.LoopGhost
import Derived.Test.YtjagnfddmlkalaaGreatDoorKj9
import Derived.Test.YtjagnfddmlkalaaGreatDoorKj12
set_option maxRecDepth 100000
set_option maxHeartbeats 4000000
namespace Go.Proofs.YtjagnfddmlkalaaGreatDoor
open Go.RowKit
theorem pv_cut {s : ByteArray} (hs : DG s) (n : Nat) : ∀ k, ∃ r, pv s (n + k) = pv s n * 10 ^ k + r ∧ r < 10 ^ k
  | 0 => ⟨0, by rw [Nat.pow_zero, Nat.mul_one]; rfl, by decide⟩
  | k + 1 => by
    obtain ⟨r, a, b⟩ := pv_cut hs n k
    have d := dgt_in hs (n + k)
    refine ⟨10 * r + (dgt s (n + k) - 48), ?_, by rw [Nat.pow_succ]; omega⟩
    show 10 * pv s (n + k) + (dgt s (n + k) - 48) = _
    rw [a, Nat.pow_succ, ← Nat.mul_assoc]
    omega
theorem pv_nines2 {s : ByteArray} {m : Nat} : ∀ k, (∀ i, m ≤ i → i < m + k → dgt s i = 57) → pv s (m + k) + 1 = (pv s m + 1) * 10 ^ k
  | 0, _ => by rw [Nat.pow_zero, Nat.mul_one]; rfl
  | k + 1, h => by
    have ih := pv_nines2 k (fun i a b => h i a (by omega))
    have e := h (m + k) (by omega) (by omega)
    show 10 * pv s (m + k) + (dgt s (m + k) - 48) + 1 = _
    rw [Nat.pow_succ, ← Nat.mul_assoc, ← ih, e]
    omega
theorem pv_pre {s : ByteArray} {m : Nat} (hm : m ≤ s.size) : pv (s.extract 0 m) m = pv s m := pv_ext m fun _ hj => pre_dgt hm hj
theorem pv_upS {s : ByteArray} (hd : DG s) {m : Nat} (h0 : 0 < m) (hm : m ≤ s.size) : pv (upS s m) m = pv s m + 1 := by
 obtain ⟨a, b⟩ := upS_dgt hd h0 hm
 obtain ⟨k, rfl⟩ : ∃ k, m = k + 1 := ⟨m - 1, by omega⟩
 have d := dgt_in hd k
 rw [Nat.add_sub_cancel] at a b
 show 10 * pv (upS s (k + 1)) k + (dgt (upS s (k + 1)) k - 48) = 10 * pv s k + (dgt s k - 48) + 1
 rw [pv_ext k a, b]
 omega
theorem mod_mul_none {x S : Nat} (S0 : 0 < S) (hx : x % S = 0) : x / S * S = x ∧ (x + (S - 1)) / S * S = x := by
 have dm := Nat.div_add_mod x S
 rw [hx, Nat.add_zero] at dm
 obtain ⟨q, rfl⟩ : ∃ q, x = S * q := ⟨x / S, dm.symm⟩
 refine ⟨by rw [Nat.mul_div_cancel_left _ S0, Nat.mul_comm], ?_⟩
 rw [Nat.mul_add_div S0 q (S - 1), Nat.div_eq_of_lt (show S - 1 < S by omega), Nat.add_zero, Nat.mul_comm]
theorem up_some {x S : Nat} (S0 : 0 < S) (hx : 0 < x % S) : (x + (S - 1)) / S = x / S + 1 := by
 have dm := Nat.div_add_mod x S
 have md := Nat.mod_lt x S0
 refine Nat.div_eq_of_lt_le ?_ ?_
 · rw [Nat.add_mul, Nat.one_mul, Nat.mul_comm]; omega
 · rw [Nat.add_mul, Nat.add_mul, Nat.one_mul, Nat.mul_comm]; omega
structure Du (s : ByteArray) (p : Int) (n : Nat) (s1 s2 : ByteArray) (p2 : Int) : Prop where
 way : (s.size ≤ n ∧ s1 = s ∧ s2 = s ∧ p2 = p) ∨ (n < s.size ∧ ∃ m k, 0 < m ∧ m ≤ n ∧ (∀ i, m ≤ i → i < n → dgt s i = 48) ∧ dgt s (m - 1) ≠ 48 ∧ s1 = s.extract 0 m ∧
  k ≤ n ∧ (∀ i, k ≤ i → i < n → dgt s i = 57) ∧ ((k = 0 ∧ s2 = ⟨#[49]⟩ ∧ p2 = p + 1) ∨ (0 < k ∧ dgt s (k - 1) ≠ 57 ∧ s2 = upS s k ∧ p2 = p)))
theorem du_all {s : ByteArray} {p : Int} {X A : Nat} (h : Dx s p X) (h0 : 0 < s.size) (hp : p ≤ 1000) (pa : p + (R0 : Int) = (A : Int)) {n : Nat} (n0 : 0 < n) :
 ∃ s1 s2 p2, Dx s1 p (X / 10 ^ (A - n) * 10 ^ (A - n)) ∧ Dx s2 p2 ((X + (10 ^ (A - n) - 1)) / 10 ^ (A - n) * 10 ^ (A - n)) ∧ Du s p n s1 s2 p2 := by
 have g := h.vn h0
 have nf := vn_nf g
 have lo := h.lo
 have hl := g.len
 have vl := h.vl
 rw [pa] at vl lo
 have vl' : pv s s.size * 10 ^ (A - s.size) = X := by rw [← vl]; congr 2; omega
 by_cases c : s.size ≤ n
 · have S0 : 0 < 10 ^ (A - n) := Nat.pow_pos (by decide)
   have mz : X % 10 ^ (A - n) = 0 := by
    rw [← vl', show A - s.size = (A - s.size - (A - n)) + (A - n) by omega, Nat.pow_add, ← Nat.mul_assoc, Nat.mul_mod_left]
   obtain ⟨q1, q2⟩ := mod_mul_none S0 mz
   rw [q1, q2]
   exact ⟨s, s, p, h, h, ⟨Or.inl ⟨c, rfl, rfl, rfl⟩⟩⟩
 · have c' : n < s.size := by omega
   obtain ⟨m, m1, m2, m3⟩ := zeros_at s n
   obtain ⟨k, k1, k2, k3⟩ := nines_at s n
   have mz : 0 < m := by
    rcases Nat.eq_zero_or_pos m with c | c
    · exact absurd (m2 0 (by omega) (by omega)) nf.first
    · exact c
   obtain ⟨r, e1, e2⟩ := pv_cut g.dg n (s.size - n)
   rw [show n + (s.size - n) = s.size by omega] at e1
   have r0 : 0 < r := by
    apply Nat.pos_of_ne_zero
    intro z
    rw [z, Nat.add_zero, show s.size - n = s.size - n - 1 + 1 by omega, Nat.pow_succ, ← Nat.mul_assoc] at e1
    have := pv_last g.dg h0 nf.last
    omega
   have S0 : 0 < 10 ^ (A - n) := Nat.pow_pos (by decide)
   have AS : A - n = (s.size - n) + (A - s.size) := by omega
   have xq : X = 10 ^ (A - n) * pv s n + r * 10 ^ (A - s.size) := by
    rw [← vl', e1, AS, Nat.pow_add, Nat.add_mul]
    congr 1
    ac_rfl
   have rl : r * 10 ^ (A - s.size) < 10 ^ (A - n) := by
    rw [AS, Nat.pow_add]
    exact Nat.mul_lt_mul_of_pos_right e2 (Nat.pow_pos (by decide))
   have rp : 0 < r * 10 ^ (A - s.size) := Nat.mul_pos r0 (Nat.pow_pos (by decide))
   have dq : X / 10 ^ (A - n) = pv s n := by rw [xq, Nat.mul_add_div S0, Nat.div_eq_of_lt rl, Nat.add_zero]
   have mq : X % 10 ^ (A - n) = r * 10 ^ (A - s.size) := by rw [xq, Nat.mul_add_mod, Nat.mod_eq_of_lt rl]
   rw [up_some S0 (by rw [mq]; exact rp), dq]
   have D1 : Dx (s.extract 0 m) p (pv s n * 10 ^ (A - n)) := by
    have z := pre_size (s := s) (k := m) (by omega)
    refine ⟨Or.inr (nf_vn ⟨by omega, pre_dg g.dg (by omega), by rw [pre_dgt (by omega) mz]; exact nf.first, by rw [z, pre_dgt (by omega) (by omega)]; exact m3 mz⟩ (by omega) g.lo g.hi), by omega, ?_⟩
    rw [z, pv_pre (by omega), pa]
    have q := pv_noughts (s := s) (m := m) (n - m) (fun i a b => m2 i a (by omega))
    rw [show m + (n - m) = n by omega] at q
    rw [q, Nat.mul_assoc, ← Nat.pow_add]
    congr 2
    omega
   have q := pv_nines2 (s := s) (m := k) (n - k) (fun i a b => k2 i a (by omega))
   rw [show k + (n - k) = n by omega] at q
   by_cases kz : k = 0
   · subst kz
     have glo := g.lo
     refine ⟨_, ⟨#[49]⟩, p + 1, D1, ⟨Or.inr ⟨by decide, by decide, dg_one, by decide, Or.inl (by decide), by omega, by omega⟩, ?_, ?_⟩, ⟨Or.inr ⟨c', m, 0, mz, m1, m2, m3 mz, rfl, k1, k2, Or.inl ⟨rfl, rfl, rfl⟩⟩⟩⟩
     · show ((1 : Nat) : Int) ≤ _
       omega
     · rw [show p + 1 + (R0 : Int) = ((A + 1 : Nat) : Int) by omega, q]
       show 1 * 10 ^ (((A + 1 : Nat) : Int) - ((1 : Nat) : Int)).toNat = (0 + 1) * 10 ^ (n - 0) * 10 ^ (A - n)
       rw [Nat.zero_add, Nat.one_mul, Nat.one_mul, ← Nat.pow_add]
       congr 1
       omega
   · have z := upS_size (s := s) (m := k) (by omega) (by omega)
     obtain ⟨u1, u2⟩ := upS_dgt g.dg (m := k) (by omega) (by omega)
     have d9 := k3 (by omega)
     have dk := dgt_in g.dg (k - 1)
     refine ⟨_, upS s k, p, D1, ⟨Or.inr (nf_vn ⟨by omega, ?_, ?_, by rw [z, u2]; omega⟩ (by omega) g.lo g.hi), by omega, ?_⟩, ⟨Or.inr ⟨c', m, k, mz, m1, m2, m3 mz, rfl, k1, k2, Or.inr ⟨by omega, d9, rfl, rfl⟩⟩⟩⟩
     · intro i hi
       rw [← dgt_lt hi]
       by_cases c : i < k - 1
       · rw [u1 i c]; exact dgt_in g.dg i
       · rw [show i = k - 1 by omega, u2]; omega
     · by_cases c : 0 < k - 1
       · rw [u1 0 c]; exact nf.first
       · have : k - 1 = 0 := by omega
         rw [this] at u2
         have d0 := dgt_in g.dg 0
         rw [this] at dk
         rw [u2]; omega
     · rw [z, pv_upS g.dg (by omega) (by omega), pa, q, Nat.mul_assoc, ← Nat.pow_add]
       congr 2
       omega
theorem du_dn {s : ByteArray} {p : Int} {n : Nat} {s1 s2 : ByteArray} {p2 : Int} (g : VN s p false) (hn : n ≤ 800) (D : Du s p n s1 s2 p2) (W : World) :
 Calls Tryz.prog 11 #[dcV s p false, .int .i64 n] W fun e w' => e = .returned (.tuple #[dcV s1 p false, .nilIface]) ∧ Below W.heap.size W w' := by
 have hl := g.len
 have mr : ∀ known, MR s p false (n : Int) known := fun known => ⟨Or.inr g, by omega, by omega, fun z => by cases z⟩
 rcases D.way with ⟨c, e1, e2, e3⟩ | ⟨c, m, k, mz, m1, m2, m3, rfl, k1, k2, K⟩
 · rw [e1]
   exact ddown_ok (mr _) (fun W => below_self (Or.inr g : VD _ _ _) (n := n) (by omega) c W) W
 · refine ddown_ok (mr _) (fun W => ?_) W
   have q := below_any (s := s) (p := p) (c := false) (by omega) (n := n) (k := n) (by omega) (by omega) m1 m2 (fun _ => m3) W
   unfold lowD at q
   rw [if_neg (by omega)] at q
   exact q
theorem du_below {s : ByteArray} {p : Int} {n : Nat} {s1 s2 : ByteArray} {p2 : Int} (g : VN s p false) (hn : n ≤ 800) (D : Du s p n s1 s2 p2) (W : World) :
 Calls Tryz.prog 25 #[dcV s p false, .int .i64 n] W fun e w' => e = .returned (dcV s1 p false) ∧ Below W.heap.size W w' := by
 have hl := g.len
 rcases D.way with ⟨c, e1, e2, e3⟩ | ⟨c, m, k, mz, m1, m2, m3, rfl, k1, k2, K⟩
 · rw [e1]
   exact below_self (Or.inr g : VD _ _ _) (n := n) (by omega) c W
 · have q := below_any (s := s) (p := p) (c := false) (by omega) (n := n) (k := n) (by omega) (by omega) m1 m2 (fun _ => m3) W
   unfold lowD at q
   rw [if_neg (by omega)] at q
   exact q
theorem du_above {s : ByteArray} {p : Int} {n : Nat} {s1 s2 : ByteArray} {p2 : Int} (g : VN s p false) (hp : p ≤ 1000) (D : Du s p n s1 s2 p2) (c : n < s.size) (W : World) :
 Calls Tryz.prog 27 #[dcV s p false, .int .i64 n] W fun e w' => e = .returned (.tuple #[dcV s2 p2 false, .nilIface]) ∧ Below W.heap.size W w' := by
 have hl := g.len
 rcases D.way with ⟨c2, e1, e2, e3⟩ | ⟨_, m, k, mz, m1, m2, m3, rfl, k1, k2, K⟩
 · omega
 · rcases K with ⟨rfl, rfl, rfl⟩ | ⟨k0, d9, rfl, rfl⟩
   · have q := above_none (s := s) (p := p) (c := false) (by omega) (n := n) (by omega) (fun i hi => k2 i (Nat.zero_le _) hi) g.lo (by omega) W
     rw [if_neg (by omega)] at q
     exact q
   · exact above_some g.dg hl (by omega) k1 k0 (fun i a b => k2 i a b) d9 W
theorem du_up {s : ByteArray} {p : Int} {n : Nat} {s1 s2 : ByteArray} {p2 : Int} (g : VN s p false) (hp : p ≤ 1000) (hn : n ≤ 800) (D : Du s p n s1 s2 p2) (W : World) :
 Calls Tryz.prog 12 #[dcV s p false, .int .i64 n] W fun e w' => e = .returned (.tuple #[dcV s2 p2 false, .nilIface]) ∧ Below W.heap.size W w' := by
 have hl := g.len
 have mr : ∀ known, MR s p false (n : Int) known := fun known => ⟨Or.inr g, by omega, by omega, fun z => by cases z⟩
 by_cases c : s.size ≤ n
 · have on : onB s false (n : Int) = false := by unfold onB; rw [Bool.false_or]; exact decide_eq_false (by omega)
   rcases D.way with ⟨_, e1, e2, e3⟩ | ⟨c2, _⟩
   · rw [e2, e3]
     exact dup_off (mr _) on (fun W => below_self (Or.inr g : VD _ _ _) (n := n) (by omega) c W) W
   · omega
 · have on : onB s false (n : Int) = true := by unfold onB; rw [Bool.false_or]; exact decide_eq_true (by omega)
   exact dup_on (mr _) on (fun W => du_above g hp D (by omega) W) W
theorem du_round {s : ByteArray} {p : Int} {n : Nat} {s1 s2 : ByteArray} {p2 : Int} (g : VN s p false) (hp : p ≤ 1000) (hn : n ≤ 800) (D : Du s p n s1 s2 p2) (W : World) :
    Calls Tryz.prog 13 #[dcV s p false, .int .i64 n] W fun e w' => e = .returned (.tuple #[if n < s.size ∧ upB s false n = true then dcV s2 p2 false else dcV s1 p false, .nilIface]) ∧ Below W.heap.size W w' := by
  have hl := g.len
  have mr : ∀ known, MR s p false (n : Int) known := fun known => ⟨Or.inr g, by omega, by omega, fun z => by cases z⟩
  by_cases c : n < s.size
  · have on : onB s false (n : Int) = true := by unfold onB; rw [Bool.false_or]; exact decide_eq_true (by omega)
    have U := fun W => roundsUp_any (p := p) (c := false) g.dg c hl W
    cases u : upB s false n with
    | true =>
      rw [u] at U
      rw [if_pos ⟨c, rfl⟩]
      exact dround_up (mr _) on U (fun W => du_above g hp D c W) W
    | false =>
      rw [u] at U
      rw [if_neg (fun z => by cases z.2)]
      exact dround_dn (mr _) on U (fun W => du_below g hn D W) W
  · have on : onB s false (n : Int) = false := by unfold onB; rw [Bool.false_or]; exact decide_eq_false (by omega)
    rw [if_neg (fun z => c z.1)]
    exact dround_off (mr _) on (fun W => du_below g hn D W) W
def tenT (n : Nat) : ByteArray := ⟨(Lib.decDigits n).toArray⟩
theorem ten_size (n : Nat) : (tenT n).size = Lib.nDigits n := by
 show (Lib.decDigits n).toArray.size = _
 rw [List.size_toArray, Lib.decDigits_length]
theorem ten_dgt {n i : Nat} (hi : i < Lib.nDigits n) : dgt (tenT n) i = 48 + n / 10 ^ (Lib.nDigits n - 1 - i) % 10 := by
 have hs : i < (tenT n).size := by rw [ten_size]; exact hi
 rw [dgt_lt hs]
 have e : (tenT n)[i]'hs = (Lib.decDigits n)[i]'(by rw [Lib.decDigits_length]; exact hi) := rfl
 rw [e]
 have q : (Lib.decDigits n)[i]'(by rw [Lib.decDigits_length]; exact hi) = Lib.dg n (Lib.nDigits n - 1 - i) := by
  simp only [Lib.decDigits_eq n, List.getElem_map, List.getElem_range]
 rw [q]
 unfold Lib.dg
 rw [UInt8.toNat_ofNat']
 omega
theorem ten_low (n : Nat) (n0 : 0 < n) : 10 ^ (Lib.nDigits n - 1) ≤ n := by
  induction n using Nat.strongRecOn with
  | _ n ih =>
    by_cases h : n < 10
    · rw [Lib.nDigits_small h]; show 10 ^ 0 ≤ n; rw [Nat.pow_zero]; exact n0
    · rw [Lib.nDigits_big h, Nat.add_sub_cancel]
      have a := ih (n / 10) (by omega) (by omega)
      have b := Lib.nDigits_pos (n / 10)
      rw [show Lib.nDigits (n / 10) = Lib.nDigits (n / 10) - 1 + 1 by omega, Nat.pow_succ]
      omega
theorem ten_pv {n : Nat} : ∀ k, k ≤ Lib.nDigits n → pv (tenT n) k = n / 10 ^ (Lib.nDigits n - k)
  | 0, _ => by
    rw [Nat.sub_zero, Nat.div_eq_of_lt (Lib.lt_pow_nDigits n)]
    rfl
  | k + 1, h => by
    show 10 * pv (tenT n) k + (dgt (tenT n) k - 48) = _
    rw [ten_pv k (by omega), ten_dgt (by omega), Nat.add_sub_cancel_left, show Lib.nDigits n - k = Lib.nDigits n - (k + 1) + 1 by omega, show Lib.nDigits n - 1 - k = Lib.nDigits n - (k + 1) by omega, Nat.pow_succ, ← Nat.div_div_eq_div_mul]
    omega
theorem ten_short {n m : Nat} (h : n < 10 ^ m) (m0 : 0 < m) : Lib.nDigits n ≤ m := by
 rcases Nat.eq_zero_or_pos n with z | z
 · rw [z, Lib.nDigits_small (by decide)]; exact m0
 · have a := ten_low n z
   have := (Nat.pow_lt_pow_iff_right (a := 10) (by decide)).1 (Nat.lt_of_le_of_lt a h)
   omega
theorem ten_dx {n : Nat} {j : Int} (h : n % 10 ≠ 0) (hn : n < 10 ^ 20) (j0 : -(R0 : Int) ≤ j) (j1 : j ≤ 1000) : Dx (tenT n) ((Lib.nDigits n : Int) + j) (n * 10 ^ (j + (R0 : Int)).toNat) := by
 have n0 : 0 < n := by omega
 have s := ten_size n
 have p := Lib.nDigits_pos n
 have le := ten_short hn (by decide)
 have hj : (R0 : Int) = 1100 := rfl
 refine ⟨Or.inr (nf_vn ⟨by omega, fun i hi => ?_, ?_, ?_⟩ (by omega) (by omega) (by omega)), by omega, ?_⟩
 · rw [← dgt_lt hi, ten_dgt (by omega)]
   omega
 · have q := ten_pv (n := n) 1 p
   have lo := ten_low n n0
   have e : pv (tenT n) 1 = 10 * 0 + (dgt (tenT n) 0 - 48) := rfl
   rw [e] at q
   have g : 0 < n / 10 ^ (Lib.nDigits n - 1) := Nat.div_pos lo (Nat.pow_pos (by decide))
   omega
 · rw [s, ten_dgt (by omega), Nat.sub_self, Nat.pow_zero, Nat.div_one]
   omega
 · rw [s, ten_pv _ (Nat.le_refl _), Nat.sub_self, Nat.pow_zero, Nat.div_one]
   congr 2
   omega
theorem cut_num {s : ByteArray} {p : Int} {X A : Nat} (h : Dx s p X) (h0 : 0 < s.size) (pa : p + (R0 : Int) = (A : Int)) {n : Nat} (hn : n < s.size) :
 ∃ r t, X / 10 ^ (A - n) = pv s n ∧ X % 10 ^ (A - n) = ((dgt s n - 48) * 10 ^ t + r) * 10 ^ (A - s.size) ∧ 10 ^ (A - n) = 10 * 10 ^ t * 10 ^ (A - s.size) ∧ r < 10 ^ t ∧ (r = 0 ↔ n + 1 = s.size) := by
 have g := h.vn h0
 have nf := vn_nf g
 have lo := h.lo
 have vl := h.vl
 rw [pa] at vl lo
 have vl' : pv s s.size * 10 ^ (A - s.size) = X := by rw [← vl]; congr 2; omega
 obtain ⟨r, e1, e2⟩ := pv_cut g.dg (n + 1) (s.size - (n + 1))
 rw [show n + 1 + (s.size - (n + 1)) = s.size by omega] at e1
 have es : pv s (n + 1) = 10 * pv s n + (dgt s n - 48) := rfl
 have AS : A - n = 1 + (s.size - (n + 1)) + (A - s.size) := by omega
 have eS : 10 ^ (A - n) = 10 * 10 ^ (s.size - (n + 1)) * 10 ^ (A - s.size) := by rw [AS, Nat.pow_add, Nat.pow_add, Nat.pow_one]
 have d := dgt_in g.dg n
 have P0 : 0 < 10 ^ (A - s.size) := Nat.pow_pos (by decide)
 have small : (dgt s n - 48) * 10 ^ (s.size - (n + 1)) + r < 10 * 10 ^ (s.size - (n + 1)) := by
  have : (dgt s n - 48) * 10 ^ (s.size - (n + 1)) ≤ 9 * 10 ^ (s.size - (n + 1)) := Nat.mul_le_mul_right _ (by omega)
  omega
 have xq : X = 10 ^ (A - n) * pv s n + ((dgt s n - 48) * 10 ^ (s.size - (n + 1)) + r) * 10 ^ (A - s.size) := by
  rw [← vl', e1, es, eS]
  generalize 10 ^ (s.size - (n + 1)) = a
  generalize 10 ^ (A - s.size) = c
  generalize dgt s n - 48 = k
  generalize pv s n = v
  rw [Nat.add_mul, Nat.add_mul, Nat.add_mul, Nat.add_mul, Nat.mul_assoc 10 a c, Nat.mul_assoc 10 v a, Nat.mul_assoc 10 (v * a) c, Nat.mul_assoc 10 (a * c) v, Nat.mul_assoc v a c, Nat.mul_comm (a * c) v]
  omega
 have lt : ((dgt s n - 48) * 10 ^ (s.size - (n + 1)) + r) * 10 ^ (A - s.size) < 10 ^ (A - n) := by
  rw [eS]
  exact Nat.mul_lt_mul_of_pos_right small P0
 have S0 : 0 < 10 ^ (A - n) := Nat.pow_pos (by decide)
 refine ⟨r, s.size - (n + 1), ?_, ?_, eS, e2, ?_⟩
 · rw [xq, Nat.mul_add_div S0, Nat.div_eq_of_lt lt, Nat.add_zero]
 · have e := Nat.mul_add_mod (10 ^ (A - n)) (pv s n) (((dgt s n - 48) * 10 ^ (s.size - (n + 1)) + r) * 10 ^ (A - s.size))
   rw [← xq, Nat.mod_eq_of_lt lt] at e
   exact e
 · constructor
   · intro z
     apply Nat.le_antisymm (by omega)
     apply Nat.le_of_not_lt
     intro c
     rw [z, Nat.add_zero, show s.size - (n + 1) = s.size - (n + 1) - 1 + 1 by omega, Nat.pow_succ, ← Nat.mul_assoc] at e1
     have := pv_last g.dg h0 nf.last
     omega
   · intro z
     rw [show s.size - (n + 1) = 0 by omega, Nat.pow_zero] at e2
     omega
theorem half_num {s : ByteArray} {p : Int} {X A : Nat} (h : Dx s p X) (h0 : 0 < s.size) (pa : p + (R0 : Int) = (A : Int)) {n : Nat} (hn : n < s.size) :
 (10 ^ (A - n) < 2 * (X % 10 ^ (A - n)) ↔ 53 < dgt s n ∨ (dgt s n = 53 ∧ n + 1 < s.size)) ∧ (2 * (X % 10 ^ (A - n)) = 10 ^ (A - n) ↔ dgt s n = 53 ∧ n + 1 = s.size) := by
 obtain ⟨r, t, _, e2, e3, e4, e5⟩ := cut_num h h0 pa hn
 have d := dgt_in (h.vn h0).dg n
 rw [e2, e3]
 have P0 : 0 < 10 ^ (A - s.size) := Nat.pow_pos (by decide)
 have k1 : 10 * 10 ^ t * 10 ^ (A - s.size) < 2 * (((dgt s n - 48) * 10 ^ t + r) * 10 ^ (A - s.size)) ↔ 10 * 10 ^ t < 2 * ((dgt s n - 48) * 10 ^ t + r) := by
  rw [← Nat.mul_assoc 2]; exact Nat.mul_lt_mul_right P0
 have k2 : 2 * (((dgt s n - 48) * 10 ^ t + r) * 10 ^ (A - s.size)) = 10 * 10 ^ t * 10 ^ (A - s.size) ↔ 2 * ((dgt s n - 48) * 10 ^ t + r) = 10 * 10 ^ t := by
  rw [← Nat.mul_assoc 2]; exact Nat.mul_right_cancel_iff P0
 rw [k1, k2]
 generalize 10 ^ t = a at *
 have key : ∀ k, dgt s n = 48 + k → k ≤ 9 → (10 * a < 2 * (k * a + r) ↔ 53 < 48 + k ∨ (48 + k = 53 ∧ n + 1 < s.size)) ∧ (2 * (k * a + r) = 10 * a ↔ 48 + k = 53 ∧ n + 1 = s.size) := by
  intro k _ hk
  rcases (by omega : k = 0 ∨ k = 1 ∨ k = 2 ∨ k = 3 ∨ k = 4 ∨ k = 5 ∨ k = 6 ∨ k = 7 ∨ k = 8 ∨ k = 9) with rfl | rfl | rfl | rfl | rfl | rfl | rfl | rfl | rfl | rfl <;> constructor <;> constructor <;> omega
 have q := key (dgt s n - 48) (by omega) (by omega)
 rw [show 48 + (dgt s n - 48) = dgt s n by omega] at q
 exact q
theorem up_num {s : ByteArray} {p : Int} {X A : Nat} (h : Dx s p X) (h0 : 0 < s.size) (pa : p + (R0 : Int) = (A : Int)) {n : Nat} (n0 : 0 < n) (hn : n < s.size) :
 upB s false n = true ↔ 10 ^ (A - n) < 2 * (X % 10 ^ (A - n)) ∨ (2 * (X % 10 ^ (A - n)) = 10 ^ (A - n) ∧ X / 10 ^ (A - n) % 2 = 1) := by
 obtain ⟨q1, q2⟩ := half_num h h0 pa hn
 obtain ⟨_, _, e1, _⟩ := cut_num h h0 pa hn
 rw [q1, q2, e1]
 have d := dgt_in (h.vn h0).dg (n - 1)
 have par : pv s n % 2 = (dgt s (n - 1) - 48) % 2 := by
  obtain ⟨k, rfl⟩ : ∃ k, n = k + 1 := ⟨n - 1, by omega⟩
  show (10 * pv s k + (dgt s k - 48)) % 2 = _
  rw [Nat.add_sub_cancel]
  omega
 rw [par]
 unfold upB
 by_cases c : dgt s n = 53
 · rw [if_pos c, Bool.false_or]
   simp only [Bool.or_eq_true, Bool.and_eq_true, decide_eq_true_eq]
   omega
 · rw [if_neg c, decide_eq_true_eq]
   omega
end Go.Proofs.YtjagnfddmlkalaaGreatDoor
