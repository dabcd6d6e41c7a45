/-
  Holds: IvU VBtE IvN IvJ IvL IvZ LawIvE LawIvF LawIvG0 LawIvG1 LawIvG2 LawIvG3 LawIvH.
-/
import Derived.Test.YtdfefjcobeopbaaDoorRows
import Derived.Laws.Externs
import Derived.WalkKit
import Derived.WalkSpells
import Derived.WalkLawsBesides
import Derived.Lib.Mul64
import Derived.Stop.Asserts
import Derived.RowKitTokens
import Derived.Lib.Strings
import Derived.Lib.BufferWrite
import Derived.Deep.OwnRows
import Derived.Deep.RegionHeld3
import Derived.BigQuiet
import Derived.Lib.ConvBytes
import Derived.Laws.CopyOwn
import Derived.Lib.TrailingZeros
import Derived.Lib.ItoaNum
import Derived.Deep.LoopGhost
import Derived.Deep.AppendLies
import Derived.Deep.DeepCutAuto
import Derived.Test.YtdfefjcobeopbaaDoorKc19
import Derived.Test.YtdfefjcobeopbaaDoorKc21
set_option maxRecDepth 100000
set_option maxHeartbeats 4000000
namespace Go.Proofs.YtdfefjcobeopbaaDoor
open Go.RowKit
theorem cmp_ff {s : ByteArray} {p : Int} {t : ByteArray} {q : Int} (h1 : VD s p false) (h2 : VD t q false) (W : World) :
 Calls Tryd.prog 12 #[dcV s p false, dcV t q false] W fun e w' => e = .returned (.tuple #[.int .i64 (lowF s p t q), .nilIface]) ∧ Below W.heap.size W w' := by
 by_cases a : s.size = 0 ∨ t.size = 0
 · have r : _ = lowF s p t q := ra_empty h1 h2 a
   rw [← r]
   exact dcmp_empty h1 h2 a W
 have hs : 0 < s.size := by omega
 have ht : 0 < t.size := by omega
 by_cases b : p = q
 · subst b
   have n1 : VN s p false := h1.resolve_left (fun g => by omega)
   have n2 : VN t p false := h2.resolve_left (fun g => by omega)
   rcases first_diff s t (min s.size t.size) with g | ⟨i, g1, g2, g3⟩
   · have r : _ = lowF s p t p := ra_behind n1 n2 g
     rw [← r]
     exact dcmp_behind h1 h2 hs ht (fun j hj x y => by have := g j hj; rw [dgt_lt x, dgt_lt y] at this; exact this) W
   · have i1 : i < s.size := by omega
     have i2 : i < t.size := by omega
     have r : _ = lowF s p t p := ra_diff (p := p) (c := false) (d := false) n1.dg n2.dg i1 i2 g2 g3
     rw [← r]
     rw [dgt_lt i1, dgt_lt i2] at g3 ⊢
     exact dcmp_diff h1 h2 i i1 i2 (fun j hj x y => by have := g2 j hj; rw [dgt_lt x, dgt_lt y] at this; exact this) g3 W
 · have r : _ = lowF s p t q := ra_point (c := false) (d := false) hs ht b
   rw [← r]
   exact dcmp_point h1 h2 hs ht b W
theorem pv_cut {s : ByteArray} (hs : DG s) (n : Nat) : ∀ k, ∃ r, pv s (n + k) = pv s n * 10 ^ k + r ∧ r < 10 ^ k
  | 0 => ⟨0, by rw [Nat.pow_zero, Nat.mul_one]; rfl, by decide⟩
  | k + 1 => by
    obtain ⟨r, a, b⟩ := pv_cut hs n k
    have d := dgt_in hs (n + k)
    refine ⟨10 * r + (dgt s (n + k) - 48), ?_, by rw [Nat.pow_succ]; omega⟩
    show 10 * pv s (n + k) + (dgt s (n + k) - 48) = _
    rw [a, Nat.pow_succ, ← Nat.mul_assoc]
    omega
theorem pv_nines2 {s : ByteArray} {m : Nat} : ∀ k, (∀ i, m ≤ i → i < m + k → dgt s i = 57) → pv s (m + k) + 1 = (pv s m + 1) * 10 ^ k
  | 0, _ => by rw [Nat.pow_zero, Nat.mul_one]; rfl
  | k + 1, h => by
    have ih := pv_nines2 k (fun i a b => h i a (by omega))
    have e := h (m + k) (by omega) (by omega)
    show 10 * pv s (m + k) + (dgt s (m + k) - 48) + 1 = _
    rw [Nat.pow_succ, ← Nat.mul_assoc, ← ih, e]
    omega
theorem pv_pre {s : ByteArray} {m : Nat} (hm : m ≤ s.size) : pv (s.extract 0 m) m = pv s m := pv_ext m fun _ hj => pre_dgt hm hj
theorem pv_upS {s : ByteArray} (hd : DG s) {m : Nat} (h0 : 0 < m) (hm : m ≤ s.size) : pv (upS s m) m = pv s m + 1 := by
 obtain ⟨a, b⟩ := upS_dgt hd h0 hm
 obtain ⟨k, rfl⟩ : ∃ k, m = k + 1 := ⟨m - 1, by omega⟩
 have d := dgt_in hd k
 rw [Nat.add_sub_cancel] at a b
 show 10 * pv (upS s (k + 1)) k + (dgt (upS s (k + 1)) k - 48) = 10 * pv s k + (dgt s k - 48) + 1
 rw [pv_ext k a, b]
 omega
theorem mod_mul_none {x S : Nat} (S0 : 0 < S) (hx : x % S = 0) : x / S * S = x ∧ (x + (S - 1)) / S * S = x := by
 have dm := Nat.div_add_mod x S
 rw [hx, Nat.add_zero] at dm
 obtain ⟨q, rfl⟩ : ∃ q, x = S * q := ⟨x / S, dm.symm⟩
 refine ⟨by rw [Nat.mul_div_cancel_left _ S0, Nat.mul_comm], ?_⟩
 rw [Nat.mul_add_div S0 q (S - 1), Nat.div_eq_of_lt (show S - 1 < S by omega), Nat.add_zero, Nat.mul_comm]
theorem up_some {x S : Nat} (S0 : 0 < S) (hx : 0 < x % S) : (x + (S - 1)) / S = x / S + 1 := by
 have dm := Nat.div_add_mod x S
 have md := Nat.mod_lt x S0
 refine Nat.div_eq_of_lt_le ?_ ?_
 · rw [Nat.add_mul, Nat.one_mul, Nat.mul_comm]; omega
 · rw [Nat.add_mul, Nat.add_mul, Nat.one_mul, Nat.mul_comm]; omega
structure Du (s : ByteArray) (p : Int) (n : Nat) (s1 s2 : ByteArray) (p2 : Int) : Prop where
 way : (s.size ≤ n ∧ s1 = s ∧ s2 = s ∧ p2 = p) ∨ (n < s.size ∧ ∃ m k, 0 < m ∧ m ≤ n ∧ (∀ i, m ≤ i → i < n → dgt s i = 48) ∧ dgt s (m - 1) ≠ 48 ∧ s1 = s.extract 0 m ∧
  k ≤ n ∧ (∀ i, k ≤ i → i < n → dgt s i = 57) ∧ ((k = 0 ∧ s2 = ⟨#[49]⟩ ∧ p2 = p + 1) ∨ (0 < k ∧ dgt s (k - 1) ≠ 57 ∧ s2 = upS s k ∧ p2 = p)))
theorem du_ex {s : ByteArray} {p : Int} {X A : Nat} (h : Dx s p X) (h0 : 0 < s.size) (hp : p ≤ 1000) (pa : p + (R0 : Int) = (A : Int)) {n : Nat} (n0 : 0 < n) (hn : n ≤ 17) :
 ∃ s1 s2 p2, Dx s1 p (X / 10 ^ (A - n) * 10 ^ (A - n)) ∧ Dx s2 p2 ((X + (10 ^ (A - n) - 1)) / 10 ^ (A - n) * 10 ^ (A - n)) ∧ Du s p n s1 s2 p2 := by
 have g := h.vn h0
 have nf := vn_nf g
 have lo := h.lo
 have hl := g.len
 have vl := h.vl
 rw [pa] at vl lo
 have vl' : pv s s.size * 10 ^ (A - s.size) = X := by rw [← vl]; congr 2; omega
 by_cases c : s.size ≤ n
 · have S0 : 0 < 10 ^ (A - n) := Nat.pow_pos (by decide)
   have mz : X % 10 ^ (A - n) = 0 := by
    rw [← vl', show A - s.size = (A - s.size - (A - n)) + (A - n) by omega, Nat.pow_add, ← Nat.mul_assoc, Nat.mul_mod_left]
   obtain ⟨q1, q2⟩ := mod_mul_none S0 mz
   rw [q1, q2]
   exact ⟨s, s, p, h, h, ⟨Or.inl ⟨c, rfl, rfl, rfl⟩⟩⟩
 · have c' : n < s.size := by omega
   obtain ⟨m, m1, m2, m3⟩ := zeros_at s n
   obtain ⟨k, k1, k2, k3⟩ := nines_at s n
   have mz : 0 < m := by
    rcases Nat.eq_zero_or_pos m with c | c
    · exact absurd (m2 0 (by omega) (by omega)) nf.first
    · exact c
   obtain ⟨r, e1, e2⟩ := pv_cut g.dg n (s.size - n)
   rw [show n + (s.size - n) = s.size by omega] at e1
   have r0 : 0 < r := by
    apply Nat.pos_of_ne_zero
    intro z
    rw [z, Nat.add_zero, show s.size - n = s.size - n - 1 + 1 by omega, Nat.pow_succ, ← Nat.mul_assoc] at e1
    have := pv_last g.dg h0 nf.last
    omega
   have S0 : 0 < 10 ^ (A - n) := Nat.pow_pos (by decide)
   have AS : A - n = (s.size - n) + (A - s.size) := by omega
   have xq : X = 10 ^ (A - n) * pv s n + r * 10 ^ (A - s.size) := by
    rw [← vl', e1, AS, Nat.pow_add, Nat.add_mul]
    congr 1
    ac_rfl
   have rl : r * 10 ^ (A - s.size) < 10 ^ (A - n) := by
    rw [AS, Nat.pow_add]
    exact Nat.mul_lt_mul_of_pos_right e2 (Nat.pow_pos (by decide))
   have rp : 0 < r * 10 ^ (A - s.size) := Nat.mul_pos r0 (Nat.pow_pos (by decide))
   have dq : X / 10 ^ (A - n) = pv s n := by rw [xq, Nat.mul_add_div S0, Nat.div_eq_of_lt rl, Nat.add_zero]
   have mq : X % 10 ^ (A - n) = r * 10 ^ (A - s.size) := by rw [xq, Nat.mul_add_mod, Nat.mod_eq_of_lt rl]
   rw [up_some S0 (by rw [mq]; exact rp), dq]
   have D1 : Dx (s.extract 0 m) p (pv s n * 10 ^ (A - n)) := by
    have z := pre_size (s := s) (k := m) (by omega)
    refine ⟨Or.inr (nf_vn ⟨by omega, pre_dg g.dg (by omega), by rw [pre_dgt (by omega) mz]; exact nf.first, by rw [z, pre_dgt (by omega) (by omega)]; exact m3 mz⟩ (by omega) g.lo g.hi), by omega, ?_⟩
    rw [z, pv_pre (by omega), pa]
    have q := pv_noughts (s := s) (m := m) (n - m) (fun i a b => m2 i a (by omega))
    rw [show m + (n - m) = n by omega] at q
    rw [q, Nat.mul_assoc, ← Nat.pow_add]
    congr 2
    omega
   have q := pv_nines2 (s := s) (m := k) (n - k) (fun i a b => k2 i a (by omega))
   rw [show k + (n - k) = n by omega] at q
   by_cases kz : k = 0
   · subst kz
     have glo := g.lo
     refine ⟨_, ⟨#[49]⟩, p + 1, D1, ⟨Or.inr ⟨by decide, by decide, dg_one, by decide, Or.inl (by decide), by omega, by omega⟩, ?_, ?_⟩, ⟨Or.inr ⟨c', m, 0, mz, m1, m2, m3 mz, rfl, k1, k2, Or.inl ⟨rfl, rfl, rfl⟩⟩⟩⟩
     · show ((1 : Nat) : Int) ≤ _
       omega
     · rw [show p + 1 + (R0 : Int) = ((A + 1 : Nat) : Int) by omega, q]
       show 1 * 10 ^ (((A + 1 : Nat) : Int) - ((1 : Nat) : Int)).toNat = (0 + 1) * 10 ^ (n - 0) * 10 ^ (A - n)
       rw [Nat.zero_add, Nat.one_mul, Nat.one_mul, ← Nat.pow_add]
       congr 1
       omega
   · have z := upS_size (s := s) (m := k) (by omega) (by omega)
     obtain ⟨u1, u2⟩ := upS_dgt g.dg (m := k) (by omega) (by omega)
     have d9 := k3 (by omega)
     have dk := dgt_in g.dg (k - 1)
     refine ⟨_, upS s k, p, D1, ⟨Or.inr (nf_vn ⟨by omega, ?_, ?_, by rw [z, u2]; omega⟩ (by omega) g.lo g.hi), by omega, ?_⟩, ⟨Or.inr ⟨c', m, k, mz, m1, m2, m3 mz, rfl, k1, k2, Or.inr ⟨by omega, d9, rfl, rfl⟩⟩⟩⟩
     · intro i hi
       rw [← dgt_lt hi]
       by_cases c : i < k - 1
       · rw [u1 i c]; exact dgt_in g.dg i
       · rw [show i = k - 1 by omega, u2]; omega
     · by_cases c : 0 < k - 1
       · rw [u1 0 c]; exact nf.first
       · have : k - 1 = 0 := by omega
         rw [this] at u2
         have d0 := dgt_in g.dg 0
         rw [this] at dk
         rw [u2]; omega
     · rw [z, pv_upS g.dg (by omega) (by omega), pa, q, Nat.mul_assoc, ← Nat.pow_add]
       congr 2
       omega
theorem du_prog {s : ByteArray} {p : Int} {n : Nat} {s1 s2 : ByteArray} {p2 : Int} (g : VN s p false) (hp : p ≤ 1000) (n0 : 0 < n) (hn : n ≤ 17) (D : Du s p n s1 s2 p2) :
 (∀ W, Calls Tryd.prog 20 #[dcV s p false, .int .i64 n] W fun e w' => e = .returned (.tuple #[dcV s1 p false, .nilIface]) ∧ Below W.heap.size W w') ∧
 (∀ W, Calls Tryd.prog 21 #[dcV s p false, .int .i64 n] W fun e w' => e = .returned (.tuple #[dcV s2 p2 false, .nilIface]) ∧ Below W.heap.size W w') := by
 have nf := vn_nf g
 have hl := g.len
 have mr : ∀ known, MR s p false (n : Int) known := fun known => ⟨Or.inr g, by omega, by omega, fun z => by cases z⟩
 rcases D.way with ⟨c, e1, e2, e3⟩ | ⟨c, m, k, mz, m1, m2, m3, rfl, k1, k2, K⟩
 · rw [e1, e2, e3]
   have B := fun W => below_self (Or.inr g : VD _ _ _) (n := n) (by omega) c W
   have on : onB s false (n : Int) = false := by unfold onB; rw [Bool.false_or]; exact decide_eq_false (by omega)
   exact ⟨fun W => ddown_ok (mr _) B W, fun W => dup_off (mr _) on B W⟩
 · have on : onB s false (n : Int) = true := by unfold onB; rw [Bool.false_or]; exact decide_eq_true (by omega)
   refine ⟨fun W => ddown_ok (mr _) (fun W => ?_) W, fun W => dup_on (mr _) on (fun W => ?_) W⟩
   · have q := below_any (s := s) (p := p) (c := false) (by omega) (n := n) (k := n) (by omega) (by omega) m1 m2 (fun _ => m3) W
     unfold lowD at q
     rw [if_neg (by omega)] at q
     exact q
   · rcases K with ⟨rfl, rfl, rfl⟩ | ⟨k0, d9, rfl, rfl⟩
     · have q := above_none (s := s) (p := p) (c := false) (by omega) (n := n) (by omega) (fun i hi => k2 i (Nat.zero_le _) hi) g.lo (by omega) W
       rw [if_neg (by omega)] at q
       exact q
     · exact above_some g.dg hl (by omega) k1 k0 (fun i a b => k2 i a b) d9 W
theorem next_ok {b s : Int} {c : Int} (q1 : (c == 4) = false) (q2 : (c == 3) = false) (h0 : 0 ≤ b) (h1 : b + 1 < 18446744073709551616) (HC : ∀ W, Calls Tryd.prog 4 #[.int .u64 b, .int .i64 s] W fun e w' => e = .returned (.tuple #[.int .i64 c, .nilIface]) ∧ Below W.heap.size W w') (w : World) : Calls Tryd.prog 11 #[.int .u64 b, .int .i64 s] w fun e w' => e = .returned (.tuple #[.int .u64 (b + 1), .nilIface]) ∧ Below w.heap.size w w' := by
 go_enter Tryd.func11, Tryd.ntmps11
 go_wp2_with fail
 refine (HC _).mono ?_
 rintro e w1 ⟨rfl, hb⟩
 have B : Hid (Below w.heap.size w w1) := hb
 clear hb
 go_wp2
 go_ret2
 exact ⟨rfl, B.out⟩
theorem prev_end {b s : Int}  (HC : ∀ W, Calls Tryd.prog 4 #[.int .u64 b, .int .i64 s] W fun e w' => e = .returned (.tuple #[.int .i64 1, .nilIface]) ∧ Below W.heap.size W w') (w : World) : Calls Tryd.prog 10 #[.int .u64 b, .int .i64 s] w fun e w' => e = .returned (.tuple #[.int .u64 0, .iface 56 (.int .i64 4)]) ∧ Below w.heap.size w w' := by
 go_enter Tryd.func10, Tryd.ntmps10
 go_wp2_with fail
 refine (HC _).mono ?_
 rintro e w1 ⟨rfl, hb⟩
 have B : Hid (Below w.heap.size w w1) := hb
 clear hb
 go_wp2
 go_ret2
 exact ⟨rfl, B.out⟩
theorem prev_ok {b s : Int} {c : Int} (q1 : (c == 4) = false) (q2 : (c == 1) = false) (h0 : 1 ≤ b) (h1 : b < 18446744073709551616) (HC : ∀ W, Calls Tryd.prog 4 #[.int .u64 b, .int .i64 s] W fun e w' => e = .returned (.tuple #[.int .i64 c, .nilIface]) ∧ Below W.heap.size W w') (w : World) : Calls Tryd.prog 10 #[.int .u64 b, .int .i64 s] w fun e w' => e = .returned (.tuple #[.int .u64 (b - 1), .nilIface]) ∧ Below w.heap.size w w' := by
 go_enter Tryd.func10, Tryd.ntmps10
 go_wp2_with fail
 refine (HC _).mono ?_
 rintro e w1 ⟨rfl, hb⟩
 have B : Hid (Below w.heap.size w w1) := hb
 clear hb
 go_wp2
 go_ret2
 exact ⟨rfl, B.out⟩
def Fs (f T : Nat) (L : Int) : Prop := (f = 23 ∧ T = 255 ∧ L = -149) ∨ (f = 52 ∧ T = 2047 ∧ L = -1074)
def vlF (f : Nat) (L : Int) (m : Nat) : Nat := fv (mt f m) (xp f L m)
def hiF (f : Nat) (L : Int) (m : Nat) : Nat := fv (2 * mt f m + 1) (xp f L m - 1)
def loF (f : Nat) (L : Int) : Nat → Nat
 | 0 => 0
 | k + 1 => hiF f L k
theorem mt_lt {f T : Nat} {L : Int} (h : Fs f T L) (m : Nat) : mt f m < 2 ^ 53 := by
 have g := (parts_good f L m).1
 rcases h with ⟨rfl, _, _⟩ | ⟨rfl, _, _⟩
 · exact Nat.lt_of_lt_of_le g (by decide)
 · exact g
theorem xp_in {f T : Nat} {L : Int} (h : Fs f T L) {m : Nat} (hm : m < T * 2 ^ f) : -1074 ≤ xp f L m ∧ xp f L m ≤ 971 := by
 have g := (parts_good f L m).2.1
 have q : m / 2 ^ f < T := by rw [Nat.div_lt_iff_lt_mul (Nat.two_pow_pos f)]; exact hm
 unfold xp at g ⊢
 generalize m / 2 ^ f = d at *
 rcases h with ⟨rfl, rfl, rfl⟩ | ⟨rfl, rfl, rfl⟩ <;> (split at g <;> (split <;> omega))
theorem xp_mono (f : Nat) (L : Int) (m : Nat) : xp f L m ≤ xp f L (m + 1) ∧ xp f L (m + 1) ≤ xp f L m + 1 := by
 have q : m / 2 ^ f ≤ (m + 1) / 2 ^ f := Nat.div_le_div_right (Nat.le_succ m)
 have r : (m + 1) / 2 ^ f ≤ m / 2 ^ f + 1 := by
  rw [← Nat.add_div_right m (Nat.two_pow_pos f)]
  exact Nat.div_le_div_right (by have := Nat.two_pow_pos f; omega)
 unfold xp
 generalize m / 2 ^ f = a at *
 generalize (m + 1) / 2 ^ f = b at *
 split <;> split <;> omega
theorem fv_eqv {m M : Nat} {e E : Int} (h : Eqv m e M E) (h1 : -(R0 : Int) ≤ e) (h2 : -(R0 : Int) ≤ E) : fv m e = fv M E := by
 have q := h.all (-(R0 : Int)) h1 h2
 unfold ev at q
 unfold fv
 rw [show e + (R0 : Int) = e - -(R0 : Int) by omega, show E + (R0 : Int) = E - -(R0 : Int) by omega, q]
theorem fv_two {m : Nat} {e : Int} (h : -(R0 : Int) ≤ e - 1) : fv m e = fv (2 * m) (e - 1) := by
 have q := fv_up (m := m) (k := 1) h
 rw [show e - 1 + ((1 : Nat) : Int) = e by omega, Nat.pow_one, Nat.mul_comm] at q
 exact q
theorem r0_lt {e : Int} (h : -1074 ≤ e) : -(R0 : Int) ≤ e - 1 := by unfold R0; omega
def gF (f : Nat) (L : Int) (m : Nat) : Nat := fv 1 (xp f L m - 1)
theorem gF_pos (f : Nat) (L : Int) (m : Nat) : 0 < gF f L m := fv_pos (by decide)
theorem fv_mul (m : Nat) (e : Int) : fv m e = m * fv 1 e := by unfold fv; rw [Nat.one_mul, Nat.mul_assoc]
theorem mt_some {f m : Nat} (h0 : m ≠ 0) : 0 < mt f m := by
 unfold mt
 have := Nat.two_pow_pos f
 split <;> omega
theorem low_doc (f : Nat) (L : Int) (k : Nat) : mt f (k + 1) * 2 ^ (xp f L (k + 1) - xp f L k).toNat + mt f k = 2 * mt f k + 1 := by
 have q := (mt_succ f L k).dn (xp_mono f L k).1
 omega
theorem vl_pos {f : Nat} (L : Int) {m : Nat} (h0 : m ≠ 0) : 0 < vlF f L m := fv_pos (mt_some h0)
theorem vl_g {f T : Nat} {L : Int} (h : Fs f T L) {m : Nat} (hm : m < T * 2 ^ f) : vlF f L m = 2 * mt f m * gF f L m := by
 unfold vlF gF
 rw [fv_two (r0_lt (xp_in h hm).1), fv_mul]
theorem hi_g {f T : Nat} {L : Int} (h : Fs f T L) {m : Nat} (hm : m < T * 2 ^ f) : hiF f L m = vlF f L m + gF f L m := by
 rw [vl_g h hm]
 unfold hiF gF
 rw [fv_mul, Nat.add_mul, Nat.one_mul]
theorem next_g {f T : Nat} {L : Int} (h : Fs f T L) {m : Nat} (hm : m < T * 2 ^ f) (hm1 : m + 1 < T * 2 ^ f) : vlF f L (m + 1) = vlF f L m + 2 * gF f L m := by
 have q := fv_eqv (mt_succ f L m) (by have := r0_lt (xp_in h hm).1; omega) (by have := r0_lt (xp_in h hm1).1; omega)
 unfold vlF
 rw [← q, fv_add, fv_two (m := 1) (r0_lt (xp_in h hm).1)]
 unfold gF
 rw [show 2 * 1 = 2 from rfl, fv_mul 2]
theorem lo_g {f T : Nat} {L : Int} (h : Fs f T L) {m : Nat} (hm1 : m + 1 < T * 2 ^ f) : loF f L (m + 1) + gF f L m = vlF f L (m + 1) := by
 have hm : m < T * 2 ^ f := by omega
 show hiF f L m + _ = _
 rw [hi_g h hm, next_g h hm hm1]
 omega
theorem lo_le {f T : Nat} {L : Int} (h : Fs f T L) {m : Nat} (hm : m < T * 2 ^ f) : loF f L m ≤ vlF f L m := by
 cases m with
 | zero => exact Nat.zero_le _
 | succ k => have := lo_g h hm; omega
theorem lo_lt {f T : Nat} {L : Int} (h : Fs f T L) {m : Nat} (hm : m < T * 2 ^ f) (h0 : m ≠ 0) : loF f L m < vlF f L m := by
 obtain ⟨k, rfl⟩ : ∃ k, m = k + 1 := ⟨m - 1, by omega⟩
 have := lo_g h hm
 have := gF_pos f L k
 omega
theorem vl_hi {f T : Nat} {L : Int} (h : Fs f T L) {m : Nat} (hm : m < T * 2 ^ f) : vlF f L m < hiF f L m := by
 have := hi_g h hm
 have := gF_pos f L m
 omega
theorem vl_zero (f : Nat) (L : Int) : vlF f L 0 = 0 := by
 unfold vlF
 rw [show mt f 0 = 0 by unfold mt; rw [Nat.zero_div, if_pos rfl], fv_zero]
theorem digits_there {f T : Nat} {L : Int} (h : Fs f T L) {m N a : Nat} (hN : 2 ^ (f + 1) ≤ 10 ^ (N - 1)) (N0 : 1 ≤ N) (h0 : m ≠ 0) (hm : m < T * 2 ^ f) (ha : 10 ^ (a - 1) ≤ vlF f L m) :
 (loF f L m < vlF f L m / 10 ^ (a - N) * 10 ^ (a - N)) ∨ ((vlF f L m + (10 ^ (a - N) - 1)) / 10 ^ (a - N) * 10 ^ (a - N) < hiF f L m) := by
 obtain ⟨k, rfl⟩ : ∃ k, m = k + 1 := ⟨m - 1, by omega⟩
 have x1 := lo_lt h hm h0
 have x2 := vl_hi h hm
 have e1 := hi_g h hm
 have e2 := lo_g h hm
 have e3 := vl_g h hm
 have g0 := gF_pos f L (k + 1)
 have xm := xp_mono f L k
 have gd := parts_good f L (k + 1)
 have eq := low_doc f L k
 have gk : gF f L k = gF f L (k + 1) ∨ (2 ^ f ≤ mt f (k + 1) ∧ mt f (k + 1) ≤ 2 ^ f) := by
  by_cases c : xp f L (k + 1) = xp f L k
  · left; unfold gF; rw [c]
  · right
    have c1 : xp f L (k + 1) = xp f L k + 1 := by omega
    have gk := parts_good f L k
    rw [c1, show (xp f L k + 1 - xp f L k).toNat = 1 by omega, Nat.pow_one] at eq
    rcases gd.2.2 with q | q
    · refine ⟨q, ?_⟩
      have := gk.1
      rw [Nat.pow_succ] at this
      omega
    · have := gk.2.1
      omega
 generalize vlF f L (k + 1) = x at *
 generalize loF f L (k + 1) = lo at *
 generalize hiF f L (k + 1) = hi at *
 generalize gF f L (k + 1) = g at *
 generalize gF f L k = g' at *
 generalize mt f (k + 1) = M at *
 generalize hS : 10 ^ (a - N) = S at *
 have S0 : 0 < S := by rw [← hS]; exact Nat.pow_pos (by decide)
 have dm := Nat.div_add_mod x S
 have md := Nat.mod_lt x S0
 rcases Nat.eq_zero_or_pos (x % S) with z | z
 · left
   rw [Nat.mul_comm] at dm
   omega
 · have up : (x + (S - 1)) / S = x / S + 1 := by
    refine Nat.div_eq_of_lt_le ?_ ?_
    · rw [Nat.add_mul, Nat.one_mul, Nat.mul_comm]; omega
    · rw [Nat.add_mul, Nat.add_mul, Nat.one_mul, Nat.mul_comm]; omega
   rw [up, Nat.add_mul, Nat.one_mul, Nat.mul_comm (x / S) S]
   have S1 : S ≠ 1 := by intro c; rw [c, Nat.mod_one] at z; omega
   have aN : a - N + (N - 1) = a - 1 := by
    have : a - N ≠ 0 := by intro c; rw [c] at hS; exact S1 hS.symm
    omega
   have big : S * 2 ^ (f + 1) ≤ x := by
    refine Nat.le_trans (Nat.mul_le_mul_left S hN) (Nat.le_trans ?_ ha)
    rw [← hS, ← Nat.pow_add, aN]
    exact Nat.le_refl _
   have step : ∀ {M' : Nat}, M ≤ M' → S * 2 ^ (f + 1) ≤ 2 * M' * g := fun hM => by
    refine Nat.le_trans big ?_
    rw [e3]
    exact Nat.mul_le_mul_right g (Nat.mul_le_mul_left 2 hM)
   rcases gk with q | q
   · have s := gd.1
     have sg : S < 2 * g := by
      apply Nat.lt_of_not_le
      intro c
      have a1 : 2 * M * g < 2 ^ (f + 1) * S := by
       rw [show 2 * M * g = M * (2 * g) by rw [Nat.mul_comm 2 M, Nat.mul_assoc]]
       exact Nat.lt_of_le_of_lt (Nat.mul_le_mul_left M c) (Nat.mul_lt_mul_of_pos_right s S0)
      have a2 := step (Nat.le_refl M)
      rw [Nat.mul_comm (2 ^ (f + 1)) S] at a1
      omega
     omega
   · right
     have sg : S ≤ g := by
      have a2 := step q.2
      rw [Nat.mul_comm 2, ← Nat.pow_succ, Nat.mul_comm] at a2
      exact Nat.le_of_mul_le_mul_left a2 (Nat.two_pow_pos (f + 1))
     omega
def Sf (z : Int) (f T : Nat) (L : Int) (S I : Nat) : Prop :=
 (z = 32 ∧ f = 23 ∧ T = 255 ∧ L = -149 ∧ S = 2147483648 ∧ I = 2139095040) ∨ (z = 64 ∧ f = 52 ∧ T = 2047 ∧ L = -1074 ∧ S = 9223372036854775808 ∧ I = 9218868437227405312)
structure Fn (z : Int) (f T : Nat) (L : Int) (S I b : Nat) : Prop where
 sf : Sf z f T L S I
 lt : b < 2 * S
 fin : mg S b < I
def Bad (b : Nat) (z n : Int) : Prop := (Sn z ∧ n = 5) ∨ (z = 32 ∧ 4294967296 ≤ b ∧ n = 1) ∨ ∃ f T L S I, Sf z f T L S I ∧ b < 2 * S ∧ I ≤ mg S b ∧ n = 1
theorem kinds (b : Nat) (z : Int) (hb : b < 18446744073709551616) : (∃ n, Bad b z n) ∨ ∃ f T L S I, Fn z f T L S I b := by
 by_cases h1 : z = 32
 · by_cases h2 : b < 4294967296
   · by_cases h3 : mg 2147483648 b < 2139095040
     · exact Or.inr ⟨23, 255, -149, 2147483648, 2139095040, Or.inl ⟨h1, rfl, rfl, rfl, rfl, rfl⟩, by omega, h3⟩
     · exact Or.inl ⟨1, Or.inr (Or.inr ⟨23, 255, -149, 2147483648, 2139095040, Or.inl ⟨h1, rfl, rfl, rfl, rfl, rfl⟩, by omega, by omega, rfl⟩)⟩
   · exact Or.inl ⟨1, Or.inr (Or.inl ⟨h1, by omega, rfl⟩)⟩
 · by_cases h2 : z = 64
   · by_cases h3 : mg 9223372036854775808 b < 9218868437227405312
     · exact Or.inr ⟨52, 2047, -1074, 9223372036854775808, 9218868437227405312, Or.inr ⟨h2, rfl, rfl, rfl, rfl, rfl⟩, by omega, h3⟩
     · exact Or.inl ⟨1, Or.inr (Or.inr ⟨52, 2047, -1074, 9223372036854775808, 9218868437227405312, Or.inr ⟨h2, rfl, rfl, rfl, rfl, rfl⟩, by omega, by omega, rfl⟩)⟩
   · exact Or.inl ⟨5, Or.inl ⟨⟨h1, h2⟩, rfl⟩⟩
theorem Sf.fs {z : Int} {f T : Nat} {L : Int} {S I : Nat} (h : Sf z f T L S I) : Fs f T L ∧ I = T * 2 ^ f ∧ 2 * S ≤ 18446744073709551616 ∧ 2 ≤ S ∧ S % 2 = 0 ∧ 1 < I ∧ I < S := by
 rcases h with ⟨_, rfl, rfl, rfl, rfl, rfl⟩ | ⟨_, rfl, rfl, rfl, rfl, rfl⟩
 · exact ⟨Or.inl ⟨rfl, rfl, rfl⟩, by decide, by omega, by omega, by omega, by omega, by omega⟩
 · exact ⟨Or.inr ⟨rfl, rfl, rfl⟩, by decide, by omega, by omega, by omega, by omega, by omega⟩
theorem unp_any {z : Int} {f T : Nat} {L : Int} {S I b : Nat} (h : Sf z f T L S I) (hb : b < 2 * S) (w : World) :
 Calls Tryd.prog 28 #[.int .u64 (b : Int), .int .i64 z] w fun e w' => e = .returned (.tuple #[.agg #[.bool (uN S I b), .int .i64 (cl I (mg S b)), .int .u64 ((uM I f (mg S b) : Nat) : Int), .int .i64 (uE I f L (mg S b))], .nilIface]) ∧ Below w.heap.size w w' := by
 rcases h with ⟨rfl, rfl, rfl, rfl, rfl, rfl⟩ | ⟨rfl, rfl, rfl, rfl, rfl, rfl⟩
 · exact unp_32 (by omega) w
 · exact unp_64 (by omega) w
theorem cls_any {z : Int} {f T : Nat} {L : Int} {S I b : Nat} (h : Sf z f T L S I) (hb : b < 2 * S) (w : World) :
 Calls Tryd.prog 4 #[.int .u64 (b : Int), .int .i64 z] w fun e w' => e = .returned (.tuple #[.int .i64 (cl I (mg S b)), .nilIface]) ∧ Below w.heap.size w w' := by
 rcases h with ⟨rfl, rfl, rfl, rfl, rfl, rfl⟩ | ⟨rfl, rfl, rfl, rfl, rfl, rfl⟩
 · exact cls_32 (by omega) w
 · exact cls_64 (by omega) w
theorem least_any {z : Int} {f T : Nat} {L : Int} {S I : Nat} (h : Sf z f T L S I) (w : World) :
 Calls Tryd.prog 29 #[.int .i64 z] w fun e w' => e = .returned (.tuple #[.int .u64 1, .nilIface]) ∧ Below w.heap.size w w' := by
 rcases h with ⟨rfl, _⟩ | ⟨rfl, _⟩
 · exact bleast_32 w
 · exact bleast_64 w
theorem fin_bad {b : Nat} {z n : Int} (h : Bad b z n) (w : World) :
 Calls Tryd.prog 15 #[.int .u64 (b : Int), .int .i64 z] w fun e w' => e = .returned (.tuple #[.agg #[.bool false, .int .i64 0, .int .u64 0, .int .i64 0], .iface 56 (.int .i64 n)]) ∧ Below w.heap.size w w' := by
 rcases h with ⟨h, rfl⟩ | ⟨rfl, h, rfl⟩ | ⟨f, T, L, S, I, h, hb, hi, rfl⟩
 · exact fin_err (fun W => unp_no h _ W) w
 · exact fin_err (fun W => unp_big h W) w
 · have U := fun W => unp_any h hb W
   have i1 := h.fs.2.2.2.2.2.1
   have c : cl I (mg S b) = 3 ∨ cl I (mg S b) = 4 := by
    rcases cl_cases I (mg S b) with q | q | q | q
    · omega
    · omega
    · exact Or.inl q.2.2
    · exact Or.inr q.2
   have c2 : cl I (mg S b) ≠ 2 := by omega
   have e1 : uM I f (mg S b) = 0 := if_neg c2
   have e2 : uE I f L (mg S b) = 0 := if_neg c2
   rw [e1, e2] at U
   exact fin_not (beq_eq_false_iff_ne.mpr (by omega)) (beq_eq_false_iff_ne.mpr (by omega)) U w
theorem xp_one {f : Nat} (hf : 1 ≤ f) (L : Int) : xp f L 1 = L ∧ xp f L 0 = L ∧ mt f 0 = 0 := by
 have p : 2 ≤ 2 ^ f := by
  have := Nat.pow_le_pow_right (n := 2) (by omega) hf
  omega
 have e : 1 / 2 ^ f = 0 := Nat.div_eq_of_lt (by omega)
 refine ⟨?_, ?_, ?_⟩
 · unfold xp; rw [e, if_pos rfl]
 · unfold xp; rw [Nat.zero_div, if_pos rfl]
 · unfold mt; rw [Nat.zero_div, if_pos rfl]
theorem Fs.one {f T : Nat} {L : Int} (h : Fs f T L) : 1 ≤ f := by rcases h with ⟨rfl, _⟩ | ⟨rfl, _⟩ <;> omega
theorem mg_b0 {S b : Nat} (m0 : mg S b ≠ 0) : 1 ≤ b := by
 apply Nat.pos_of_ne_zero
 intro c
 apply m0
 unfold mg
 rw [c, Nat.zero_mod]
theorem Fn.m {z : Int} {f T : Nat} {L : Int} {S I b : Nat} (h : Fn z f T L S I b) : mg S b < T * 2 ^ f := by rw [← h.sf.fs.2.1]; exact h.fin
theorem fin_ok {z : Int} {f T : Nat} {L : Int} {S I b : Nat} (h : Fn z f T L S I b) (w : World) :
 Calls Tryd.prog 15 #[.int .u64 (b : Int), .int .i64 z] w fun e w' => e = .returned (.tuple #[.agg #[.bool (uN S I b), .int .i64 (cl I (mg S b)), .int .u64 ((mt f (mg S b) : Nat) : Int), .int .i64 (xp f L (mg S b))], .nilIface]) ∧ Below w.heap.size w w' := by
 have U := fun W => unp_any h.sf h.lt W
 obtain ⟨fs, hI, _, hS, _, hI1, hIS⟩ := h.sf.fs
 have hx := xp_one fs.one L
 by_cases m0 : mg S b = 0
 · have c1 : cl I (mg S b) = 1 := by rw [m0]; exact cl_zero I
   have e1 : uM I f (mg S b) = 0 := if_neg (by rw [c1]; decide)
   have e2 : uE I f L (mg S b) = 0 := if_neg (by rw [c1]; decide)
   have U1 := fun W => unp_any (b := 1) h.sf (by omega) W
   have g1 : mg S 1 = 1 := Nat.mod_eq_of_lt (by omega)
   have e4 : uE I f L (mg S 1) = xp f L (mg S b) := by
    rw [g1, m0, hx.2.1]
    show (if cl I 1 = 2 then xp f L 1 else 0) = L
    rw [if_pos (cl_fine (by decide) hI1), hx.1]
   rw [e1, e2, c1] at U
   rw [e4] at U1
   rw [c1, show ((mt f (mg S b) : Nat) : Int) = 0 by rw [m0, hx.2.2]; rfl]
   exact fin_zero U (fun W => least_any h.sf W) U1 w
 · have c2 : cl I (mg S b) = 2 := cl_fine m0 h.fin
   have e1 : uM I f (mg S b) = mt f (mg S b) := if_pos c2
   have e2 : uE I f L (mg S b) = xp f L (mg S b) := if_pos c2
   rw [e1, e2, c2] at U
   rw [c2]
   exact fin_fine U w
theorem high_is {z : Int} {f T : Nat} {L : Int} {S I b : Nat} (h : Fn z f T L S I b) {c : Bool} {k : Int} {t : ByteArray} {q : Int} (D : Dx t q (hiF f L (mg S b))) (w : World) :
 Calls Tryd.prog 37 #[.agg #[.bool c, .int .i64 k, .int .u64 ((mt f (mg S b) : Nat) : Int), .int .i64 (xp f L (mg S b))]] w fun e w' => e = .returned (dcV t q false) ∧ Below w.heap.size w w' := by
 have fs := h.sf.fs.1
 have x := xp_in fs h.m
 have m := mt_lt fs (mg S b)
 refine high_ok (by omega) x.1 x.2 (fun W => ?_) w
 have q := pdec_any (m := 2 * mt f (mg S b) + 1) (e := xp f L (mg S b) - 1) (by omega) (by omega) (by omega) (by omega) D W
 rw [show ((2 * mt f (mg S b) + 1 : Nat) : Int) = 2 * ((mt f (mg S b) : Nat) : Int) + 1 by omega] at q
 exact q
theorem Fn.prev {z : Int} {f T : Nat} {L : Int} {S I b : Nat} (h : Fn z f T L S I b) (m0 : mg S b ≠ 0) : Fn z f T L S I (b - 1) ∧ mg S (b - 1) + 1 = mg S b := by
 obtain ⟨_, _, _, hS, _, _, hIS⟩ := h.sf.fs
 have lt := h.lt
 have fin := h.fin
 have e : mg S (b - 1) + 1 = mg S b := by
  unfold mg at m0 ⊢
  have dm := Nat.div_add_mod b S
  have ml := Nat.mod_lt b (show 0 < S by omega)
  have : b - 1 = S * (b / S) + (b % S - 1) := by omega
  rw [this, Nat.mul_add_mod, Nat.mod_eq_of_lt (by omega)]
  omega
 exact ⟨⟨h.sf, by omega, by omega⟩, e⟩
theorem prev_is {z : Int} {f T : Nat} {L : Int} {S I b : Nat} (h : Fn z f T L S I b) (m0 : mg S b ≠ 0) (w : World) : Calls Tryd.prog 10 #[.int .u64 (b : Int), .int .i64 z] w fun e w' => e = .returned (.tuple #[.int .u64 ((b - 1 : Nat) : Int), .nilIface]) ∧ Below w.heap.size w w' := by
 have b0 := mg_b0 m0
 have lt := h.lt
 have s2 := h.sf.fs.2.2.1
 have c2 : cl I (mg S b) = 2 := cl_fine m0 h.fin
 have q := prev_ok (b := (b : Int)) (s := z) (c := 2) rfl rfl (by omega) (by omega) (fun W => by have := cls_any h.sf h.lt W; rw [c2] at this; exact this) w
 rw [show (b : Int) - 1 = ((b - 1 : Nat) : Int) by omega] at q
 exact q
theorem low_is {z : Int} {f T : Nat} {L : Int} {S I b : Nat} (h : Fn z f T L S I b) {s : ByteArray} {p : Int} (D : Dx s p (loF f L (mg S b))) (w : World) :
 Calls Tryd.prog 36 #[.int .u64 (b : Int), .int .i64 z] w fun e w' => e = .returned (dcV s p false) ∧ Below w.heap.size w w' := by
 by_cases m0 : mg S b = 0
 · have c1 : cl I (mg S b) = 1 := by rw [m0]; exact cl_zero I
   rw [m0] at D
   obtain ⟨rfl, rfl⟩ := Dx.uniq D dx_nought
   exact low_none (fun W => prev_end (fun W => by have := cls_any h.sf h.lt W; rw [c1] at this; exact this) W) w
 · obtain ⟨g, e⟩ := Fn.prev h m0
   rw [← e] at D
   exact low_some (fun W => prev_is h m0 W) (fun W => fin_ok g W) (fun W => high_is g D W) w
theorem span_is {z : Int} {f T : Nat} {L : Int} {S I b : Nat} (h : Fn z f T L S I b) {s t : ByteArray} {p q : Int} (D : Dx s p (loF f L (mg S b))) (E : Dx t q (hiF f L (mg S b))) (w : World) :
 Calls Tryd.prog 17 #[.int .u64 (b : Int), .int .i64 z] w fun e w' => e = .returned (.tuple #[.agg #[.string s, .int .i64 p, .bool false, .string t, .int .i64 q, .bool false, .bool (decide (b % 2 = 0))], .nilIface]) ∧ Below w.heap.size w w' :=
 span_ok (by have := h.lt; have := h.sf.fs.2.2.1; omega) (fun W => fin_ok h W) (fun W => low_is h D W) (fun W => high_is h E W) w
theorem ex_is {z : Int} {f T : Nat} {L : Int} {S I b : Nat} (h : Fn z f T L S I b) {s : ByteArray} {p : Int} (D : Dx s p (vlF f L (mg S b))) (w : World) :
 Calls Tryd.prog 5 #[.int .u64 (b : Int), .int .i64 z] w fun e w' => e = .returned (.tuple #[dcV s p false, .nilIface]) ∧ Below w.heap.size w w' := by
 have fs := h.sf.fs.1
 have x := xp_in fs h.m
 have m := mt_lt fs (mg S b)
 refine ex_ok (fun W => fin_ok h W) (fun W => pdec_any (by omega) (by omega) (by omega) ?_ D W) w
 by_cases m0 : mg S b = 0
 · right
   rw [m0, (xp_one fs.one L).2.1]
   rcases fs with ⟨_, _, rfl⟩ | ⟨_, _, rfl⟩ <;> omega
 · exact Or.inl (mt_some m0)
theorem bd_is {z : Int} {f T : Nat} {L : Int} {S I b : Nat} (h : Fn z f T L S I b) {s t : ByteArray} {p q : Int} (D : Dx s p (loF f L (mg S b))) (E : Dx t q (hiF f L (mg S b))) (w : World) :
 Calls Tryd.prog 7 #[.int .u64 (b : Int), .int .i64 z] w fun e w' => e = .returned (.tuple #[dcV s p false, dcV t q false, .bool (decide (b % 2 = 0)), .nilIface]) ∧ Below w.heap.size w w' :=
 bd_ok (fun W => span_is h D E W) w
theorem Fn.has {z : Int} {f T : Nat} {L : Int} {S I b : Nat} (h : Fn z f T L S I b) : (∃ s p, Dx s p (loF f L (mg S b))) ∧ (∃ t q, Dx t q (hiF f L (mg S b))) ∧ ∃ u o, Dx u o (vlF f L (mg S b)) := by
 have fs := h.sf.fs.1
 have hi : ∀ k, k < T * 2 ^ f → ∃ t q, Dx t q (hiF f L k) := fun k hk => by
  have x := xp_in fs hk
  have m := mt_lt fs k
  exact dx_has (by omega) (by omega) (by omega)
 have x := xp_in fs h.m
 have m := mt_lt fs (mg S b)
 refine ⟨?_, hi _ h.m, dx_has (by omega) (by omega) (by omega)⟩
 by_cases m0 : mg S b = 0
 · rw [m0]; exact ⟨_, _, dx_nought⟩
 · obtain ⟨k, e⟩ : ∃ k, mg S b = k + 1 := ⟨mg S b - 1, by omega⟩
   have := h.m
   rw [e] at this ⊢
   exact hi k (by omega)
theorem hold_is {s t u : ByteArray} {p q o : Int} {c : Bool} (hs : VD s p false) (ht : VD t q false) (hu : VD u o false) (w : World) :
 Calls Tryd.prog 19 #[.agg #[.string s, .int .i64 p, .bool false, .string t, .int .i64 q, .bool false, .bool c], dcV u o false] w fun e w' => e = .returned (.bool (inB c (lowF u o s p) (lowF u o t q))) ∧ Below w.heap.size w w' :=
 hold_any (fun W => cmp_ff hu hs W) (fun W => cmp_ff hu ht W) w
theorem pwT_add (a b : Nat) : pwT (a + b) = pwT a * pwT b := Nat.pow_add 10 a b
theorem pwT_lt {a b : Nat} (h : pwT a < pwT b) : a < b := (Nat.pow_lt_pow_iff_right (by decide)).1 h
theorem dx_near {m : Nat} {e : Int} (hm : m ≤ 18014398509481984) (h1 : -1075 ≤ e) (h2 : e ≤ 971) {s : ByteArray} {p : Int} (D : Dx s p (fv m e)) (h0 : 0 < s.size) : p ≤ 1000 := by
 obtain ⟨k, j, h, he⟩ : ∃ k j, Kj m k j ∧ e = (j : Int) - (k : Int) := by
  rcases Int.lt_or_le e 0 with c | c
  · exact ⟨(-e).toNat, 0, ⟨hm, by omega, by omega, Or.inr rfl⟩, by omega⟩
  · exact ⟨0, e.toNat, ⟨hm, by omega, by omega, Or.inl rfl⟩, by omega⟩
 have w := h.wh
 have f := h.fv he
 obtain ⟨d0, d1, _⟩ := D.some h0
 have a : fv m e < pwT 800 * pwT (R0 - k) := by
  rw [f]
  exact Nat.mul_lt_mul_of_pos_right w (Nat.pow_pos (by decide))
 obtain ⟨e8, h8⟩ : ∃ e8, e8 = 800 := ⟨_, rfl⟩
 rw [← h8, ← pwT_add] at a
 have b : pwT (p + (R0 : Int) - 1).toNat < pwT (e8 + (R0 - k)) := Nat.lt_of_le_of_lt d1 a
 have := pwT_lt b
 omega
theorem lowF_dx {s : ByteArray} {p : Int} {X : Nat} {t : ByteArray} {q : Int} {Y : Nat} (a : Dx s p X) (b : Dx t q Y) : lowF s p t q = cmpI (X : Int) (Y : Int) := dx_low a b
theorem du_has {z : Int} {f T : Nat} {L : Int} {S I b : Nat} (h : Fn z f T L S I b) (m0 : mg S b ≠ 0) {n : Nat} (n0 : 0 < n) (hn : n ≤ 17) : ∃ (u : ByteArray) (o : Int) (u1 u2 : ByteArray) (o2 : Int) (A : Nat), Dx u o (vlF f L (mg S b)) ∧ 0 < u.size ∧ o ≤ 1000 ∧ o + (R0 : Int) = (A : Int) ∧ Du u o n u1 u2 o2 ∧
 Dx u1 o (vlF f L (mg S b) / 10 ^ (A - n) * 10 ^ (A - n)) ∧ Dx u2 o2 ((vlF f L (mg S b) + (10 ^ (A - n) - 1)) / 10 ^ (A - n) * 10 ^ (A - n)) ∧ 0 < u1.size ∧ 0 < u2.size ∧ 10 ^ (A - 1) ≤ vlF f L (mg S b) := by
 obtain ⟨_, _, u, o, G⟩ := Fn.has h
 have fs := h.sf.fs.1
 have vp := vl_pos (f := f) L m0
 have u0 := G.pos.2 vp
 have x := xp_in fs h.m
 have m := mt_lt fs (mg S b)
 have o1 := dx_near (by omega) (by omega) (by omega) G u0
 have lo := G.lo
 obtain ⟨A, hA⟩ : ∃ A : Nat, o + (R0 : Int) = (A : Int) := ⟨(o + (R0 : Int)).toNat, by omega⟩
 obtain ⟨u1, u2, o2, D1, D2, du⟩ := du_ex G u0 o1 hA n0 hn
 have low := (G.some u0).2.1
 rw [hA, show ((A : Int) - 1).toNat = A - 1 by omega] at low
 have S0 : 0 < 10 ^ (A - n) := Nat.pow_pos (by decide)
 have Sx : 10 ^ (A - n) ≤ vlF f L (mg S b) := Nat.le_trans (Nat.pow_le_pow_right (by decide) (by omega)) low
 have q1 : 0 < vlF f L (mg S b) / 10 ^ (A - n) * 10 ^ (A - n) := Nat.mul_pos (Nat.div_pos Sx S0) S0
 have q2 : 0 < (vlF f L (mg S b) + (10 ^ (A - n) - 1)) / 10 ^ (A - n) * 10 ^ (A - n) := Nat.mul_pos (Nat.div_pos (by omega) S0) S0
 exact ⟨u, o, u1, u2, o2, A, G, u0, o1, hA, du, D1, D2, D1.pos.2 q1, D2.pos.2 q2, low⟩
theorem in_is {z : Int} {f T : Nat} {L : Int} {S I b : Nat} (h : Fn z f T L S I b) {s t : ByteArray} {p q : Int} (D : Dx s p (loF f L (mg S b))) (E : Dx t q (hiF f L (mg S b))) {u : ByteArray} {o : Int} (hu : VD u o false) (w : World) :
 Calls Tryd.prog 8 #[dcV u o false, .int .u64 (b : Int), .int .i64 z] w fun e w' => e = .returned (.tuple #[.bool (inB (decide (b % 2 = 0)) (lowF u o s p) (lowF u o t q)), .nilIface]) ∧ Below w.heap.size w w' :=
 in_ok (fun W => span_is h D E W) (fun W => dvalid_yes hu W) (fun W => hold_is D.vd E.vd hu W) w
theorem bt_is {z : Int} {f T : Nat} {L : Int} {S I b : Nat} (h : Fn z f T L S I b) {s t : ByteArray} {p q : Int} (D : Dx s p (loF f L (mg S b))) (E : Dx t q (hiF f L (mg S b))) {n : Nat} (n0 : 0 < n) (hn : n ≤ 17) {u : ByteArray} {o : Int} {u1 u2 : ByteArray} {o2 : Int} {Y Z : Nat} (G : Dx u o (vlF f L (mg S b))) (u0 : 0 < u.size) (o1 : o ≤ 1000) (du : Du u o n u1 u2 o2) (D1 : Dx u1 o Y) (D2 : Dx u2 o2 Z) (w : World) :
    Calls Tryd.prog 9 #[.int .u64 (b : Int), .int .i64 z, .int .i64 (n : Int)] w fun e w' => e = .returned (.tuple #[.bool (inB (decide (b % 2 = 0)) (lowF u1 o s p) (lowF u1 o t q) || inB (decide (b % 2 = 0)) (lowF u2 o2 s p) (lowF u2 o2 t q)), .nilIface]) ∧ Below w.heap.size w w' := by
  obtain ⟨dn, up⟩ := du_prog (G.vn u0) o1 n0 hn du
  have H1 := fun W => hold_is (c := decide (b % 2 = 0)) D.vd E.vd D1.vd W
  have H2 := fun W => hold_is (c := decide (b % 2 = 0)) D.vd E.vd D2.vd W
  cases r : inB (decide (b % 2 = 0)) (lowF u1 o s p) (lowF u1 o t q) with
  | true =>
    rw [r] at H1
    rw [Bool.true_or]
    exact bt_yes (by omega) (by omega) u0 (fun W => span_is h D E W) (fun W => ex_is h G W) dn up H1 w
  | false =>
    rw [r] at H1
    rw [Bool.false_or]
    exact bt_no (by omega) (by omega) u0 (fun W => span_is h D E W) (fun W => ex_is h G W) dn up H1 H2 w
theorem mt_sure : mt 52 4609434218613702656 = 6755399441055744 := by decide +kernel
theorem xp_sure : xp 52 (-1074) 4609434218613702656 = -52 := by decide +kernel
theorem dx_sure : Dx ⟨#[49, 53]⟩ 1 (vlF 52 (-1074) 4609434218613702656) := by
 have e1 : vlF 52 (-1074) 4609434218613702656 = fv 3 (-((1 : Nat) : Int)) := by
  unfold vlF
  rw [mt_sure, xp_sure]
  have q := fv_up (m := 3) (k := 51) (e := -52) (by unfold R0; omega)
  exact q.symm
 rw [e1, fv_neg (by unfold R0; omega), show 3 * 5 ^ 1 = 15 from rfl]
 have d0 : dgt ⟨#[49, 53]⟩ 0 = 49 := by decide
 have d1 : dgt ⟨#[49, 53]⟩ 1 = 53 := by decide
 have dg : DG ⟨#[49, 53]⟩ := by
  intro k hk
  have hk2 : k < 2 := hk
  rw [← dgt_lt hk]
  rcases (by omega : k = 0 ∨ k = 1) with rfl | rfl
  · rw [d0]; omega
  · rw [d1]; omega
 have hs : (⟨#[49, 53]⟩ : ByteArray).size = 2 := rfl
 have v : pv ⟨#[49, 53]⟩ 2 = 15 := by
  show 10 * (10 * 0 + (dgt ⟨#[49, 53]⟩ 0 - 48)) + (dgt ⟨#[49, 53]⟩ 1 - 48) = 15
  rw [d0, d1]
 refine ⟨Or.inr (nf_vn ⟨by decide, dg, by rw [d0]; decide, ?_⟩ (by decide) (by omega) (by omega)), ?_, ?_⟩
 · show dgt ⟨#[49, 53]⟩ 1 ≠ 48
   rw [d1]; decide
 · rw [hs]
   unfold R0; omega
 · rw [hs, v, show (1 + (R0 : Int) - ((2 : Nat) : Int)).toNat = R0 - 1 by omega]
theorem fn_sure : Fn 64 52 2047 (-1074) 9223372036854775808 9218868437227405312 4609434218613702656 := ⟨Or.inr ⟨rfl, rfl, rfl, rfl, rfl, rfl⟩, by decide, by decide +kernel⟩
theorem ex_sure (w : World) : Calls Tryd.prog 5 #[.int .u64 4609434218613702656, .int .i64 64] w fun e w' => e = .returned (.tuple #[.agg #[.string ⟨#[49, 53]⟩, .int .i64 1, .bool false], .nilIface]) ∧ Below w.heap.size w w' := by
 have q := ex_is fn_sure (s := ⟨#[49, 53]⟩) (p := 1) (by rw [show mg 9223372036854775808 4609434218613702656 = 4609434218613702656 by decide +kernel]; exact dx_sure) w
 exact q
theorem sure19  (w : World) :
 Calls Tryd.prog 6 #[] w fun x w' => x = .returned (.bool true) ∧ Below w.heap.size w w' := by
 have F0 : Hid (Below w.heap.size w w) := Below.refl _ _
 go_enter Tryd.func6, Tryd.ntmps6
 go_wp2_with fail
 all_goals first | (exfalso; omega) | skip
 refine (ex_sure _).mono ?_
 rintro o1 w1 ⟨rfl, bb⟩
 have F1 : Hid (Below w.heap.size w w1) := (F0.out).trans (bb.mono (F0.out).size)
 clear F0
 clear bb
 have le0 := (F1.out).size
 have F2 : Hid (Bk (w1.alloc (.cells #[.string ⟨#[49,53]⟩, .int .i64 1, .bool false] 28)) (w1.heap.size) [.string ⟨#[49,53]⟩, .int .i64 1, .bool false] ∧ Below w.heap.size w (w1.alloc (.cells #[.string ⟨#[49,53]⟩, .int .i64 1, .bool false] 28))) := ⟨Bk.new3 w1 (.string ⟨#[49,53]⟩) (.int .i64 1) (.bool false) 28, (F1.out).alloc ((F1.out).size) _⟩
 clear F1
 go_upto_region 2 with fail
 generalize (w1.alloc (.cells #[.string ⟨#[49,53]⟩, .int .i64 1, .bool false] 28)) = w2 at *
 have l1_0 := F2.out.1.lt
 have a1_0_0 := F2.out.1.cell 0 _ rfl
 have f1_0_0 := F2.out.1.fz 0
 have a1_0_1 := F2.out.1.cell 1 _ rfl
 have f1_0_1 := F2.out.1.fz 1
 have a1_0_2 := F2.out.1.cell 2 _ rfl
 have f1_0_2 := F2.out.1.fz 2
 go_wp2
 go_ret
 exact ⟨rfl, F2.out.2⟩
theorem ap_err {b : Nat} {z n : Int} (HC : ∀ W, Calls Tryd.prog 4 #[.int .u64 (b : Int), .int .i64 z] W fun e w' => e = .returned (.tuple #[.int .i64 0, .iface 56 (.int .i64 n)]) ∧ Below W.heap.size W w') (HE : ∀ W, Calls Tryd.prog 5 #[.int .u64 (b : Int), .int .i64 z] W fun e w' => e = .returned (.tuple #[.agg #[.string ⟨#[]⟩, .int .i64 0, .bool false], .iface 56 (.int .i64 n)]) ∧ Below W.heap.size W w') (w : World) :
 Calls Tryd.prog 3 #[.int .u64 (b : Int), .int .i64 z] w fun x w' => x = .returned (.bool true) ∧ Below w.heap.size w w' := by
 have F0 : Hid (Below w.heap.size w w) := Below.refl _ _
 go_enter Tryd.func3, Tryd.ntmps3
 go_wp2_with fail
 all_goals first | (exfalso; omega) | skip
 refine (HC _).mono ?_
 rintro o1 w1 ⟨rfl, bb⟩
 have F1 : Hid (Below w.heap.size w w1) := (F0.out).trans (bb.mono (F0.out).size)
 clear F0
 clear bb
 go_wp2_with fail
 all_goals first | (exfalso; omega) | skip
 refine (HE _).mono ?_
 rintro o2 w2 ⟨rfl, bb⟩
 have F2 : Hid (Below w.heap.size w w2) := (F1.out).trans (bb.mono (F1.out).size)
 clear F1
 clear bb
 have le0 := (F2.out).size
 have F3 : Hid (Bk (w2.alloc (.cells #[.string ⟨#[]⟩, .int .i64 0, .bool false] 28)) (w2.heap.size) [.string ⟨#[]⟩, .int .i64 0, .bool false] ∧ Below w.heap.size w (w2.alloc (.cells #[.string ⟨#[]⟩, .int .i64 0, .bool false] 28))) := ⟨Bk.new3 w2 (.string ⟨#[]⟩) (.int .i64 0) (.bool false) 28, (F2.out).alloc ((F2.out).size) _⟩
 clear F2
 go_upto_region 4 with fail
 generalize (w2.alloc (.cells #[.string ⟨#[]⟩, .int .i64 0, .bool false] 28)) = w3 at *
 go_wp2_with fail
 all_goals first | (exfalso; omega) | skip
 refine (sure19 _).mono ?_
 rintro o4 w4 ⟨rfl, bb⟩
 have F4 : Hid (Bk w4 (w2.heap.size) [.string ⟨#[]⟩, .int .i64 0, .bool false] ∧ Below w.heap.size w w4) := ⟨(F3.out.1).step bb, (F3.out.2).trans (bb.mono (F3.out.2).size)⟩
 clear F3
 clear bb
 go_wp2
 go_ret
 exact ⟨rfl, F4.out.2⟩
theorem ap_inf {b : Nat} {z n : Int} (HC : ∀ W, Calls Tryd.prog 4 #[.int .u64 (b : Int), .int .i64 z] W fun e w' => e = .returned (.tuple #[.int .i64 3, .nilIface]) ∧ Below W.heap.size W w') (HE : ∀ W, Calls Tryd.prog 5 #[.int .u64 (b : Int), .int .i64 z] W fun e w' => e = .returned (.tuple #[.agg #[.string ⟨#[]⟩, .int .i64 0, .bool false], .iface 56 (.int .i64 n)]) ∧ Below W.heap.size W w') (w : World) :
 Calls Tryd.prog 3 #[.int .u64 (b : Int), .int .i64 z] w fun x w' => x = .returned (.bool true) ∧ Below w.heap.size w w' := by
 have F0 : Hid (Below w.heap.size w w) := Below.refl _ _
 go_enter Tryd.func3, Tryd.ntmps3
 go_wp2_with fail
 all_goals first | (exfalso; omega) | skip
 refine (HC _).mono ?_
 rintro o1 w1 ⟨rfl, bb⟩
 have F1 : Hid (Below w.heap.size w w1) := (F0.out).trans (bb.mono (F0.out).size)
 clear F0
 clear bb
 go_wp2_with fail
 all_goals first | (exfalso; omega) | skip
 refine (HE _).mono ?_
 rintro o2 w2 ⟨rfl, bb⟩
 have F2 : Hid (Below w.heap.size w w2) := (F1.out).trans (bb.mono (F1.out).size)
 clear F1
 clear bb
 have le0 := (F2.out).size
 have F3 : Hid (Bk (w2.alloc (.cells #[.string ⟨#[]⟩, .int .i64 0, .bool false] 28)) (w2.heap.size) [.string ⟨#[]⟩, .int .i64 0, .bool false] ∧ Below w.heap.size w (w2.alloc (.cells #[.string ⟨#[]⟩, .int .i64 0, .bool false] 28))) := ⟨Bk.new3 w2 (.string ⟨#[]⟩) (.int .i64 0) (.bool false) 28, (F2.out).alloc ((F2.out).size) _⟩
 clear F2
 go_upto_region 4 with fail
 generalize (w2.alloc (.cells #[.string ⟨#[]⟩, .int .i64 0, .bool false] 28)) = w3 at *
 go_wp2_with fail
 all_goals first | (exfalso; omega) | skip
 refine (sure19 _).mono ?_
 rintro o4 w4 ⟨rfl, bb⟩
 have F4 : Hid (Bk w4 (w2.heap.size) [.string ⟨#[]⟩, .int .i64 0, .bool false] ∧ Below w.heap.size w w4) := ⟨(F3.out.1).step bb, (F3.out.2).trans (bb.mono (F3.out.2).size)⟩
 clear F3
 clear bb
 go_wp2
 go_ret
 exact ⟨rfl, F4.out.2⟩
theorem ap_nan {b : Nat} {z n : Int} (HC : ∀ W, Calls Tryd.prog 4 #[.int .u64 (b : Int), .int .i64 z] W fun e w' => e = .returned (.tuple #[.int .i64 4, .nilIface]) ∧ Below W.heap.size W w') (HE : ∀ W, Calls Tryd.prog 5 #[.int .u64 (b : Int), .int .i64 z] W fun e w' => e = .returned (.tuple #[.agg #[.string ⟨#[]⟩, .int .i64 0, .bool false], .iface 56 (.int .i64 n)]) ∧ Below W.heap.size W w') (w : World) :
 Calls Tryd.prog 3 #[.int .u64 (b : Int), .int .i64 z] w fun x w' => x = .returned (.bool true) ∧ Below w.heap.size w w' := by
 have F0 : Hid (Below w.heap.size w w) := Below.refl _ _
 go_enter Tryd.func3, Tryd.ntmps3
 go_wp2_with fail
 all_goals first | (exfalso; omega) | skip
 refine (HC _).mono ?_
 rintro o1 w1 ⟨rfl, bb⟩
 have F1 : Hid (Below w.heap.size w w1) := (F0.out).trans (bb.mono (F0.out).size)
 clear F0
 clear bb
 go_wp2_with fail
 all_goals first | (exfalso; omega) | skip
 refine (HE _).mono ?_
 rintro o2 w2 ⟨rfl, bb⟩
 have F2 : Hid (Below w.heap.size w w2) := (F1.out).trans (bb.mono (F1.out).size)
 clear F1
 clear bb
 have le0 := (F2.out).size
 have F3 : Hid (Bk (w2.alloc (.cells #[.string ⟨#[]⟩, .int .i64 0, .bool false] 28)) (w2.heap.size) [.string ⟨#[]⟩, .int .i64 0, .bool false] ∧ Below w.heap.size w (w2.alloc (.cells #[.string ⟨#[]⟩, .int .i64 0, .bool false] 28))) := ⟨Bk.new3 w2 (.string ⟨#[]⟩) (.int .i64 0) (.bool false) 28, (F2.out).alloc ((F2.out).size) _⟩
 clear F2
 go_upto_region 4 with fail
 generalize (w2.alloc (.cells #[.string ⟨#[]⟩, .int .i64 0, .bool false] 28)) = w3 at *
 go_wp2_with fail
 all_goals first | (exfalso; omega) | skip
 refine (sure19 _).mono ?_
 rintro o4 w4 ⟨rfl, bb⟩
 have F4 : Hid (Bk w4 (w2.heap.size) [.string ⟨#[]⟩, .int .i64 0, .bool false] ∧ Below w.heap.size w w4) := ⟨(F3.out.1).step bb, (F3.out.2).trans (bb.mono (F3.out.2).size)⟩
 clear F3
 clear bb
 go_wp2
 go_ret
 exact ⟨rfl, F4.out.2⟩
theorem ap_zero {b b2 : Nat} {z : Int} {u s t t2 : ByteArray} {o p q q2 : Int} (eb : (bits BinOp.and IntKind.u64 (b : Int) 1 == 0) = true) (HC : ∀ W, Calls Tryd.prog 4 #[.int .u64 (b : Int), .int .i64 z] W fun e w' => e = .returned (.tuple #[.int .i64 1, .nilIface]) ∧ Below W.heap.size W w') (HE : ∀ W, Calls Tryd.prog 5 #[.int .u64 (b : Int), .int .i64 z] W fun e w' => e = .returned (.tuple #[.agg #[.string u, .int .i64 o, .bool false], .nilIface]) ∧ Below W.heap.size W w') (HB : ∀ W, Calls Tryd.prog 7 #[.int .u64 (b : Int), .int .i64 z] W fun e w' => e = .returned (.tuple #[.agg #[.string s, .int .i64 p, .bool false], .agg #[.string t, .int .i64 q, .bool false], .bool true, .nilIface]) ∧ Below W.heap.size W w') (HI : ∀ W, Calls Tryd.prog 8 #[.agg #[.string u, .int .i64 o, .bool false], .int .u64 (b : Int), .int .i64 z] W fun e w' => e = .returned (.tuple #[.bool true, .nilIface]) ∧ Below W.heap.size W w') (HN : ∀ W, Calls Tryd.prog 11 #[.int .u64 (b : Int), .int .i64 z] W fun e w' => e = .returned (.tuple #[.int .u64 (b2 : Int), .nilIface]) ∧ Below W.heap.size W w') (HCN : ∀ W, Calls Tryd.prog 4 #[.int .u64 (b2 : Int), .int .i64 z] W fun e w' => e = .returned (.tuple #[.int .i64 2, .nilIface]) ∧ Below W.heap.size W w') (HBN : ∀ W, Calls Tryd.prog 7 #[.int .u64 (b2 : Int), .int .i64 z] W fun e w' => e = .returned (.tuple #[.agg #[.string t, .int .i64 q, .bool false], .agg #[.string t2, .int .i64 q2, .bool false], .bool false, .nilIface]) ∧ Below W.heap.size W w') (HIH : ∀ W, Calls Tryd.prog 8 #[.agg #[.string t, .int .i64 q, .bool false], .int .u64 (b : Int), .int .i64 z] W fun e w' => e = .returned (.tuple #[.bool true, .nilIface]) ∧ Below W.heap.size W w') (HCM : ∀ W, Calls Tryd.prog 12 #[.agg #[.string s, .int .i64 p, .bool false], .agg #[.string t, .int .i64 q, .bool false]] W fun e w' => e = .returned (.tuple #[.int .i64 (-1), .nilIface]) ∧ Below W.heap.size W w') (w : World) :
 Calls Tryd.prog 3 #[.int .u64 (b : Int), .int .i64 z] w fun x w' => x = .returned (.bool true) ∧ Below w.heap.size w w' := by
 have F0 : Hid (Below w.heap.size w w) := Below.refl _ _
 go_enter Tryd.func3, Tryd.ntmps3
 go_wp2_with fail
 all_goals first | (exfalso; omega) | skip
 refine (HC _).mono ?_
 rintro o1 w1 ⟨rfl, bb⟩
 have F1 : Hid (Below w.heap.size w w1) := (F0.out).trans (bb.mono (F0.out).size)
 clear F0
 clear bb
 go_wp2_with fail
 all_goals first | (exfalso; omega) | skip
 refine (HE _).mono ?_
 rintro o2 w2 ⟨rfl, bb⟩
 have F2 : Hid (Below w.heap.size w w2) := (F1.out).trans (bb.mono (F1.out).size)
 clear F1
 clear bb
 have le0 := (F2.out).size
 have F3 : Hid (Bk (w2.alloc (.cells #[.string u, .int .i64 o, .bool false] 28)) (w2.heap.size) [.string u, .int .i64 o, .bool false] ∧ Below w.heap.size w (w2.alloc (.cells #[.string u, .int .i64 o, .bool false] 28))) := ⟨Bk.new3 w2 (.string u) (.int .i64 o) (.bool false) 28, (F2.out).alloc ((F2.out).size) _⟩
 clear F2
 go_upto_region 6 with fail
 generalize (w2.alloc (.cells #[.string u, .int .i64 o, .bool false] 28)) = w3 at *
 go_wp2_with fail
 all_goals first | (exfalso; omega) | skip
 refine (HB _).mono ?_
 rintro o4 w4 ⟨rfl, bb⟩
 have F4 : Hid (Bk w4 (w2.heap.size) [.string u, .int .i64 o, .bool false] ∧ Below w.heap.size w w4) := ⟨(F3.out.1).step bb, (F3.out.2).trans (bb.mono (F3.out.2).size)⟩
 clear F3
 clear bb
 have lt0_1 := (F4.out.1).lt
 have le1 := (F4.out.2).size
 have F5 : Hid (Bk ((w4.alloc (.cells #[.string s, .int .i64 p, .bool false] 28)).alloc (.cells #[.string t, .int .i64 q, .bool false] 28)) (w2.heap.size) [.string u, .int .i64 o, .bool false] ∧ Bk ((w4.alloc (.cells #[.string s, .int .i64 p, .bool false] 28)).alloc (.cells #[.string t, .int .i64 q, .bool false] 28)) (w4.heap.size) [.string s, .int .i64 p, .bool false] ∧ Bk ((w4.alloc (.cells #[.string s, .int .i64 p, .bool false] 28)).alloc (.cells #[.string t, .int .i64 q, .bool false] 28)) (w4.heap.size + 1) [.string t, .int .i64 q, .bool false] ∧ Below w.heap.size w ((w4.alloc (.cells #[.string s, .int .i64 p, .bool false] 28)).alloc (.cells #[.string t, .int .i64 q, .bool false] 28))) := ⟨((F4.out.1).step ((Below.refl _ _).alloc (Nat.le_refl _) _)).step ((Below.refl _ _).alloc (Nat.le_refl _) _), (Bk.new3 w4 (.string s) (.int .i64 p) (.bool false) 28).step ((Below.refl _ _).alloc (Nat.le_refl _) _), ((by have q := Bk.new3 (w4.alloc (.cells #[.string s, .int .i64 p, .bool false] 28)) (.string t) (.int .i64 q) (.bool false) 28; simpa using q) : Bk ((w4.alloc (.cells #[.string s, .int .i64 p, .bool false] 28)).alloc (.cells #[.string t, .int .i64 q, .bool false] 28)) (w4.heap.size + 1) [.string t, .int .i64 q, .bool false]), ((F4.out.2).alloc ((F4.out.2).size) _).alloc (((F4.out.2).alloc ((F4.out.2).size) _).size) _⟩
 clear F4
 go_upto_region 7 with fail
 generalize ((w4.alloc (.cells #[.string s, .int .i64 p, .bool false] 28)).alloc (.cells #[.string t, .int .i64 q, .bool false] 28)) = w5 at *
 have l1_0 := F5.out.1.lt
 have a1_0_0 := F5.out.1.cell 0 _ rfl
 have a1_0_1 := F5.out.1.cell 1 _ rfl
 have a1_0_2 := F5.out.1.cell 2 _ rfl
 have l1_1 := F5.out.2.1.lt
 have a1_1_0 := F5.out.2.1.cell 0 _ rfl
 have a1_1_1 := F5.out.2.1.cell 1 _ rfl
 have a1_1_2 := F5.out.2.1.cell 2 _ rfl
 have l1_2 := F5.out.2.2.1.lt
 have a1_2_0 := F5.out.2.2.1.cell 0 _ rfl
 have a1_2_1 := F5.out.2.2.1.cell 1 _ rfl
 have a1_2_2 := F5.out.2.2.1.cell 2 _ rfl
 go_wp2_with fail
 all_goals first | (exfalso; omega) | skip
 refine (HI _).mono ?_
 rintro o6 w6 ⟨rfl, bb⟩
 have F6 : Hid (Bk w6 (w2.heap.size) [.string u, .int .i64 o, .bool false] ∧ Bk w6 (w4.heap.size) [.string s, .int .i64 p, .bool false] ∧ Bk w6 (w4.heap.size + 1) [.string t, .int .i64 q, .bool false] ∧ Below w.heap.size w w6) := ⟨(F5.out.1).step bb, (F5.out.2.1).step bb, (F5.out.2.2.1).step bb, (F5.out.2.2.2).trans (bb.mono (F5.out.2.2.2).size)⟩
 clear F5
 clear bb
 clear l1_0 a1_0_0 a1_0_1 a1_0_2 l1_1 a1_1_0 a1_1_1 a1_1_2 l1_2 a1_2_0 a1_2_1 a1_2_2
 go_wp2_with fail
 all_goals first | (exfalso; omega) | skip
 refine (HN _).mono ?_
 rintro o7 w7 ⟨rfl, bb⟩
 have F7 : Hid (Bk w7 (w2.heap.size) [.string u, .int .i64 o, .bool false] ∧ Bk w7 (w4.heap.size) [.string s, .int .i64 p, .bool false] ∧ Bk w7 (w4.heap.size + 1) [.string t, .int .i64 q, .bool false] ∧ Below w.heap.size w w7) := ⟨(F6.out.1).step bb, (F6.out.2.1).step bb, (F6.out.2.2.1).step bb, (F6.out.2.2.2).trans (bb.mono (F6.out.2.2.2).size)⟩
 clear F6
 clear bb
 go_wp2_with fail
 all_goals first | (exfalso; omega) | skip
 refine (HCN _).mono ?_
 rintro o8 w8 ⟨rfl, bb⟩
 have F8 : Hid (Bk w8 (w2.heap.size) [.string u, .int .i64 o, .bool false] ∧ Bk w8 (w4.heap.size) [.string s, .int .i64 p, .bool false] ∧ Bk w8 (w4.heap.size + 1) [.string t, .int .i64 q, .bool false] ∧ Below w.heap.size w w8) := ⟨(F7.out.1).step bb, (F7.out.2.1).step bb, (F7.out.2.2.1).step bb, (F7.out.2.2.2).trans (bb.mono (F7.out.2.2.2).size)⟩
 clear F7
 clear bb
 go_wp2_with fail
 all_goals first | (exfalso; omega) | skip
 refine (HBN _).mono ?_
 rintro o9 w9 ⟨rfl, bb⟩
 have F9 : Hid (Bk w9 (w2.heap.size) [.string u, .int .i64 o, .bool false] ∧ Bk w9 (w4.heap.size) [.string s, .int .i64 p, .bool false] ∧ Bk w9 (w4.heap.size + 1) [.string t, .int .i64 q, .bool false] ∧ Below w.heap.size w w9) := ⟨(F8.out.1).step bb, (F8.out.2.1).step bb, (F8.out.2.2.1).step bb, (F8.out.2.2.2).trans (bb.mono (F8.out.2.2.2).size)⟩
 clear F8
 clear bb
 have lt0_3 := (F9.out.1).lt
 have lt1_3 := (F9.out.2.1).lt
 have lt2_3 := (F9.out.2.2.1).lt
 have le3 := (F9.out.2.2.2).size
 have F10 : Hid (Bk ((w9.alloc (.cells #[.string t, .int .i64 q, .bool false] 28)).alloc (.cells #[.string t2, .int .i64 q2, .bool false] 28)) (w2.heap.size) [.string u, .int .i64 o, .bool false] ∧ Bk ((w9.alloc (.cells #[.string t, .int .i64 q, .bool false] 28)).alloc (.cells #[.string t2, .int .i64 q2, .bool false] 28)) (w4.heap.size) [.string s, .int .i64 p, .bool false] ∧ Bk ((w9.alloc (.cells #[.string t, .int .i64 q, .bool false] 28)).alloc (.cells #[.string t2, .int .i64 q2, .bool false] 28)) (w4.heap.size + 1) [.string t, .int .i64 q, .bool false] ∧ Bk ((w9.alloc (.cells #[.string t, .int .i64 q, .bool false] 28)).alloc (.cells #[.string t2, .int .i64 q2, .bool false] 28)) (w9.heap.size) [.string t, .int .i64 q, .bool false] ∧ Bk ((w9.alloc (.cells #[.string t, .int .i64 q, .bool false] 28)).alloc (.cells #[.string t2, .int .i64 q2, .bool false] 28)) (w9.heap.size + 1) [.string t2, .int .i64 q2, .bool false] ∧ Below w.heap.size w ((w9.alloc (.cells #[.string t, .int .i64 q, .bool false] 28)).alloc (.cells #[.string t2, .int .i64 q2, .bool false] 28))) := ⟨((F9.out.1).step ((Below.refl _ _).alloc (Nat.le_refl _) _)).step ((Below.refl _ _).alloc (Nat.le_refl _) _), ((F9.out.2.1).step ((Below.refl _ _).alloc (Nat.le_refl _) _)).step ((Below.refl _ _).alloc (Nat.le_refl _) _), ((F9.out.2.2.1).step ((Below.refl _ _).alloc (Nat.le_refl _) _)).step ((Below.refl _ _).alloc (Nat.le_refl _) _), (Bk.new3 w9 (.string t) (.int .i64 q) (.bool false) 28).step ((Below.refl _ _).alloc (Nat.le_refl _) _), ((by have q := Bk.new3 (w9.alloc (.cells #[.string t, .int .i64 q, .bool false] 28)) (.string t2) (.int .i64 q2) (.bool false) 28; simpa using q) : Bk ((w9.alloc (.cells #[.string t, .int .i64 q, .bool false] 28)).alloc (.cells #[.string t2, .int .i64 q2, .bool false] 28)) (w9.heap.size + 1) [.string t2, .int .i64 q2, .bool false]), ((F9.out.2.2.2).alloc ((F9.out.2.2.2).size) _).alloc (((F9.out.2.2.2).alloc ((F9.out.2.2.2).size) _).size) _⟩
 clear F9
 go_upto_region 29 with fail
 generalize ((w9.alloc (.cells #[.string t, .int .i64 q, .bool false] 28)).alloc (.cells #[.string t2, .int .i64 q2, .bool false] 28)) = w10 at *
 have l2_0 := F10.out.1.lt
 have a2_0_0 := F10.out.1.cell 0 _ rfl
 have a2_0_1 := F10.out.1.cell 1 _ rfl
 have a2_0_2 := F10.out.1.cell 2 _ rfl
 have l2_1 := F10.out.2.1.lt
 have a2_1_0 := F10.out.2.1.cell 0 _ rfl
 have a2_1_1 := F10.out.2.1.cell 1 _ rfl
 have a2_1_2 := F10.out.2.1.cell 2 _ rfl
 have l2_2 := F10.out.2.2.1.lt
 have a2_2_0 := F10.out.2.2.1.cell 0 _ rfl
 have a2_2_1 := F10.out.2.2.1.cell 1 _ rfl
 have a2_2_2 := F10.out.2.2.1.cell 2 _ rfl
 have l2_3 := F10.out.2.2.2.1.lt
 have a2_3_0 := F10.out.2.2.2.1.cell 0 _ rfl
 have a2_3_1 := F10.out.2.2.2.1.cell 1 _ rfl
 have a2_3_2 := F10.out.2.2.2.1.cell 2 _ rfl
 have l2_4 := F10.out.2.2.2.2.1.lt
 have a2_4_0 := F10.out.2.2.2.2.1.cell 0 _ rfl
 have a2_4_1 := F10.out.2.2.2.2.1.cell 1 _ rfl
 have a2_4_2 := F10.out.2.2.2.2.1.cell 2 _ rfl
 go_wp2_with fail
 all_goals first | (exfalso; omega) | skip
 refine (HIH _).mono ?_
 rintro o11 w11 ⟨rfl, bb⟩
 have F11 : Hid (Bk w11 (w2.heap.size) [.string u, .int .i64 o, .bool false] ∧ Bk w11 (w4.heap.size) [.string s, .int .i64 p, .bool false] ∧ Bk w11 (w4.heap.size + 1) [.string t, .int .i64 q, .bool false] ∧ Bk w11 (w9.heap.size) [.string t, .int .i64 q, .bool false] ∧ Bk w11 (w9.heap.size + 1) [.string t2, .int .i64 q2, .bool false] ∧ Below w.heap.size w w11) := ⟨(F10.out.1).step bb, (F10.out.2.1).step bb, (F10.out.2.2.1).step bb, (F10.out.2.2.2.1).step bb, (F10.out.2.2.2.2.1).step bb, (F10.out.2.2.2.2.2).trans (bb.mono (F10.out.2.2.2.2.2).size)⟩
 clear F10
 clear bb
 clear l2_0 a2_0_0 a2_0_1 a2_0_2 l2_1 a2_1_0 a2_1_1 a2_1_2 l2_2 a2_2_0 a2_2_1 a2_2_2 l2_3 a2_3_0 a2_3_1 a2_3_2 l2_4 a2_4_0 a2_4_1 a2_4_2
 have l3_0 := F11.out.1.lt
 have a3_0_0 := F11.out.1.cell 0 _ rfl
 have a3_0_1 := F11.out.1.cell 1 _ rfl
 have a3_0_2 := F11.out.1.cell 2 _ rfl
 have l3_1 := F11.out.2.1.lt
 have a3_1_0 := F11.out.2.1.cell 0 _ rfl
 have a3_1_1 := F11.out.2.1.cell 1 _ rfl
 have a3_1_2 := F11.out.2.1.cell 2 _ rfl
 have l3_2 := F11.out.2.2.1.lt
 have a3_2_0 := F11.out.2.2.1.cell 0 _ rfl
 have a3_2_1 := F11.out.2.2.1.cell 1 _ rfl
 have a3_2_2 := F11.out.2.2.1.cell 2 _ rfl
 have l3_3 := F11.out.2.2.2.1.lt
 have a3_3_0 := F11.out.2.2.2.1.cell 0 _ rfl
 have a3_3_1 := F11.out.2.2.2.1.cell 1 _ rfl
 have a3_3_2 := F11.out.2.2.2.1.cell 2 _ rfl
 have l3_4 := F11.out.2.2.2.2.1.lt
 have a3_4_0 := F11.out.2.2.2.2.1.cell 0 _ rfl
 have a3_4_1 := F11.out.2.2.2.2.1.cell 1 _ rfl
 have a3_4_2 := F11.out.2.2.2.2.1.cell 2 _ rfl
 go_wp2_with fail
 all_goals first | (exfalso; omega) | skip
 refine (HCM _).mono ?_
 rintro o12 w12 ⟨rfl, bb⟩
 have F12 : Hid (Bk w12 (w2.heap.size) [.string u, .int .i64 o, .bool false] ∧ Bk w12 (w4.heap.size) [.string s, .int .i64 p, .bool false] ∧ Bk w12 (w4.heap.size + 1) [.string t, .int .i64 q, .bool false] ∧ Bk w12 (w9.heap.size) [.string t, .int .i64 q, .bool false] ∧ Bk w12 (w9.heap.size + 1) [.string t2, .int .i64 q2, .bool false] ∧ Below w.heap.size w w12) := ⟨(F11.out.1).step bb, (F11.out.2.1).step bb, (F11.out.2.2.1).step bb, (F11.out.2.2.2.1).step bb, (F11.out.2.2.2.2.1).step bb, (F11.out.2.2.2.2.2).trans (bb.mono (F11.out.2.2.2.2.2).size)⟩
 clear F11
 clear bb
 clear l3_0 a3_0_0 a3_0_1 a3_0_2 l3_1 a3_1_0 a3_1_1 a3_1_2 l3_2 a3_2_0 a3_2_1 a3_2_2 l3_3 a3_3_0 a3_3_1 a3_3_2 l3_4 a3_4_0 a3_4_1 a3_4_2
 have l4_0 := F12.out.1.lt
 have a4_0_0 := F12.out.1.cell 0 _ rfl
 have a4_0_1 := F12.out.1.cell 1 _ rfl
 have a4_0_2 := F12.out.1.cell 2 _ rfl
 have l4_1 := F12.out.2.1.lt
 have a4_1_0 := F12.out.2.1.cell 0 _ rfl
 have a4_1_1 := F12.out.2.1.cell 1 _ rfl
 have a4_1_2 := F12.out.2.1.cell 2 _ rfl
 have l4_2 := F12.out.2.2.1.lt
 have a4_2_0 := F12.out.2.2.1.cell 0 _ rfl
 have a4_2_1 := F12.out.2.2.1.cell 1 _ rfl
 have a4_2_2 := F12.out.2.2.1.cell 2 _ rfl
 have l4_3 := F12.out.2.2.2.1.lt
 have a4_3_0 := F12.out.2.2.2.1.cell 0 _ rfl
 have a4_3_1 := F12.out.2.2.2.1.cell 1 _ rfl
 have a4_3_2 := F12.out.2.2.2.1.cell 2 _ rfl
 have l4_4 := F12.out.2.2.2.2.1.lt
 have a4_4_0 := F12.out.2.2.2.2.1.cell 0 _ rfl
 have a4_4_1 := F12.out.2.2.2.2.1.cell 1 _ rfl
 have a4_4_2 := F12.out.2.2.2.2.1.cell 2 _ rfl
 go_wp2_with fail
 all_goals first | (exfalso; omega) | skip
 refine (sure19 _).mono ?_
 rintro o13 w13 ⟨rfl, bb⟩
 have F13 : Hid (Bk w13 (w2.heap.size) [.string u, .int .i64 o, .bool false] ∧ Bk w13 (w4.heap.size) [.string s, .int .i64 p, .bool false] ∧ Bk w13 (w4.heap.size + 1) [.string t, .int .i64 q, .bool false] ∧ Bk w13 (w9.heap.size) [.string t, .int .i64 q, .bool false] ∧ Bk w13 (w9.heap.size + 1) [.string t2, .int .i64 q2, .bool false] ∧ Below w.heap.size w w13) := ⟨(F12.out.1).step bb, (F12.out.2.1).step bb, (F12.out.2.2.1).step bb, (F12.out.2.2.2.1).step bb, (F12.out.2.2.2.2.1).step bb, (F12.out.2.2.2.2.2).trans (bb.mono (F12.out.2.2.2.2.2).size)⟩
 clear F12
 clear bb
 go_wp2
 go_ret
 exact ⟨rfl, F13.out.2.2.2.2.2⟩
theorem ap_fin0 {b b1 b2 : Nat} {z : Int} {u s t s2 t2 : ByteArray} {o p q p2 q2 : Int} (eb : (bits BinOp.and IntKind.u64 (b : Int) 1 == 0) = true) (ez : (z == 32) = true) (HC : ∀ W, Calls Tryd.prog 4 #[.int .u64 (b : Int), .int .i64 z] W fun e w' => e = .returned (.tuple #[.int .i64 2, .nilIface]) ∧ Below W.heap.size W w') (HE : ∀ W, Calls Tryd.prog 5 #[.int .u64 (b : Int), .int .i64 z] W fun e w' => e = .returned (.tuple #[.agg #[.string u, .int .i64 o, .bool false], .nilIface]) ∧ Below W.heap.size W w') (HB : ∀ W, Calls Tryd.prog 7 #[.int .u64 (b : Int), .int .i64 z] W fun e w' => e = .returned (.tuple #[.agg #[.string s, .int .i64 p, .bool false], .agg #[.string t, .int .i64 q, .bool false], .bool true, .nilIface]) ∧ Below W.heap.size W w') (HI : ∀ W, Calls Tryd.prog 8 #[.agg #[.string u, .int .i64 o, .bool false], .int .u64 (b : Int), .int .i64 z] W fun e w' => e = .returned (.tuple #[.bool true, .nilIface]) ∧ Below W.heap.size W w') (HT : ∀ W, Calls Tryd.prog 9 #[.int .u64 (b : Int), .int .i64 z, .int .i64 9] W fun e w' => e = .returned (.tuple #[.bool true, .nilIface]) ∧ Below W.heap.size W w') (HP : ∀ W, Calls Tryd.prog 10 #[.int .u64 (b : Int), .int .i64 z] W fun e w' => e = .returned (.tuple #[.int .u64 (b1 : Int), .nilIface]) ∧ Below W.heap.size W w') (HBP : ∀ W, Calls Tryd.prog 7 #[.int .u64 (b1 : Int), .int .i64 z] W fun e w' => e = .returned (.tuple #[.agg #[.string s2, .int .i64 p2, .bool false], .agg #[.string s, .int .i64 p, .bool false], .bool false, .nilIface]) ∧ Below W.heap.size W w') (HIP : ∀ W, Calls Tryd.prog 8 #[.agg #[.string u, .int .i64 o, .bool false], .int .u64 (b1 : Int), .int .i64 z] W fun e w' => e = .returned (.tuple #[.bool false, .nilIface]) ∧ Below W.heap.size W w') (HN : ∀ W, Calls Tryd.prog 11 #[.int .u64 (b : Int), .int .i64 z] W fun e w' => e = .returned (.tuple #[.int .u64 (b2 : Int), .nilIface]) ∧ Below W.heap.size W w') (HCN : ∀ W, Calls Tryd.prog 4 #[.int .u64 (b2 : Int), .int .i64 z] W fun e w' => e = .returned (.tuple #[.int .i64 2, .nilIface]) ∧ Below W.heap.size W w') (HBN : ∀ W, Calls Tryd.prog 7 #[.int .u64 (b2 : Int), .int .i64 z] W fun e w' => e = .returned (.tuple #[.agg #[.string t, .int .i64 q, .bool false], .agg #[.string t2, .int .i64 q2, .bool false], .bool false, .nilIface]) ∧ Below W.heap.size W w') (HIH : ∀ W, Calls Tryd.prog 8 #[.agg #[.string t, .int .i64 q, .bool false], .int .u64 (b : Int), .int .i64 z] W fun e w' => e = .returned (.tuple #[.bool true, .nilIface]) ∧ Below W.heap.size W w') (HCM : ∀ W, Calls Tryd.prog 12 #[.agg #[.string s, .int .i64 p, .bool false], .agg #[.string t, .int .i64 q, .bool false]] W fun e w' => e = .returned (.tuple #[.int .i64 (-1), .nilIface]) ∧ Below W.heap.size W w') (w : World) :
 Calls Tryd.prog 3 #[.int .u64 (b : Int), .int .i64 z] w fun x w' => x = .returned (.bool true) ∧ Below w.heap.size w w' := by
 have F0 : Hid (Below w.heap.size w w) := Below.refl _ _
 go_enter Tryd.func3, Tryd.ntmps3
 go_wp2_with fail
 all_goals first | (exfalso; omega) | skip
 refine (HC _).mono ?_
 rintro o1 w1 ⟨rfl, bb⟩
 have F1 : Hid (Below w.heap.size w w1) := (F0.out).trans (bb.mono (F0.out).size)
 clear F0
 clear bb
 go_wp2_with fail
 all_goals first | (exfalso; omega) | skip
 refine (HE _).mono ?_
 rintro o2 w2 ⟨rfl, bb⟩
 have F2 : Hid (Below w.heap.size w w2) := (F1.out).trans (bb.mono (F1.out).size)
 clear F1
 clear bb
 have le0 := (F2.out).size
 have F3 : Hid (Bk (w2.alloc (.cells #[.string u, .int .i64 o, .bool false] 28)) (w2.heap.size) [.string u, .int .i64 o, .bool false] ∧ Below w.heap.size w (w2.alloc (.cells #[.string u, .int .i64 o, .bool false] 28))) := ⟨Bk.new3 w2 (.string u) (.int .i64 o) (.bool false) 28, (F2.out).alloc ((F2.out).size) _⟩
 clear F2
 go_upto_region 6 with fail
 generalize (w2.alloc (.cells #[.string u, .int .i64 o, .bool false] 28)) = w3 at *
 go_wp2_with fail
 all_goals first | (exfalso; omega) | skip
 refine (HB _).mono ?_
 rintro o4 w4 ⟨rfl, bb⟩
 have F4 : Hid (Bk w4 (w2.heap.size) [.string u, .int .i64 o, .bool false] ∧ Below w.heap.size w w4) := ⟨(F3.out.1).step bb, (F3.out.2).trans (bb.mono (F3.out.2).size)⟩
 clear F3
 clear bb
 have lt0_1 := (F4.out.1).lt
 have le1 := (F4.out.2).size
 have F5 : Hid (Bk ((w4.alloc (.cells #[.string s, .int .i64 p, .bool false] 28)).alloc (.cells #[.string t, .int .i64 q, .bool false] 28)) (w2.heap.size) [.string u, .int .i64 o, .bool false] ∧ Bk ((w4.alloc (.cells #[.string s, .int .i64 p, .bool false] 28)).alloc (.cells #[.string t, .int .i64 q, .bool false] 28)) (w4.heap.size) [.string s, .int .i64 p, .bool false] ∧ Bk ((w4.alloc (.cells #[.string s, .int .i64 p, .bool false] 28)).alloc (.cells #[.string t, .int .i64 q, .bool false] 28)) (w4.heap.size + 1) [.string t, .int .i64 q, .bool false] ∧ Below w.heap.size w ((w4.alloc (.cells #[.string s, .int .i64 p, .bool false] 28)).alloc (.cells #[.string t, .int .i64 q, .bool false] 28))) := ⟨((F4.out.1).step ((Below.refl _ _).alloc (Nat.le_refl _) _)).step ((Below.refl _ _).alloc (Nat.le_refl _) _), (Bk.new3 w4 (.string s) (.int .i64 p) (.bool false) 28).step ((Below.refl _ _).alloc (Nat.le_refl _) _), ((by have q := Bk.new3 (w4.alloc (.cells #[.string s, .int .i64 p, .bool false] 28)) (.string t) (.int .i64 q) (.bool false) 28; simpa using q) : Bk ((w4.alloc (.cells #[.string s, .int .i64 p, .bool false] 28)).alloc (.cells #[.string t, .int .i64 q, .bool false] 28)) (w4.heap.size + 1) [.string t, .int .i64 q, .bool false]), ((F4.out.2).alloc ((F4.out.2).size) _).alloc (((F4.out.2).alloc ((F4.out.2).size) _).size) _⟩
 clear F4
 go_upto_region 7 with fail
 generalize ((w4.alloc (.cells #[.string s, .int .i64 p, .bool false] 28)).alloc (.cells #[.string t, .int .i64 q, .bool false] 28)) = w5 at *
 have l1_0 := F5.out.1.lt
 have a1_0_0 := F5.out.1.cell 0 _ rfl
 have a1_0_1 := F5.out.1.cell 1 _ rfl
 have a1_0_2 := F5.out.1.cell 2 _ rfl
 have l1_1 := F5.out.2.1.lt
 have a1_1_0 := F5.out.2.1.cell 0 _ rfl
 have a1_1_1 := F5.out.2.1.cell 1 _ rfl
 have a1_1_2 := F5.out.2.1.cell 2 _ rfl
 have l1_2 := F5.out.2.2.1.lt
 have a1_2_0 := F5.out.2.2.1.cell 0 _ rfl
 have a1_2_1 := F5.out.2.2.1.cell 1 _ rfl
 have a1_2_2 := F5.out.2.2.1.cell 2 _ rfl
 go_wp2_with fail
 all_goals first | (exfalso; omega) | skip
 refine (HI _).mono ?_
 rintro o6 w6 ⟨rfl, bb⟩
 have F6 : Hid (Bk w6 (w2.heap.size) [.string u, .int .i64 o, .bool false] ∧ Bk w6 (w4.heap.size) [.string s, .int .i64 p, .bool false] ∧ Bk w6 (w4.heap.size + 1) [.string t, .int .i64 q, .bool false] ∧ Below w.heap.size w w6) := ⟨(F5.out.1).step bb, (F5.out.2.1).step bb, (F5.out.2.2.1).step bb, (F5.out.2.2.2).trans (bb.mono (F5.out.2.2.2).size)⟩
 clear F5
 clear bb
 clear l1_0 a1_0_0 a1_0_1 a1_0_2 l1_1 a1_1_0 a1_1_1 a1_1_2 l1_2 a1_2_0 a1_2_1 a1_2_2
 go_wp2_with fail
 all_goals first | (exfalso; omega) | skip
 refine (HT _).mono ?_
 rintro o7 w7 ⟨rfl, bb⟩
 have F7 : Hid (Bk w7 (w2.heap.size) [.string u, .int .i64 o, .bool false] ∧ Bk w7 (w4.heap.size) [.string s, .int .i64 p, .bool false] ∧ Bk w7 (w4.heap.size + 1) [.string t, .int .i64 q, .bool false] ∧ Below w.heap.size w w7) := ⟨(F6.out.1).step bb, (F6.out.2.1).step bb, (F6.out.2.2.1).step bb, (F6.out.2.2.2).trans (bb.mono (F6.out.2.2.2).size)⟩
 clear F6
 clear bb
 go_wp2_with fail
 all_goals first | (exfalso; omega) | skip
 refine (HP _).mono ?_
 rintro o8 w8 ⟨rfl, bb⟩
 have F8 : Hid (Bk w8 (w2.heap.size) [.string u, .int .i64 o, .bool false] ∧ Bk w8 (w4.heap.size) [.string s, .int .i64 p, .bool false] ∧ Bk w8 (w4.heap.size + 1) [.string t, .int .i64 q, .bool false] ∧ Below w.heap.size w w8) := ⟨(F7.out.1).step bb, (F7.out.2.1).step bb, (F7.out.2.2.1).step bb, (F7.out.2.2.2).trans (bb.mono (F7.out.2.2.2).size)⟩
 clear F7
 clear bb
 go_wp2_with fail
 all_goals first | (exfalso; omega) | skip
 refine (HBP _).mono ?_
 rintro o9 w9 ⟨rfl, bb⟩
 have F9 : Hid (Bk w9 (w2.heap.size) [.string u, .int .i64 o, .bool false] ∧ Bk w9 (w4.heap.size) [.string s, .int .i64 p, .bool false] ∧ Bk w9 (w4.heap.size + 1) [.string t, .int .i64 q, .bool false] ∧ Below w.heap.size w w9) := ⟨(F8.out.1).step bb, (F8.out.2.1).step bb, (F8.out.2.2.1).step bb, (F8.out.2.2.2).trans (bb.mono (F8.out.2.2.2).size)⟩
 clear F8
 clear bb
 have lt0_3 := (F9.out.1).lt
 have lt1_3 := (F9.out.2.1).lt
 have lt2_3 := (F9.out.2.2.1).lt
 have le3 := (F9.out.2.2.2).size
 have F10 : Hid (Bk ((w9.alloc (.cells #[.string s2, .int .i64 p2, .bool false] 28)).alloc (.cells #[.string s, .int .i64 p, .bool false] 28)) (w2.heap.size) [.string u, .int .i64 o, .bool false] ∧ Bk ((w9.alloc (.cells #[.string s2, .int .i64 p2, .bool false] 28)).alloc (.cells #[.string s, .int .i64 p, .bool false] 28)) (w4.heap.size) [.string s, .int .i64 p, .bool false] ∧ Bk ((w9.alloc (.cells #[.string s2, .int .i64 p2, .bool false] 28)).alloc (.cells #[.string s, .int .i64 p, .bool false] 28)) (w4.heap.size + 1) [.string t, .int .i64 q, .bool false] ∧ Bk ((w9.alloc (.cells #[.string s2, .int .i64 p2, .bool false] 28)).alloc (.cells #[.string s, .int .i64 p, .bool false] 28)) (w9.heap.size) [.string s2, .int .i64 p2, .bool false] ∧ Bk ((w9.alloc (.cells #[.string s2, .int .i64 p2, .bool false] 28)).alloc (.cells #[.string s, .int .i64 p, .bool false] 28)) (w9.heap.size + 1) [.string s, .int .i64 p, .bool false] ∧ Below w.heap.size w ((w9.alloc (.cells #[.string s2, .int .i64 p2, .bool false] 28)).alloc (.cells #[.string s, .int .i64 p, .bool false] 28))) := ⟨((F9.out.1).step ((Below.refl _ _).alloc (Nat.le_refl _) _)).step ((Below.refl _ _).alloc (Nat.le_refl _) _), ((F9.out.2.1).step ((Below.refl _ _).alloc (Nat.le_refl _) _)).step ((Below.refl _ _).alloc (Nat.le_refl _) _), ((F9.out.2.2.1).step ((Below.refl _ _).alloc (Nat.le_refl _) _)).step ((Below.refl _ _).alloc (Nat.le_refl _) _), (Bk.new3 w9 (.string s2) (.int .i64 p2) (.bool false) 28).step ((Below.refl _ _).alloc (Nat.le_refl _) _), ((by have q := Bk.new3 (w9.alloc (.cells #[.string s2, .int .i64 p2, .bool false] 28)) (.string s) (.int .i64 p) (.bool false) 28; simpa using q) : Bk ((w9.alloc (.cells #[.string s2, .int .i64 p2, .bool false] 28)).alloc (.cells #[.string s, .int .i64 p, .bool false] 28)) (w9.heap.size + 1) [.string s, .int .i64 p, .bool false]), ((F9.out.2.2.2).alloc ((F9.out.2.2.2).size) _).alloc (((F9.out.2.2.2).alloc ((F9.out.2.2.2).size) _).size) _⟩
 clear F9
 go_upto_region 19 with fail
 generalize ((w9.alloc (.cells #[.string s2, .int .i64 p2, .bool false] 28)).alloc (.cells #[.string s, .int .i64 p, .bool false] 28)) = w10 at *
 have l2_0 := F10.out.1.lt
 have a2_0_0 := F10.out.1.cell 0 _ rfl
 have a2_0_1 := F10.out.1.cell 1 _ rfl
 have a2_0_2 := F10.out.1.cell 2 _ rfl
 have l2_1 := F10.out.2.1.lt
 have a2_1_0 := F10.out.2.1.cell 0 _ rfl
 have a2_1_1 := F10.out.2.1.cell 1 _ rfl
 have a2_1_2 := F10.out.2.1.cell 2 _ rfl
 have l2_2 := F10.out.2.2.1.lt
 have a2_2_0 := F10.out.2.2.1.cell 0 _ rfl
 have a2_2_1 := F10.out.2.2.1.cell 1 _ rfl
 have a2_2_2 := F10.out.2.2.1.cell 2 _ rfl
 have l2_3 := F10.out.2.2.2.1.lt
 have a2_3_0 := F10.out.2.2.2.1.cell 0 _ rfl
 have a2_3_1 := F10.out.2.2.2.1.cell 1 _ rfl
 have a2_3_2 := F10.out.2.2.2.1.cell 2 _ rfl
 have l2_4 := F10.out.2.2.2.2.1.lt
 have a2_4_0 := F10.out.2.2.2.2.1.cell 0 _ rfl
 have a2_4_1 := F10.out.2.2.2.2.1.cell 1 _ rfl
 have a2_4_2 := F10.out.2.2.2.2.1.cell 2 _ rfl
 go_wp2_with fail
 all_goals first | (exfalso; omega) | skip
 refine (HIP _).mono ?_
 rintro o11 w11 ⟨rfl, bb⟩
 have F11 : Hid (Bk w11 (w2.heap.size) [.string u, .int .i64 o, .bool false] ∧ Bk w11 (w4.heap.size) [.string s, .int .i64 p, .bool false] ∧ Bk w11 (w4.heap.size + 1) [.string t, .int .i64 q, .bool false] ∧ Bk w11 (w9.heap.size) [.string s2, .int .i64 p2, .bool false] ∧ Bk w11 (w9.heap.size + 1) [.string s, .int .i64 p, .bool false] ∧ Below w.heap.size w w11) := ⟨(F10.out.1).step bb, (F10.out.2.1).step bb, (F10.out.2.2.1).step bb, (F10.out.2.2.2.1).step bb, (F10.out.2.2.2.2.1).step bb, (F10.out.2.2.2.2.2).trans (bb.mono (F10.out.2.2.2.2.2).size)⟩
 clear F10
 clear bb
 clear l2_0 a2_0_0 a2_0_1 a2_0_2 l2_1 a2_1_0 a2_1_1 a2_1_2 l2_2 a2_2_0 a2_2_1 a2_2_2 l2_3 a2_3_0 a2_3_1 a2_3_2 l2_4 a2_4_0 a2_4_1 a2_4_2
 have l3_0 := F11.out.1.lt
 have a3_0_0 := F11.out.1.cell 0 _ rfl
 have a3_0_1 := F11.out.1.cell 1 _ rfl
 have a3_0_2 := F11.out.1.cell 2 _ rfl
 have l3_1 := F11.out.2.1.lt
 have a3_1_0 := F11.out.2.1.cell 0 _ rfl
 have a3_1_1 := F11.out.2.1.cell 1 _ rfl
 have a3_1_2 := F11.out.2.1.cell 2 _ rfl
 have l3_2 := F11.out.2.2.1.lt
 have a3_2_0 := F11.out.2.2.1.cell 0 _ rfl
 have a3_2_1 := F11.out.2.2.1.cell 1 _ rfl
 have a3_2_2 := F11.out.2.2.1.cell 2 _ rfl
 have l3_3 := F11.out.2.2.2.1.lt
 have a3_3_0 := F11.out.2.2.2.1.cell 0 _ rfl
 have a3_3_1 := F11.out.2.2.2.1.cell 1 _ rfl
 have a3_3_2 := F11.out.2.2.2.1.cell 2 _ rfl
 have l3_4 := F11.out.2.2.2.2.1.lt
 have a3_4_0 := F11.out.2.2.2.2.1.cell 0 _ rfl
 have a3_4_1 := F11.out.2.2.2.2.1.cell 1 _ rfl
 have a3_4_2 := F11.out.2.2.2.2.1.cell 2 _ rfl
 go_wp2_with fail
 all_goals first | (exfalso; omega) | skip
 refine (HN _).mono ?_
 rintro o12 w12 ⟨rfl, bb⟩
 have F12 : Hid (Bk w12 (w2.heap.size) [.string u, .int .i64 o, .bool false] ∧ Bk w12 (w4.heap.size) [.string s, .int .i64 p, .bool false] ∧ Bk w12 (w4.heap.size + 1) [.string t, .int .i64 q, .bool false] ∧ Bk w12 (w9.heap.size) [.string s2, .int .i64 p2, .bool false] ∧ Bk w12 (w9.heap.size + 1) [.string s, .int .i64 p, .bool false] ∧ Below w.heap.size w w12) := ⟨(F11.out.1).step bb, (F11.out.2.1).step bb, (F11.out.2.2.1).step bb, (F11.out.2.2.2.1).step bb, (F11.out.2.2.2.2.1).step bb, (F11.out.2.2.2.2.2).trans (bb.mono (F11.out.2.2.2.2.2).size)⟩
 clear F11
 clear bb
 clear l3_0 a3_0_0 a3_0_1 a3_0_2 l3_1 a3_1_0 a3_1_1 a3_1_2 l3_2 a3_2_0 a3_2_1 a3_2_2 l3_3 a3_3_0 a3_3_1 a3_3_2 l3_4 a3_4_0 a3_4_1 a3_4_2
 go_wp2_with fail
 all_goals first | (exfalso; omega) | skip
 refine (HCN _).mono ?_
 rintro o13 w13 ⟨rfl, bb⟩
 have F13 : Hid (Bk w13 (w2.heap.size) [.string u, .int .i64 o, .bool false] ∧ Bk w13 (w4.heap.size) [.string s, .int .i64 p, .bool false] ∧ Bk w13 (w4.heap.size + 1) [.string t, .int .i64 q, .bool false] ∧ Bk w13 (w9.heap.size) [.string s2, .int .i64 p2, .bool false] ∧ Bk w13 (w9.heap.size + 1) [.string s, .int .i64 p, .bool false] ∧ Below w.heap.size w w13) := ⟨(F12.out.1).step bb, (F12.out.2.1).step bb, (F12.out.2.2.1).step bb, (F12.out.2.2.2.1).step bb, (F12.out.2.2.2.2.1).step bb, (F12.out.2.2.2.2.2).trans (bb.mono (F12.out.2.2.2.2.2).size)⟩
 clear F12
 clear bb
 go_wp2_with fail
 all_goals first | (exfalso; omega) | skip
 refine (HBN _).mono ?_
 rintro o14 w14 ⟨rfl, bb⟩
 have F14 : Hid (Bk w14 (w2.heap.size) [.string u, .int .i64 o, .bool false] ∧ Bk w14 (w4.heap.size) [.string s, .int .i64 p, .bool false] ∧ Bk w14 (w4.heap.size + 1) [.string t, .int .i64 q, .bool false] ∧ Bk w14 (w9.heap.size) [.string s2, .int .i64 p2, .bool false] ∧ Bk w14 (w9.heap.size + 1) [.string s, .int .i64 p, .bool false] ∧ Below w.heap.size w w14) := ⟨(F13.out.1).step bb, (F13.out.2.1).step bb, (F13.out.2.2.1).step bb, (F13.out.2.2.2.1).step bb, (F13.out.2.2.2.2.1).step bb, (F13.out.2.2.2.2.2).trans (bb.mono (F13.out.2.2.2.2.2).size)⟩
 clear F13
 clear bb
 have lt0_5 := (F14.out.1).lt
 have lt1_5 := (F14.out.2.1).lt
 have lt2_5 := (F14.out.2.2.1).lt
 have lt3_5 := (F14.out.2.2.2.1).lt
 have lt4_5 := (F14.out.2.2.2.2.1).lt
 have le5 := (F14.out.2.2.2.2.2).size
 have F15 : Hid (Bk ((w14.alloc (.cells #[.string t, .int .i64 q, .bool false] 28)).alloc (.cells #[.string t2, .int .i64 q2, .bool false] 28)) (w2.heap.size) [.string u, .int .i64 o, .bool false] ∧ Bk ((w14.alloc (.cells #[.string t, .int .i64 q, .bool false] 28)).alloc (.cells #[.string t2, .int .i64 q2, .bool false] 28)) (w4.heap.size) [.string s, .int .i64 p, .bool false] ∧ Bk ((w14.alloc (.cells #[.string t, .int .i64 q, .bool false] 28)).alloc (.cells #[.string t2, .int .i64 q2, .bool false] 28)) (w4.heap.size + 1) [.string t, .int .i64 q, .bool false] ∧ Bk ((w14.alloc (.cells #[.string t, .int .i64 q, .bool false] 28)).alloc (.cells #[.string t2, .int .i64 q2, .bool false] 28)) (w9.heap.size) [.string s2, .int .i64 p2, .bool false] ∧ Bk ((w14.alloc (.cells #[.string t, .int .i64 q, .bool false] 28)).alloc (.cells #[.string t2, .int .i64 q2, .bool false] 28)) (w9.heap.size + 1) [.string s, .int .i64 p, .bool false] ∧ Bk ((w14.alloc (.cells #[.string t, .int .i64 q, .bool false] 28)).alloc (.cells #[.string t2, .int .i64 q2, .bool false] 28)) (w14.heap.size) [.string t, .int .i64 q, .bool false] ∧ Bk ((w14.alloc (.cells #[.string t, .int .i64 q, .bool false] 28)).alloc (.cells #[.string t2, .int .i64 q2, .bool false] 28)) (w14.heap.size + 1) [.string t2, .int .i64 q2, .bool false] ∧ Below w.heap.size w ((w14.alloc (.cells #[.string t, .int .i64 q, .bool false] 28)).alloc (.cells #[.string t2, .int .i64 q2, .bool false] 28))) := ⟨((F14.out.1).step ((Below.refl _ _).alloc (Nat.le_refl _) _)).step ((Below.refl _ _).alloc (Nat.le_refl _) _), ((F14.out.2.1).step ((Below.refl _ _).alloc (Nat.le_refl _) _)).step ((Below.refl _ _).alloc (Nat.le_refl _) _), ((F14.out.2.2.1).step ((Below.refl _ _).alloc (Nat.le_refl _) _)).step ((Below.refl _ _).alloc (Nat.le_refl _) _), ((F14.out.2.2.2.1).step ((Below.refl _ _).alloc (Nat.le_refl _) _)).step ((Below.refl _ _).alloc (Nat.le_refl _) _), ((F14.out.2.2.2.2.1).step ((Below.refl _ _).alloc (Nat.le_refl _) _)).step ((Below.refl _ _).alloc (Nat.le_refl _) _), (Bk.new3 w14 (.string t) (.int .i64 q) (.bool false) 28).step ((Below.refl _ _).alloc (Nat.le_refl _) _), ((by have q := Bk.new3 (w14.alloc (.cells #[.string t, .int .i64 q, .bool false] 28)) (.string t2) (.int .i64 q2) (.bool false) 28; simpa using q) : Bk ((w14.alloc (.cells #[.string t, .int .i64 q, .bool false] 28)).alloc (.cells #[.string t2, .int .i64 q2, .bool false] 28)) (w14.heap.size + 1) [.string t2, .int .i64 q2, .bool false]), ((F14.out.2.2.2.2.2).alloc ((F14.out.2.2.2.2.2).size) _).alloc (((F14.out.2.2.2.2.2).alloc ((F14.out.2.2.2.2.2).size) _).size) _⟩
 clear F14
 go_upto_region 29 with fail
 generalize ((w14.alloc (.cells #[.string t, .int .i64 q, .bool false] 28)).alloc (.cells #[.string t2, .int .i64 q2, .bool false] 28)) = w15 at *
 have l4_0 := F15.out.1.lt
 have a4_0_0 := F15.out.1.cell 0 _ rfl
 have a4_0_1 := F15.out.1.cell 1 _ rfl
 have a4_0_2 := F15.out.1.cell 2 _ rfl
 have l4_1 := F15.out.2.1.lt
 have a4_1_0 := F15.out.2.1.cell 0 _ rfl
 have a4_1_1 := F15.out.2.1.cell 1 _ rfl
 have a4_1_2 := F15.out.2.1.cell 2 _ rfl
 have l4_2 := F15.out.2.2.1.lt
 have a4_2_0 := F15.out.2.2.1.cell 0 _ rfl
 have a4_2_1 := F15.out.2.2.1.cell 1 _ rfl
 have a4_2_2 := F15.out.2.2.1.cell 2 _ rfl
 have l4_3 := F15.out.2.2.2.1.lt
 have a4_3_0 := F15.out.2.2.2.1.cell 0 _ rfl
 have a4_3_1 := F15.out.2.2.2.1.cell 1 _ rfl
 have a4_3_2 := F15.out.2.2.2.1.cell 2 _ rfl
 have l4_4 := F15.out.2.2.2.2.1.lt
 have a4_4_0 := F15.out.2.2.2.2.1.cell 0 _ rfl
 have a4_4_1 := F15.out.2.2.2.2.1.cell 1 _ rfl
 have a4_4_2 := F15.out.2.2.2.2.1.cell 2 _ rfl
 have l4_5 := F15.out.2.2.2.2.2.1.lt
 have a4_5_0 := F15.out.2.2.2.2.2.1.cell 0 _ rfl
 have a4_5_1 := F15.out.2.2.2.2.2.1.cell 1 _ rfl
 have a4_5_2 := F15.out.2.2.2.2.2.1.cell 2 _ rfl
 have l4_6 := F15.out.2.2.2.2.2.2.1.lt
 have a4_6_0 := F15.out.2.2.2.2.2.2.1.cell 0 _ rfl
 have a4_6_1 := F15.out.2.2.2.2.2.2.1.cell 1 _ rfl
 have a4_6_2 := F15.out.2.2.2.2.2.2.1.cell 2 _ rfl
 go_wp2_with fail
 all_goals first | (exfalso; omega) | skip
 refine (HIH _).mono ?_
 rintro o16 w16 ⟨rfl, bb⟩
 have F16 : Hid (Bk w16 (w2.heap.size) [.string u, .int .i64 o, .bool false] ∧ Bk w16 (w4.heap.size) [.string s, .int .i64 p, .bool false] ∧ Bk w16 (w4.heap.size + 1) [.string t, .int .i64 q, .bool false] ∧ Bk w16 (w9.heap.size) [.string s2, .int .i64 p2, .bool false] ∧ Bk w16 (w9.heap.size + 1) [.string s, .int .i64 p, .bool false] ∧ Bk w16 (w14.heap.size) [.string t, .int .i64 q, .bool false] ∧ Bk w16 (w14.heap.size + 1) [.string t2, .int .i64 q2, .bool false] ∧ Below w.heap.size w w16) := ⟨(F15.out.1).step bb, (F15.out.2.1).step bb, (F15.out.2.2.1).step bb, (F15.out.2.2.2.1).step bb, (F15.out.2.2.2.2.1).step bb, (F15.out.2.2.2.2.2.1).step bb, (F15.out.2.2.2.2.2.2.1).step bb, (F15.out.2.2.2.2.2.2.2).trans (bb.mono (F15.out.2.2.2.2.2.2.2).size)⟩
 clear F15
 clear bb
 clear l4_0 a4_0_0 a4_0_1 a4_0_2 l4_1 a4_1_0 a4_1_1 a4_1_2 l4_2 a4_2_0 a4_2_1 a4_2_2 l4_3 a4_3_0 a4_3_1 a4_3_2 l4_4 a4_4_0 a4_4_1 a4_4_2 l4_5 a4_5_0 a4_5_1 a4_5_2 l4_6 a4_6_0 a4_6_1 a4_6_2
 have l5_0 := F16.out.1.lt
 have a5_0_0 := F16.out.1.cell 0 _ rfl
 have a5_0_1 := F16.out.1.cell 1 _ rfl
 have a5_0_2 := F16.out.1.cell 2 _ rfl
 have l5_1 := F16.out.2.1.lt
 have a5_1_0 := F16.out.2.1.cell 0 _ rfl
 have a5_1_1 := F16.out.2.1.cell 1 _ rfl
 have a5_1_2 := F16.out.2.1.cell 2 _ rfl
 have l5_2 := F16.out.2.2.1.lt
 have a5_2_0 := F16.out.2.2.1.cell 0 _ rfl
 have a5_2_1 := F16.out.2.2.1.cell 1 _ rfl
 have a5_2_2 := F16.out.2.2.1.cell 2 _ rfl
 have l5_3 := F16.out.2.2.2.1.lt
 have a5_3_0 := F16.out.2.2.2.1.cell 0 _ rfl
 have a5_3_1 := F16.out.2.2.2.1.cell 1 _ rfl
 have a5_3_2 := F16.out.2.2.2.1.cell 2 _ rfl
 have l5_4 := F16.out.2.2.2.2.1.lt
 have a5_4_0 := F16.out.2.2.2.2.1.cell 0 _ rfl
 have a5_4_1 := F16.out.2.2.2.2.1.cell 1 _ rfl
 have a5_4_2 := F16.out.2.2.2.2.1.cell 2 _ rfl
 have l5_5 := F16.out.2.2.2.2.2.1.lt
 have a5_5_0 := F16.out.2.2.2.2.2.1.cell 0 _ rfl
 have a5_5_1 := F16.out.2.2.2.2.2.1.cell 1 _ rfl
 have a5_5_2 := F16.out.2.2.2.2.2.1.cell 2 _ rfl
 have l5_6 := F16.out.2.2.2.2.2.2.1.lt
 have a5_6_0 := F16.out.2.2.2.2.2.2.1.cell 0 _ rfl
 have a5_6_1 := F16.out.2.2.2.2.2.2.1.cell 1 _ rfl
 have a5_6_2 := F16.out.2.2.2.2.2.2.1.cell 2 _ rfl
 go_wp2_with fail
 all_goals first | (exfalso; omega) | skip
 refine (HCM _).mono ?_
 rintro o17 w17 ⟨rfl, bb⟩
 have F17 : Hid (Bk w17 (w2.heap.size) [.string u, .int .i64 o, .bool false] ∧ Bk w17 (w4.heap.size) [.string s, .int .i64 p, .bool false] ∧ Bk w17 (w4.heap.size + 1) [.string t, .int .i64 q, .bool false] ∧ Bk w17 (w9.heap.size) [.string s2, .int .i64 p2, .bool false] ∧ Bk w17 (w9.heap.size + 1) [.string s, .int .i64 p, .bool false] ∧ Bk w17 (w14.heap.size) [.string t, .int .i64 q, .bool false] ∧ Bk w17 (w14.heap.size + 1) [.string t2, .int .i64 q2, .bool false] ∧ Below w.heap.size w w17) := ⟨(F16.out.1).step bb, (F16.out.2.1).step bb, (F16.out.2.2.1).step bb, (F16.out.2.2.2.1).step bb, (F16.out.2.2.2.2.1).step bb, (F16.out.2.2.2.2.2.1).step bb, (F16.out.2.2.2.2.2.2.1).step bb, (F16.out.2.2.2.2.2.2.2).trans (bb.mono (F16.out.2.2.2.2.2.2.2).size)⟩
 clear F16
 clear bb
 clear l5_0 a5_0_0 a5_0_1 a5_0_2 l5_1 a5_1_0 a5_1_1 a5_1_2 l5_2 a5_2_0 a5_2_1 a5_2_2 l5_3 a5_3_0 a5_3_1 a5_3_2 l5_4 a5_4_0 a5_4_1 a5_4_2 l5_5 a5_5_0 a5_5_1 a5_5_2 l5_6 a5_6_0 a5_6_1 a5_6_2
 have l6_0 := F17.out.1.lt
 have a6_0_0 := F17.out.1.cell 0 _ rfl
 have a6_0_1 := F17.out.1.cell 1 _ rfl
 have a6_0_2 := F17.out.1.cell 2 _ rfl
 have l6_1 := F17.out.2.1.lt
 have a6_1_0 := F17.out.2.1.cell 0 _ rfl
 have a6_1_1 := F17.out.2.1.cell 1 _ rfl
 have a6_1_2 := F17.out.2.1.cell 2 _ rfl
 have l6_2 := F17.out.2.2.1.lt
 have a6_2_0 := F17.out.2.2.1.cell 0 _ rfl
 have a6_2_1 := F17.out.2.2.1.cell 1 _ rfl
 have a6_2_2 := F17.out.2.2.1.cell 2 _ rfl
 have l6_3 := F17.out.2.2.2.1.lt
 have a6_3_0 := F17.out.2.2.2.1.cell 0 _ rfl
 have a6_3_1 := F17.out.2.2.2.1.cell 1 _ rfl
 have a6_3_2 := F17.out.2.2.2.1.cell 2 _ rfl
 have l6_4 := F17.out.2.2.2.2.1.lt
 have a6_4_0 := F17.out.2.2.2.2.1.cell 0 _ rfl
 have a6_4_1 := F17.out.2.2.2.2.1.cell 1 _ rfl
 have a6_4_2 := F17.out.2.2.2.2.1.cell 2 _ rfl
 have l6_5 := F17.out.2.2.2.2.2.1.lt
 have a6_5_0 := F17.out.2.2.2.2.2.1.cell 0 _ rfl
 have a6_5_1 := F17.out.2.2.2.2.2.1.cell 1 _ rfl
 have a6_5_2 := F17.out.2.2.2.2.2.1.cell 2 _ rfl
 have l6_6 := F17.out.2.2.2.2.2.2.1.lt
 have a6_6_0 := F17.out.2.2.2.2.2.2.1.cell 0 _ rfl
 have a6_6_1 := F17.out.2.2.2.2.2.2.1.cell 1 _ rfl
 have a6_6_2 := F17.out.2.2.2.2.2.2.1.cell 2 _ rfl
 go_wp2_with fail
 all_goals first | (exfalso; omega) | skip
 refine (sure19 _).mono ?_
 rintro o18 w18 ⟨rfl, bb⟩
 have F18 : Hid (Bk w18 (w2.heap.size) [.string u, .int .i64 o, .bool false] ∧ Bk w18 (w4.heap.size) [.string s, .int .i64 p, .bool false] ∧ Bk w18 (w4.heap.size + 1) [.string t, .int .i64 q, .bool false] ∧ Bk w18 (w9.heap.size) [.string s2, .int .i64 p2, .bool false] ∧ Bk w18 (w9.heap.size + 1) [.string s, .int .i64 p, .bool false] ∧ Bk w18 (w14.heap.size) [.string t, .int .i64 q, .bool false] ∧ Bk w18 (w14.heap.size + 1) [.string t2, .int .i64 q2, .bool false] ∧ Below w.heap.size w w18) := ⟨(F17.out.1).step bb, (F17.out.2.1).step bb, (F17.out.2.2.1).step bb, (F17.out.2.2.2.1).step bb, (F17.out.2.2.2.2.1).step bb, (F17.out.2.2.2.2.2.1).step bb, (F17.out.2.2.2.2.2.2.1).step bb, (F17.out.2.2.2.2.2.2.2).trans (bb.mono (F17.out.2.2.2.2.2.2.2).size)⟩
 clear F17
 clear bb
 go_wp2
 go_ret
 exact ⟨rfl, F18.out.2.2.2.2.2.2.2⟩
theorem ap_end0 {b b1 b2 : Nat} {z : Int} {u s t s2 : ByteArray} {o p q p2 : Int} (eb : (bits BinOp.and IntKind.u64 (b : Int) 1 == 0) = true) (ez : (z == 32) = true) (HC : ∀ W, Calls Tryd.prog 4 #[.int .u64 (b : Int), .int .i64 z] W fun e w' => e = .returned (.tuple #[.int .i64 2, .nilIface]) ∧ Below W.heap.size W w') (HE : ∀ W, Calls Tryd.prog 5 #[.int .u64 (b : Int), .int .i64 z] W fun e w' => e = .returned (.tuple #[.agg #[.string u, .int .i64 o, .bool false], .nilIface]) ∧ Below W.heap.size W w') (HB : ∀ W, Calls Tryd.prog 7 #[.int .u64 (b : Int), .int .i64 z] W fun e w' => e = .returned (.tuple #[.agg #[.string s, .int .i64 p, .bool false], .agg #[.string t, .int .i64 q, .bool false], .bool true, .nilIface]) ∧ Below W.heap.size W w') (HI : ∀ W, Calls Tryd.prog 8 #[.agg #[.string u, .int .i64 o, .bool false], .int .u64 (b : Int), .int .i64 z] W fun e w' => e = .returned (.tuple #[.bool true, .nilIface]) ∧ Below W.heap.size W w') (HT : ∀ W, Calls Tryd.prog 9 #[.int .u64 (b : Int), .int .i64 z, .int .i64 9] W fun e w' => e = .returned (.tuple #[.bool true, .nilIface]) ∧ Below W.heap.size W w') (HP : ∀ W, Calls Tryd.prog 10 #[.int .u64 (b : Int), .int .i64 z] W fun e w' => e = .returned (.tuple #[.int .u64 (b1 : Int), .nilIface]) ∧ Below W.heap.size W w') (HBP : ∀ W, Calls Tryd.prog 7 #[.int .u64 (b1 : Int), .int .i64 z] W fun e w' => e = .returned (.tuple #[.agg #[.string s2, .int .i64 p2, .bool false], .agg #[.string s, .int .i64 p, .bool false], .bool false, .nilIface]) ∧ Below W.heap.size W w') (HIP : ∀ W, Calls Tryd.prog 8 #[.agg #[.string u, .int .i64 o, .bool false], .int .u64 (b1 : Int), .int .i64 z] W fun e w' => e = .returned (.tuple #[.bool false, .nilIface]) ∧ Below W.heap.size W w') (HN : ∀ W, Calls Tryd.prog 11 #[.int .u64 (b : Int), .int .i64 z] W fun e w' => e = .returned (.tuple #[.int .u64 (b2 : Int), .nilIface]) ∧ Below W.heap.size W w') (HCN : ∀ W, Calls Tryd.prog 4 #[.int .u64 (b2 : Int), .int .i64 z] W fun e w' => e = .returned (.tuple #[.int .i64 3, .nilIface]) ∧ Below W.heap.size W w') (w : World) :
 Calls Tryd.prog 3 #[.int .u64 (b : Int), .int .i64 z] w fun x w' => x = .returned (.bool true) ∧ Below w.heap.size w w' := by
 have F0 : Hid (Below w.heap.size w w) := Below.refl _ _
 go_enter Tryd.func3, Tryd.ntmps3
 go_wp2_with fail
 all_goals first | (exfalso; omega) | skip
 refine (HC _).mono ?_
 rintro o1 w1 ⟨rfl, bb⟩
 have F1 : Hid (Below w.heap.size w w1) := (F0.out).trans (bb.mono (F0.out).size)
 clear F0
 clear bb
 go_wp2_with fail
 all_goals first | (exfalso; omega) | skip
 refine (HE _).mono ?_
 rintro o2 w2 ⟨rfl, bb⟩
 have F2 : Hid (Below w.heap.size w w2) := (F1.out).trans (bb.mono (F1.out).size)
 clear F1
 clear bb
 have le0 := (F2.out).size
 have F3 : Hid (Bk (w2.alloc (.cells #[.string u, .int .i64 o, .bool false] 28)) (w2.heap.size) [.string u, .int .i64 o, .bool false] ∧ Below w.heap.size w (w2.alloc (.cells #[.string u, .int .i64 o, .bool false] 28))) := ⟨Bk.new3 w2 (.string u) (.int .i64 o) (.bool false) 28, (F2.out).alloc ((F2.out).size) _⟩
 clear F2
 go_upto_region 6 with fail
 generalize (w2.alloc (.cells #[.string u, .int .i64 o, .bool false] 28)) = w3 at *
 go_wp2_with fail
 all_goals first | (exfalso; omega) | skip
 refine (HB _).mono ?_
 rintro o4 w4 ⟨rfl, bb⟩
 have F4 : Hid (Bk w4 (w2.heap.size) [.string u, .int .i64 o, .bool false] ∧ Below w.heap.size w w4) := ⟨(F3.out.1).step bb, (F3.out.2).trans (bb.mono (F3.out.2).size)⟩
 clear F3
 clear bb
 have lt0_1 := (F4.out.1).lt
 have le1 := (F4.out.2).size
 have F5 : Hid (Bk ((w4.alloc (.cells #[.string s, .int .i64 p, .bool false] 28)).alloc (.cells #[.string t, .int .i64 q, .bool false] 28)) (w2.heap.size) [.string u, .int .i64 o, .bool false] ∧ Bk ((w4.alloc (.cells #[.string s, .int .i64 p, .bool false] 28)).alloc (.cells #[.string t, .int .i64 q, .bool false] 28)) (w4.heap.size) [.string s, .int .i64 p, .bool false] ∧ Bk ((w4.alloc (.cells #[.string s, .int .i64 p, .bool false] 28)).alloc (.cells #[.string t, .int .i64 q, .bool false] 28)) (w4.heap.size + 1) [.string t, .int .i64 q, .bool false] ∧ Below w.heap.size w ((w4.alloc (.cells #[.string s, .int .i64 p, .bool false] 28)).alloc (.cells #[.string t, .int .i64 q, .bool false] 28))) := ⟨((F4.out.1).step ((Below.refl _ _).alloc (Nat.le_refl _) _)).step ((Below.refl _ _).alloc (Nat.le_refl _) _), (Bk.new3 w4 (.string s) (.int .i64 p) (.bool false) 28).step ((Below.refl _ _).alloc (Nat.le_refl _) _), ((by have q := Bk.new3 (w4.alloc (.cells #[.string s, .int .i64 p, .bool false] 28)) (.string t) (.int .i64 q) (.bool false) 28; simpa using q) : Bk ((w4.alloc (.cells #[.string s, .int .i64 p, .bool false] 28)).alloc (.cells #[.string t, .int .i64 q, .bool false] 28)) (w4.heap.size + 1) [.string t, .int .i64 q, .bool false]), ((F4.out.2).alloc ((F4.out.2).size) _).alloc (((F4.out.2).alloc ((F4.out.2).size) _).size) _⟩
 clear F4
 go_upto_region 7 with fail
 generalize ((w4.alloc (.cells #[.string s, .int .i64 p, .bool false] 28)).alloc (.cells #[.string t, .int .i64 q, .bool false] 28)) = w5 at *
 have l1_0 := F5.out.1.lt
 have a1_0_0 := F5.out.1.cell 0 _ rfl
 have a1_0_1 := F5.out.1.cell 1 _ rfl
 have a1_0_2 := F5.out.1.cell 2 _ rfl
 have l1_1 := F5.out.2.1.lt
 have a1_1_0 := F5.out.2.1.cell 0 _ rfl
 have a1_1_1 := F5.out.2.1.cell 1 _ rfl
 have a1_1_2 := F5.out.2.1.cell 2 _ rfl
 have l1_2 := F5.out.2.2.1.lt
 have a1_2_0 := F5.out.2.2.1.cell 0 _ rfl
 have a1_2_1 := F5.out.2.2.1.cell 1 _ rfl
 have a1_2_2 := F5.out.2.2.1.cell 2 _ rfl
 go_wp2_with fail
 all_goals first | (exfalso; omega) | skip
 refine (HI _).mono ?_
 rintro o6 w6 ⟨rfl, bb⟩
 have F6 : Hid (Bk w6 (w2.heap.size) [.string u, .int .i64 o, .bool false] ∧ Bk w6 (w4.heap.size) [.string s, .int .i64 p, .bool false] ∧ Bk w6 (w4.heap.size + 1) [.string t, .int .i64 q, .bool false] ∧ Below w.heap.size w w6) := ⟨(F5.out.1).step bb, (F5.out.2.1).step bb, (F5.out.2.2.1).step bb, (F5.out.2.2.2).trans (bb.mono (F5.out.2.2.2).size)⟩
 clear F5
 clear bb
 clear l1_0 a1_0_0 a1_0_1 a1_0_2 l1_1 a1_1_0 a1_1_1 a1_1_2 l1_2 a1_2_0 a1_2_1 a1_2_2
 go_wp2_with fail
 all_goals first | (exfalso; omega) | skip
 refine (HT _).mono ?_
 rintro o7 w7 ⟨rfl, bb⟩
 have F7 : Hid (Bk w7 (w2.heap.size) [.string u, .int .i64 o, .bool false] ∧ Bk w7 (w4.heap.size) [.string s, .int .i64 p, .bool false] ∧ Bk w7 (w4.heap.size + 1) [.string t, .int .i64 q, .bool false] ∧ Below w.heap.size w w7) := ⟨(F6.out.1).step bb, (F6.out.2.1).step bb, (F6.out.2.2.1).step bb, (F6.out.2.2.2).trans (bb.mono (F6.out.2.2.2).size)⟩
 clear F6
 clear bb
 go_wp2_with fail
 all_goals first | (exfalso; omega) | skip
 refine (HP _).mono ?_
 rintro o8 w8 ⟨rfl, bb⟩
 have F8 : Hid (Bk w8 (w2.heap.size) [.string u, .int .i64 o, .bool false] ∧ Bk w8 (w4.heap.size) [.string s, .int .i64 p, .bool false] ∧ Bk w8 (w4.heap.size + 1) [.string t, .int .i64 q, .bool false] ∧ Below w.heap.size w w8) := ⟨(F7.out.1).step bb, (F7.out.2.1).step bb, (F7.out.2.2.1).step bb, (F7.out.2.2.2).trans (bb.mono (F7.out.2.2.2).size)⟩
 clear F7
 clear bb
 go_wp2_with fail
 all_goals first | (exfalso; omega) | skip
 refine (HBP _).mono ?_
 rintro o9 w9 ⟨rfl, bb⟩
 have F9 : Hid (Bk w9 (w2.heap.size) [.string u, .int .i64 o, .bool false] ∧ Bk w9 (w4.heap.size) [.string s, .int .i64 p, .bool false] ∧ Bk w9 (w4.heap.size + 1) [.string t, .int .i64 q, .bool false] ∧ Below w.heap.size w w9) := ⟨(F8.out.1).step bb, (F8.out.2.1).step bb, (F8.out.2.2.1).step bb, (F8.out.2.2.2).trans (bb.mono (F8.out.2.2.2).size)⟩
 clear F8
 clear bb
 have lt0_3 := (F9.out.1).lt
 have lt1_3 := (F9.out.2.1).lt
 have lt2_3 := (F9.out.2.2.1).lt
 have le3 := (F9.out.2.2.2).size
 have F10 : Hid (Bk ((w9.alloc (.cells #[.string s2, .int .i64 p2, .bool false] 28)).alloc (.cells #[.string s, .int .i64 p, .bool false] 28)) (w2.heap.size) [.string u, .int .i64 o, .bool false] ∧ Bk ((w9.alloc (.cells #[.string s2, .int .i64 p2, .bool false] 28)).alloc (.cells #[.string s, .int .i64 p, .bool false] 28)) (w4.heap.size) [.string s, .int .i64 p, .bool false] ∧ Bk ((w9.alloc (.cells #[.string s2, .int .i64 p2, .bool false] 28)).alloc (.cells #[.string s, .int .i64 p, .bool false] 28)) (w4.heap.size + 1) [.string t, .int .i64 q, .bool false] ∧ Bk ((w9.alloc (.cells #[.string s2, .int .i64 p2, .bool false] 28)).alloc (.cells #[.string s, .int .i64 p, .bool false] 28)) (w9.heap.size) [.string s2, .int .i64 p2, .bool false] ∧ Bk ((w9.alloc (.cells #[.string s2, .int .i64 p2, .bool false] 28)).alloc (.cells #[.string s, .int .i64 p, .bool false] 28)) (w9.heap.size + 1) [.string s, .int .i64 p, .bool false] ∧ Below w.heap.size w ((w9.alloc (.cells #[.string s2, .int .i64 p2, .bool false] 28)).alloc (.cells #[.string s, .int .i64 p, .bool false] 28))) := ⟨((F9.out.1).step ((Below.refl _ _).alloc (Nat.le_refl _) _)).step ((Below.refl _ _).alloc (Nat.le_refl _) _), ((F9.out.2.1).step ((Below.refl _ _).alloc (Nat.le_refl _) _)).step ((Below.refl _ _).alloc (Nat.le_refl _) _), ((F9.out.2.2.1).step ((Below.refl _ _).alloc (Nat.le_refl _) _)).step ((Below.refl _ _).alloc (Nat.le_refl _) _), (Bk.new3 w9 (.string s2) (.int .i64 p2) (.bool false) 28).step ((Below.refl _ _).alloc (Nat.le_refl _) _), ((by have q := Bk.new3 (w9.alloc (.cells #[.string s2, .int .i64 p2, .bool false] 28)) (.string s) (.int .i64 p) (.bool false) 28; simpa using q) : Bk ((w9.alloc (.cells #[.string s2, .int .i64 p2, .bool false] 28)).alloc (.cells #[.string s, .int .i64 p, .bool false] 28)) (w9.heap.size + 1) [.string s, .int .i64 p, .bool false]), ((F9.out.2.2.2).alloc ((F9.out.2.2.2).size) _).alloc (((F9.out.2.2.2).alloc ((F9.out.2.2.2).size) _).size) _⟩
 clear F9
 go_upto_region 19 with fail
 generalize ((w9.alloc (.cells #[.string s2, .int .i64 p2, .bool false] 28)).alloc (.cells #[.string s, .int .i64 p, .bool false] 28)) = w10 at *
 have l2_0 := F10.out.1.lt
 have a2_0_0 := F10.out.1.cell 0 _ rfl
 have a2_0_1 := F10.out.1.cell 1 _ rfl
 have a2_0_2 := F10.out.1.cell 2 _ rfl
 have l2_1 := F10.out.2.1.lt
 have a2_1_0 := F10.out.2.1.cell 0 _ rfl
 have a2_1_1 := F10.out.2.1.cell 1 _ rfl
 have a2_1_2 := F10.out.2.1.cell 2 _ rfl
 have l2_2 := F10.out.2.2.1.lt
 have a2_2_0 := F10.out.2.2.1.cell 0 _ rfl
 have a2_2_1 := F10.out.2.2.1.cell 1 _ rfl
 have a2_2_2 := F10.out.2.2.1.cell 2 _ rfl
 have l2_3 := F10.out.2.2.2.1.lt
 have a2_3_0 := F10.out.2.2.2.1.cell 0 _ rfl
 have a2_3_1 := F10.out.2.2.2.1.cell 1 _ rfl
 have a2_3_2 := F10.out.2.2.2.1.cell 2 _ rfl
 have l2_4 := F10.out.2.2.2.2.1.lt
 have a2_4_0 := F10.out.2.2.2.2.1.cell 0 _ rfl
 have a2_4_1 := F10.out.2.2.2.2.1.cell 1 _ rfl
 have a2_4_2 := F10.out.2.2.2.2.1.cell 2 _ rfl
 go_wp2_with fail
 all_goals first | (exfalso; omega) | skip
 refine (HIP _).mono ?_
 rintro o11 w11 ⟨rfl, bb⟩
 have F11 : Hid (Bk w11 (w2.heap.size) [.string u, .int .i64 o, .bool false] ∧ Bk w11 (w4.heap.size) [.string s, .int .i64 p, .bool false] ∧ Bk w11 (w4.heap.size + 1) [.string t, .int .i64 q, .bool false] ∧ Bk w11 (w9.heap.size) [.string s2, .int .i64 p2, .bool false] ∧ Bk w11 (w9.heap.size + 1) [.string s, .int .i64 p, .bool false] ∧ Below w.heap.size w w11) := ⟨(F10.out.1).step bb, (F10.out.2.1).step bb, (F10.out.2.2.1).step bb, (F10.out.2.2.2.1).step bb, (F10.out.2.2.2.2.1).step bb, (F10.out.2.2.2.2.2).trans (bb.mono (F10.out.2.2.2.2.2).size)⟩
 clear F10
 clear bb
 clear l2_0 a2_0_0 a2_0_1 a2_0_2 l2_1 a2_1_0 a2_1_1 a2_1_2 l2_2 a2_2_0 a2_2_1 a2_2_2 l2_3 a2_3_0 a2_3_1 a2_3_2 l2_4 a2_4_0 a2_4_1 a2_4_2
 have l3_0 := F11.out.1.lt
 have a3_0_0 := F11.out.1.cell 0 _ rfl
 have a3_0_1 := F11.out.1.cell 1 _ rfl
 have a3_0_2 := F11.out.1.cell 2 _ rfl
 have l3_1 := F11.out.2.1.lt
 have a3_1_0 := F11.out.2.1.cell 0 _ rfl
 have a3_1_1 := F11.out.2.1.cell 1 _ rfl
 have a3_1_2 := F11.out.2.1.cell 2 _ rfl
 have l3_2 := F11.out.2.2.1.lt
 have a3_2_0 := F11.out.2.2.1.cell 0 _ rfl
 have a3_2_1 := F11.out.2.2.1.cell 1 _ rfl
 have a3_2_2 := F11.out.2.2.1.cell 2 _ rfl
 have l3_3 := F11.out.2.2.2.1.lt
 have a3_3_0 := F11.out.2.2.2.1.cell 0 _ rfl
 have a3_3_1 := F11.out.2.2.2.1.cell 1 _ rfl
 have a3_3_2 := F11.out.2.2.2.1.cell 2 _ rfl
 have l3_4 := F11.out.2.2.2.2.1.lt
 have a3_4_0 := F11.out.2.2.2.2.1.cell 0 _ rfl
 have a3_4_1 := F11.out.2.2.2.2.1.cell 1 _ rfl
 have a3_4_2 := F11.out.2.2.2.2.1.cell 2 _ rfl
 go_wp2_with fail
 all_goals first | (exfalso; omega) | skip
 refine (HN _).mono ?_
 rintro o12 w12 ⟨rfl, bb⟩
 have F12 : Hid (Bk w12 (w2.heap.size) [.string u, .int .i64 o, .bool false] ∧ Bk w12 (w4.heap.size) [.string s, .int .i64 p, .bool false] ∧ Bk w12 (w4.heap.size + 1) [.string t, .int .i64 q, .bool false] ∧ Bk w12 (w9.heap.size) [.string s2, .int .i64 p2, .bool false] ∧ Bk w12 (w9.heap.size + 1) [.string s, .int .i64 p, .bool false] ∧ Below w.heap.size w w12) := ⟨(F11.out.1).step bb, (F11.out.2.1).step bb, (F11.out.2.2.1).step bb, (F11.out.2.2.2.1).step bb, (F11.out.2.2.2.2.1).step bb, (F11.out.2.2.2.2.2).trans (bb.mono (F11.out.2.2.2.2.2).size)⟩
 clear F11
 clear bb
 clear l3_0 a3_0_0 a3_0_1 a3_0_2 l3_1 a3_1_0 a3_1_1 a3_1_2 l3_2 a3_2_0 a3_2_1 a3_2_2 l3_3 a3_3_0 a3_3_1 a3_3_2 l3_4 a3_4_0 a3_4_1 a3_4_2
 go_wp2_with fail
 all_goals first | (exfalso; omega) | skip
 refine (HCN _).mono ?_
 rintro o13 w13 ⟨rfl, bb⟩
 have F13 : Hid (Bk w13 (w2.heap.size) [.string u, .int .i64 o, .bool false] ∧ Bk w13 (w4.heap.size) [.string s, .int .i64 p, .bool false] ∧ Bk w13 (w4.heap.size + 1) [.string t, .int .i64 q, .bool false] ∧ Bk w13 (w9.heap.size) [.string s2, .int .i64 p2, .bool false] ∧ Bk w13 (w9.heap.size + 1) [.string s, .int .i64 p, .bool false] ∧ Below w.heap.size w w13) := ⟨(F12.out.1).step bb, (F12.out.2.1).step bb, (F12.out.2.2.1).step bb, (F12.out.2.2.2.1).step bb, (F12.out.2.2.2.2.1).step bb, (F12.out.2.2.2.2.2).trans (bb.mono (F12.out.2.2.2.2.2).size)⟩
 clear F12
 clear bb
 go_wp2_with fail
 all_goals first | (exfalso; omega) | skip
 refine (sure19 _).mono ?_
 rintro o14 w14 ⟨rfl, bb⟩
 have F14 : Hid (Bk w14 (w2.heap.size) [.string u, .int .i64 o, .bool false] ∧ Bk w14 (w4.heap.size) [.string s, .int .i64 p, .bool false] ∧ Bk w14 (w4.heap.size + 1) [.string t, .int .i64 q, .bool false] ∧ Bk w14 (w9.heap.size) [.string s2, .int .i64 p2, .bool false] ∧ Bk w14 (w9.heap.size + 1) [.string s, .int .i64 p, .bool false] ∧ Below w.heap.size w w14) := ⟨(F13.out.1).step bb, (F13.out.2.1).step bb, (F13.out.2.2.1).step bb, (F13.out.2.2.2.1).step bb, (F13.out.2.2.2.2.1).step bb, (F13.out.2.2.2.2.2).trans (bb.mono (F13.out.2.2.2.2.2).size)⟩
 clear F13
 clear bb
 go_wp2
 go_ret
 exact ⟨rfl, F14.out.2.2.2.2.2⟩
theorem ap_fin1 {b b1 b2 : Nat} {z : Int} {u s t s2 t2 : ByteArray} {o p q p2 q2 : Int} (eb : (bits BinOp.and IntKind.u64 (b : Int) 1 == 0) = false) (ez : (z == 32) = true) (HC : ∀ W, Calls Tryd.prog 4 #[.int .u64 (b : Int), .int .i64 z] W fun e w' => e = .returned (.tuple #[.int .i64 2, .nilIface]) ∧ Below W.heap.size W w') (HE : ∀ W, Calls Tryd.prog 5 #[.int .u64 (b : Int), .int .i64 z] W fun e w' => e = .returned (.tuple #[.agg #[.string u, .int .i64 o, .bool false], .nilIface]) ∧ Below W.heap.size W w') (HB : ∀ W, Calls Tryd.prog 7 #[.int .u64 (b : Int), .int .i64 z] W fun e w' => e = .returned (.tuple #[.agg #[.string s, .int .i64 p, .bool false], .agg #[.string t, .int .i64 q, .bool false], .bool false, .nilIface]) ∧ Below W.heap.size W w') (HI : ∀ W, Calls Tryd.prog 8 #[.agg #[.string u, .int .i64 o, .bool false], .int .u64 (b : Int), .int .i64 z] W fun e w' => e = .returned (.tuple #[.bool true, .nilIface]) ∧ Below W.heap.size W w') (HT : ∀ W, Calls Tryd.prog 9 #[.int .u64 (b : Int), .int .i64 z, .int .i64 9] W fun e w' => e = .returned (.tuple #[.bool true, .nilIface]) ∧ Below W.heap.size W w') (HP : ∀ W, Calls Tryd.prog 10 #[.int .u64 (b : Int), .int .i64 z] W fun e w' => e = .returned (.tuple #[.int .u64 (b1 : Int), .nilIface]) ∧ Below W.heap.size W w') (HBP : ∀ W, Calls Tryd.prog 7 #[.int .u64 (b1 : Int), .int .i64 z] W fun e w' => e = .returned (.tuple #[.agg #[.string s2, .int .i64 p2, .bool false], .agg #[.string s, .int .i64 p, .bool false], .bool true, .nilIface]) ∧ Below W.heap.size W w') (HIP : ∀ W, Calls Tryd.prog 8 #[.agg #[.string u, .int .i64 o, .bool false], .int .u64 (b1 : Int), .int .i64 z] W fun e w' => e = .returned (.tuple #[.bool false, .nilIface]) ∧ Below W.heap.size W w') (HN : ∀ W, Calls Tryd.prog 11 #[.int .u64 (b : Int), .int .i64 z] W fun e w' => e = .returned (.tuple #[.int .u64 (b2 : Int), .nilIface]) ∧ Below W.heap.size W w') (HCN : ∀ W, Calls Tryd.prog 4 #[.int .u64 (b2 : Int), .int .i64 z] W fun e w' => e = .returned (.tuple #[.int .i64 2, .nilIface]) ∧ Below W.heap.size W w') (HBN : ∀ W, Calls Tryd.prog 7 #[.int .u64 (b2 : Int), .int .i64 z] W fun e w' => e = .returned (.tuple #[.agg #[.string t, .int .i64 q, .bool false], .agg #[.string t2, .int .i64 q2, .bool false], .bool true, .nilIface]) ∧ Below W.heap.size W w') (HIH : ∀ W, Calls Tryd.prog 8 #[.agg #[.string t, .int .i64 q, .bool false], .int .u64 (b : Int), .int .i64 z] W fun e w' => e = .returned (.tuple #[.bool false, .nilIface]) ∧ Below W.heap.size W w') (HCM : ∀ W, Calls Tryd.prog 12 #[.agg #[.string s, .int .i64 p, .bool false], .agg #[.string t, .int .i64 q, .bool false]] W fun e w' => e = .returned (.tuple #[.int .i64 (-1), .nilIface]) ∧ Below W.heap.size W w') (w : World) :
 Calls Tryd.prog 3 #[.int .u64 (b : Int), .int .i64 z] w fun x w' => x = .returned (.bool true) ∧ Below w.heap.size w w' := by
 have F0 : Hid (Below w.heap.size w w) := Below.refl _ _
 go_enter Tryd.func3, Tryd.ntmps3
 go_wp2_with fail
 all_goals first | (exfalso; omega) | skip
 refine (HC _).mono ?_
 rintro o1 w1 ⟨rfl, bb⟩
 have F1 : Hid (Below w.heap.size w w1) := (F0.out).trans (bb.mono (F0.out).size)
 clear F0
 clear bb
 go_wp2_with fail
 all_goals first | (exfalso; omega) | skip
 refine (HE _).mono ?_
 rintro o2 w2 ⟨rfl, bb⟩
 have F2 : Hid (Below w.heap.size w w2) := (F1.out).trans (bb.mono (F1.out).size)
 clear F1
 clear bb
 have le0 := (F2.out).size
 have F3 : Hid (Bk (w2.alloc (.cells #[.string u, .int .i64 o, .bool false] 28)) (w2.heap.size) [.string u, .int .i64 o, .bool false] ∧ Below w.heap.size w (w2.alloc (.cells #[.string u, .int .i64 o, .bool false] 28))) := ⟨Bk.new3 w2 (.string u) (.int .i64 o) (.bool false) 28, (F2.out).alloc ((F2.out).size) _⟩
 clear F2
 go_upto_region 6 with fail
 generalize (w2.alloc (.cells #[.string u, .int .i64 o, .bool false] 28)) = w3 at *
 go_wp2_with fail
 all_goals first | (exfalso; omega) | skip
 refine (HB _).mono ?_
 rintro o4 w4 ⟨rfl, bb⟩
 have F4 : Hid (Bk w4 (w2.heap.size) [.string u, .int .i64 o, .bool false] ∧ Below w.heap.size w w4) := ⟨(F3.out.1).step bb, (F3.out.2).trans (bb.mono (F3.out.2).size)⟩
 clear F3
 clear bb
 have lt0_1 := (F4.out.1).lt
 have le1 := (F4.out.2).size
 have F5 : Hid (Bk ((w4.alloc (.cells #[.string s, .int .i64 p, .bool false] 28)).alloc (.cells #[.string t, .int .i64 q, .bool false] 28)) (w2.heap.size) [.string u, .int .i64 o, .bool false] ∧ Bk ((w4.alloc (.cells #[.string s, .int .i64 p, .bool false] 28)).alloc (.cells #[.string t, .int .i64 q, .bool false] 28)) (w4.heap.size) [.string s, .int .i64 p, .bool false] ∧ Bk ((w4.alloc (.cells #[.string s, .int .i64 p, .bool false] 28)).alloc (.cells #[.string t, .int .i64 q, .bool false] 28)) (w4.heap.size + 1) [.string t, .int .i64 q, .bool false] ∧ Below w.heap.size w ((w4.alloc (.cells #[.string s, .int .i64 p, .bool false] 28)).alloc (.cells #[.string t, .int .i64 q, .bool false] 28))) := ⟨((F4.out.1).step ((Below.refl _ _).alloc (Nat.le_refl _) _)).step ((Below.refl _ _).alloc (Nat.le_refl _) _), (Bk.new3 w4 (.string s) (.int .i64 p) (.bool false) 28).step ((Below.refl _ _).alloc (Nat.le_refl _) _), ((by have q := Bk.new3 (w4.alloc (.cells #[.string s, .int .i64 p, .bool false] 28)) (.string t) (.int .i64 q) (.bool false) 28; simpa using q) : Bk ((w4.alloc (.cells #[.string s, .int .i64 p, .bool false] 28)).alloc (.cells #[.string t, .int .i64 q, .bool false] 28)) (w4.heap.size + 1) [.string t, .int .i64 q, .bool false]), ((F4.out.2).alloc ((F4.out.2).size) _).alloc (((F4.out.2).alloc ((F4.out.2).size) _).size) _⟩
 clear F4
 go_upto_region 7 with fail
 generalize ((w4.alloc (.cells #[.string s, .int .i64 p, .bool false] 28)).alloc (.cells #[.string t, .int .i64 q, .bool false] 28)) = w5 at *
 have l1_0 := F5.out.1.lt
 have a1_0_0 := F5.out.1.cell 0 _ rfl
 have a1_0_1 := F5.out.1.cell 1 _ rfl
 have a1_0_2 := F5.out.1.cell 2 _ rfl
 have l1_1 := F5.out.2.1.lt
 have a1_1_0 := F5.out.2.1.cell 0 _ rfl
 have a1_1_1 := F5.out.2.1.cell 1 _ rfl
 have a1_1_2 := F5.out.2.1.cell 2 _ rfl
 have l1_2 := F5.out.2.2.1.lt
 have a1_2_0 := F5.out.2.2.1.cell 0 _ rfl
 have a1_2_1 := F5.out.2.2.1.cell 1 _ rfl
 have a1_2_2 := F5.out.2.2.1.cell 2 _ rfl
 go_wp2_with fail
 all_goals first | (exfalso; omega) | skip
 refine (HI _).mono ?_
 rintro o6 w6 ⟨rfl, bb⟩
 have F6 : Hid (Bk w6 (w2.heap.size) [.string u, .int .i64 o, .bool false] ∧ Bk w6 (w4.heap.size) [.string s, .int .i64 p, .bool false] ∧ Bk w6 (w4.heap.size + 1) [.string t, .int .i64 q, .bool false] ∧ Below w.heap.size w w6) := ⟨(F5.out.1).step bb, (F5.out.2.1).step bb, (F5.out.2.2.1).step bb, (F5.out.2.2.2).trans (bb.mono (F5.out.2.2.2).size)⟩
 clear F5
 clear bb
 clear l1_0 a1_0_0 a1_0_1 a1_0_2 l1_1 a1_1_0 a1_1_1 a1_1_2 l1_2 a1_2_0 a1_2_1 a1_2_2
 go_wp2_with fail
 all_goals first | (exfalso; omega) | skip
 refine (HT _).mono ?_
 rintro o7 w7 ⟨rfl, bb⟩
 have F7 : Hid (Bk w7 (w2.heap.size) [.string u, .int .i64 o, .bool false] ∧ Bk w7 (w4.heap.size) [.string s, .int .i64 p, .bool false] ∧ Bk w7 (w4.heap.size + 1) [.string t, .int .i64 q, .bool false] ∧ Below w.heap.size w w7) := ⟨(F6.out.1).step bb, (F6.out.2.1).step bb, (F6.out.2.2.1).step bb, (F6.out.2.2.2).trans (bb.mono (F6.out.2.2.2).size)⟩
 clear F6
 clear bb
 go_wp2_with fail
 all_goals first | (exfalso; omega) | skip
 refine (HP _).mono ?_
 rintro o8 w8 ⟨rfl, bb⟩
 have F8 : Hid (Bk w8 (w2.heap.size) [.string u, .int .i64 o, .bool false] ∧ Bk w8 (w4.heap.size) [.string s, .int .i64 p, .bool false] ∧ Bk w8 (w4.heap.size + 1) [.string t, .int .i64 q, .bool false] ∧ Below w.heap.size w w8) := ⟨(F7.out.1).step bb, (F7.out.2.1).step bb, (F7.out.2.2.1).step bb, (F7.out.2.2.2).trans (bb.mono (F7.out.2.2.2).size)⟩
 clear F7
 clear bb
 go_wp2_with fail
 all_goals first | (exfalso; omega) | skip
 refine (HBP _).mono ?_
 rintro o9 w9 ⟨rfl, bb⟩
 have F9 : Hid (Bk w9 (w2.heap.size) [.string u, .int .i64 o, .bool false] ∧ Bk w9 (w4.heap.size) [.string s, .int .i64 p, .bool false] ∧ Bk w9 (w4.heap.size + 1) [.string t, .int .i64 q, .bool false] ∧ Below w.heap.size w w9) := ⟨(F8.out.1).step bb, (F8.out.2.1).step bb, (F8.out.2.2.1).step bb, (F8.out.2.2.2).trans (bb.mono (F8.out.2.2.2).size)⟩
 clear F8
 clear bb
 have lt0_3 := (F9.out.1).lt
 have lt1_3 := (F9.out.2.1).lt
 have lt2_3 := (F9.out.2.2.1).lt
 have le3 := (F9.out.2.2.2).size
 have F10 : Hid (Bk ((w9.alloc (.cells #[.string s2, .int .i64 p2, .bool false] 28)).alloc (.cells #[.string s, .int .i64 p, .bool false] 28)) (w2.heap.size) [.string u, .int .i64 o, .bool false] ∧ Bk ((w9.alloc (.cells #[.string s2, .int .i64 p2, .bool false] 28)).alloc (.cells #[.string s, .int .i64 p, .bool false] 28)) (w4.heap.size) [.string s, .int .i64 p, .bool false] ∧ Bk ((w9.alloc (.cells #[.string s2, .int .i64 p2, .bool false] 28)).alloc (.cells #[.string s, .int .i64 p, .bool false] 28)) (w4.heap.size + 1) [.string t, .int .i64 q, .bool false] ∧ Bk ((w9.alloc (.cells #[.string s2, .int .i64 p2, .bool false] 28)).alloc (.cells #[.string s, .int .i64 p, .bool false] 28)) (w9.heap.size) [.string s2, .int .i64 p2, .bool false] ∧ Bk ((w9.alloc (.cells #[.string s2, .int .i64 p2, .bool false] 28)).alloc (.cells #[.string s, .int .i64 p, .bool false] 28)) (w9.heap.size + 1) [.string s, .int .i64 p, .bool false] ∧ Below w.heap.size w ((w9.alloc (.cells #[.string s2, .int .i64 p2, .bool false] 28)).alloc (.cells #[.string s, .int .i64 p, .bool false] 28))) := ⟨((F9.out.1).step ((Below.refl _ _).alloc (Nat.le_refl _) _)).step ((Below.refl _ _).alloc (Nat.le_refl _) _), ((F9.out.2.1).step ((Below.refl _ _).alloc (Nat.le_refl _) _)).step ((Below.refl _ _).alloc (Nat.le_refl _) _), ((F9.out.2.2.1).step ((Below.refl _ _).alloc (Nat.le_refl _) _)).step ((Below.refl _ _).alloc (Nat.le_refl _) _), (Bk.new3 w9 (.string s2) (.int .i64 p2) (.bool false) 28).step ((Below.refl _ _).alloc (Nat.le_refl _) _), ((by have q := Bk.new3 (w9.alloc (.cells #[.string s2, .int .i64 p2, .bool false] 28)) (.string s) (.int .i64 p) (.bool false) 28; simpa using q) : Bk ((w9.alloc (.cells #[.string s2, .int .i64 p2, .bool false] 28)).alloc (.cells #[.string s, .int .i64 p, .bool false] 28)) (w9.heap.size + 1) [.string s, .int .i64 p, .bool false]), ((F9.out.2.2.2).alloc ((F9.out.2.2.2).size) _).alloc (((F9.out.2.2.2).alloc ((F9.out.2.2.2).size) _).size) _⟩
 clear F9
 go_upto_region 19 with fail
 generalize ((w9.alloc (.cells #[.string s2, .int .i64 p2, .bool false] 28)).alloc (.cells #[.string s, .int .i64 p, .bool false] 28)) = w10 at *
 have l2_0 := F10.out.1.lt
 have a2_0_0 := F10.out.1.cell 0 _ rfl
 have a2_0_1 := F10.out.1.cell 1 _ rfl
 have a2_0_2 := F10.out.1.cell 2 _ rfl
 have l2_1 := F10.out.2.1.lt
 have a2_1_0 := F10.out.2.1.cell 0 _ rfl
 have a2_1_1 := F10.out.2.1.cell 1 _ rfl
 have a2_1_2 := F10.out.2.1.cell 2 _ rfl
 have l2_2 := F10.out.2.2.1.lt
 have a2_2_0 := F10.out.2.2.1.cell 0 _ rfl
 have a2_2_1 := F10.out.2.2.1.cell 1 _ rfl
 have a2_2_2 := F10.out.2.2.1.cell 2 _ rfl
 have l2_3 := F10.out.2.2.2.1.lt
 have a2_3_0 := F10.out.2.2.2.1.cell 0 _ rfl
 have a2_3_1 := F10.out.2.2.2.1.cell 1 _ rfl
 have a2_3_2 := F10.out.2.2.2.1.cell 2 _ rfl
 have l2_4 := F10.out.2.2.2.2.1.lt
 have a2_4_0 := F10.out.2.2.2.2.1.cell 0 _ rfl
 have a2_4_1 := F10.out.2.2.2.2.1.cell 1 _ rfl
 have a2_4_2 := F10.out.2.2.2.2.1.cell 2 _ rfl
 go_wp2_with fail
 all_goals first | (exfalso; omega) | skip
 refine (HIP _).mono ?_
 rintro o11 w11 ⟨rfl, bb⟩
 have F11 : Hid (Bk w11 (w2.heap.size) [.string u, .int .i64 o, .bool false] ∧ Bk w11 (w4.heap.size) [.string s, .int .i64 p, .bool false] ∧ Bk w11 (w4.heap.size + 1) [.string t, .int .i64 q, .bool false] ∧ Bk w11 (w9.heap.size) [.string s2, .int .i64 p2, .bool false] ∧ Bk w11 (w9.heap.size + 1) [.string s, .int .i64 p, .bool false] ∧ Below w.heap.size w w11) := ⟨(F10.out.1).step bb, (F10.out.2.1).step bb, (F10.out.2.2.1).step bb, (F10.out.2.2.2.1).step bb, (F10.out.2.2.2.2.1).step bb, (F10.out.2.2.2.2.2).trans (bb.mono (F10.out.2.2.2.2.2).size)⟩
 clear F10
 clear bb
 clear l2_0 a2_0_0 a2_0_1 a2_0_2 l2_1 a2_1_0 a2_1_1 a2_1_2 l2_2 a2_2_0 a2_2_1 a2_2_2 l2_3 a2_3_0 a2_3_1 a2_3_2 l2_4 a2_4_0 a2_4_1 a2_4_2
 have l3_0 := F11.out.1.lt
 have a3_0_0 := F11.out.1.cell 0 _ rfl
 have a3_0_1 := F11.out.1.cell 1 _ rfl
 have a3_0_2 := F11.out.1.cell 2 _ rfl
 have l3_1 := F11.out.2.1.lt
 have a3_1_0 := F11.out.2.1.cell 0 _ rfl
 have a3_1_1 := F11.out.2.1.cell 1 _ rfl
 have a3_1_2 := F11.out.2.1.cell 2 _ rfl
 have l3_2 := F11.out.2.2.1.lt
 have a3_2_0 := F11.out.2.2.1.cell 0 _ rfl
 have a3_2_1 := F11.out.2.2.1.cell 1 _ rfl
 have a3_2_2 := F11.out.2.2.1.cell 2 _ rfl
 have l3_3 := F11.out.2.2.2.1.lt
 have a3_3_0 := F11.out.2.2.2.1.cell 0 _ rfl
 have a3_3_1 := F11.out.2.2.2.1.cell 1 _ rfl
 have a3_3_2 := F11.out.2.2.2.1.cell 2 _ rfl
 have l3_4 := F11.out.2.2.2.2.1.lt
 have a3_4_0 := F11.out.2.2.2.2.1.cell 0 _ rfl
 have a3_4_1 := F11.out.2.2.2.2.1.cell 1 _ rfl
 have a3_4_2 := F11.out.2.2.2.2.1.cell 2 _ rfl
 go_wp2_with fail
 all_goals first | (exfalso; omega) | skip
 refine (HN _).mono ?_
 rintro o12 w12 ⟨rfl, bb⟩
 have F12 : Hid (Bk w12 (w2.heap.size) [.string u, .int .i64 o, .bool false] ∧ Bk w12 (w4.heap.size) [.string s, .int .i64 p, .bool false] ∧ Bk w12 (w4.heap.size + 1) [.string t, .int .i64 q, .bool false] ∧ Bk w12 (w9.heap.size) [.string s2, .int .i64 p2, .bool false] ∧ Bk w12 (w9.heap.size + 1) [.string s, .int .i64 p, .bool false] ∧ Below w.heap.size w w12) := ⟨(F11.out.1).step bb, (F11.out.2.1).step bb, (F11.out.2.2.1).step bb, (F11.out.2.2.2.1).step bb, (F11.out.2.2.2.2.1).step bb, (F11.out.2.2.2.2.2).trans (bb.mono (F11.out.2.2.2.2.2).size)⟩
 clear F11
 clear bb
 clear l3_0 a3_0_0 a3_0_1 a3_0_2 l3_1 a3_1_0 a3_1_1 a3_1_2 l3_2 a3_2_0 a3_2_1 a3_2_2 l3_3 a3_3_0 a3_3_1 a3_3_2 l3_4 a3_4_0 a3_4_1 a3_4_2
 go_wp2_with fail
 all_goals first | (exfalso; omega) | skip
 refine (HCN _).mono ?_
 rintro o13 w13 ⟨rfl, bb⟩
 have F13 : Hid (Bk w13 (w2.heap.size) [.string u, .int .i64 o, .bool false] ∧ Bk w13 (w4.heap.size) [.string s, .int .i64 p, .bool false] ∧ Bk w13 (w4.heap.size + 1) [.string t, .int .i64 q, .bool false] ∧ Bk w13 (w9.heap.size) [.string s2, .int .i64 p2, .bool false] ∧ Bk w13 (w9.heap.size + 1) [.string s, .int .i64 p, .bool false] ∧ Below w.heap.size w w13) := ⟨(F12.out.1).step bb, (F12.out.2.1).step bb, (F12.out.2.2.1).step bb, (F12.out.2.2.2.1).step bb, (F12.out.2.2.2.2.1).step bb, (F12.out.2.2.2.2.2).trans (bb.mono (F12.out.2.2.2.2.2).size)⟩
 clear F12
 clear bb
 go_wp2_with fail
 all_goals first | (exfalso; omega) | skip
 refine (HBN _).mono ?_
 rintro o14 w14 ⟨rfl, bb⟩
 have F14 : Hid (Bk w14 (w2.heap.size) [.string u, .int .i64 o, .bool false] ∧ Bk w14 (w4.heap.size) [.string s, .int .i64 p, .bool false] ∧ Bk w14 (w4.heap.size + 1) [.string t, .int .i64 q, .bool false] ∧ Bk w14 (w9.heap.size) [.string s2, .int .i64 p2, .bool false] ∧ Bk w14 (w9.heap.size + 1) [.string s, .int .i64 p, .bool false] ∧ Below w.heap.size w w14) := ⟨(F13.out.1).step bb, (F13.out.2.1).step bb, (F13.out.2.2.1).step bb, (F13.out.2.2.2.1).step bb, (F13.out.2.2.2.2.1).step bb, (F13.out.2.2.2.2.2).trans (bb.mono (F13.out.2.2.2.2.2).size)⟩
 clear F13
 clear bb
 have lt0_5 := (F14.out.1).lt
 have lt1_5 := (F14.out.2.1).lt
 have lt2_5 := (F14.out.2.2.1).lt
 have lt3_5 := (F14.out.2.2.2.1).lt
 have lt4_5 := (F14.out.2.2.2.2.1).lt
 have le5 := (F14.out.2.2.2.2.2).size
 have F15 : Hid (Bk ((w14.alloc (.cells #[.string t, .int .i64 q, .bool false] 28)).alloc (.cells #[.string t2, .int .i64 q2, .bool false] 28)) (w2.heap.size) [.string u, .int .i64 o, .bool false] ∧ Bk ((w14.alloc (.cells #[.string t, .int .i64 q, .bool false] 28)).alloc (.cells #[.string t2, .int .i64 q2, .bool false] 28)) (w4.heap.size) [.string s, .int .i64 p, .bool false] ∧ Bk ((w14.alloc (.cells #[.string t, .int .i64 q, .bool false] 28)).alloc (.cells #[.string t2, .int .i64 q2, .bool false] 28)) (w4.heap.size + 1) [.string t, .int .i64 q, .bool false] ∧ Bk ((w14.alloc (.cells #[.string t, .int .i64 q, .bool false] 28)).alloc (.cells #[.string t2, .int .i64 q2, .bool false] 28)) (w9.heap.size) [.string s2, .int .i64 p2, .bool false] ∧ Bk ((w14.alloc (.cells #[.string t, .int .i64 q, .bool false] 28)).alloc (.cells #[.string t2, .int .i64 q2, .bool false] 28)) (w9.heap.size + 1) [.string s, .int .i64 p, .bool false] ∧ Bk ((w14.alloc (.cells #[.string t, .int .i64 q, .bool false] 28)).alloc (.cells #[.string t2, .int .i64 q2, .bool false] 28)) (w14.heap.size) [.string t, .int .i64 q, .bool false] ∧ Bk ((w14.alloc (.cells #[.string t, .int .i64 q, .bool false] 28)).alloc (.cells #[.string t2, .int .i64 q2, .bool false] 28)) (w14.heap.size + 1) [.string t2, .int .i64 q2, .bool false] ∧ Below w.heap.size w ((w14.alloc (.cells #[.string t, .int .i64 q, .bool false] 28)).alloc (.cells #[.string t2, .int .i64 q2, .bool false] 28))) := ⟨((F14.out.1).step ((Below.refl _ _).alloc (Nat.le_refl _) _)).step ((Below.refl _ _).alloc (Nat.le_refl _) _), ((F14.out.2.1).step ((Below.refl _ _).alloc (Nat.le_refl _) _)).step ((Below.refl _ _).alloc (Nat.le_refl _) _), ((F14.out.2.2.1).step ((Below.refl _ _).alloc (Nat.le_refl _) _)).step ((Below.refl _ _).alloc (Nat.le_refl _) _), ((F14.out.2.2.2.1).step ((Below.refl _ _).alloc (Nat.le_refl _) _)).step ((Below.refl _ _).alloc (Nat.le_refl _) _), ((F14.out.2.2.2.2.1).step ((Below.refl _ _).alloc (Nat.le_refl _) _)).step ((Below.refl _ _).alloc (Nat.le_refl _) _), (Bk.new3 w14 (.string t) (.int .i64 q) (.bool false) 28).step ((Below.refl _ _).alloc (Nat.le_refl _) _), ((by have q := Bk.new3 (w14.alloc (.cells #[.string t, .int .i64 q, .bool false] 28)) (.string t2) (.int .i64 q2) (.bool false) 28; simpa using q) : Bk ((w14.alloc (.cells #[.string t, .int .i64 q, .bool false] 28)).alloc (.cells #[.string t2, .int .i64 q2, .bool false] 28)) (w14.heap.size + 1) [.string t2, .int .i64 q2, .bool false]), ((F14.out.2.2.2.2.2).alloc ((F14.out.2.2.2.2.2).size) _).alloc (((F14.out.2.2.2.2.2).alloc ((F14.out.2.2.2.2.2).size) _).size) _⟩
 clear F14
 go_upto_region 29 with fail
 generalize ((w14.alloc (.cells #[.string t, .int .i64 q, .bool false] 28)).alloc (.cells #[.string t2, .int .i64 q2, .bool false] 28)) = w15 at *
 have l4_0 := F15.out.1.lt
 have a4_0_0 := F15.out.1.cell 0 _ rfl
 have a4_0_1 := F15.out.1.cell 1 _ rfl
 have a4_0_2 := F15.out.1.cell 2 _ rfl
 have l4_1 := F15.out.2.1.lt
 have a4_1_0 := F15.out.2.1.cell 0 _ rfl
 have a4_1_1 := F15.out.2.1.cell 1 _ rfl
 have a4_1_2 := F15.out.2.1.cell 2 _ rfl
 have l4_2 := F15.out.2.2.1.lt
 have a4_2_0 := F15.out.2.2.1.cell 0 _ rfl
 have a4_2_1 := F15.out.2.2.1.cell 1 _ rfl
 have a4_2_2 := F15.out.2.2.1.cell 2 _ rfl
 have l4_3 := F15.out.2.2.2.1.lt
 have a4_3_0 := F15.out.2.2.2.1.cell 0 _ rfl
 have a4_3_1 := F15.out.2.2.2.1.cell 1 _ rfl
 have a4_3_2 := F15.out.2.2.2.1.cell 2 _ rfl
 have l4_4 := F15.out.2.2.2.2.1.lt
 have a4_4_0 := F15.out.2.2.2.2.1.cell 0 _ rfl
 have a4_4_1 := F15.out.2.2.2.2.1.cell 1 _ rfl
 have a4_4_2 := F15.out.2.2.2.2.1.cell 2 _ rfl
 have l4_5 := F15.out.2.2.2.2.2.1.lt
 have a4_5_0 := F15.out.2.2.2.2.2.1.cell 0 _ rfl
 have a4_5_1 := F15.out.2.2.2.2.2.1.cell 1 _ rfl
 have a4_5_2 := F15.out.2.2.2.2.2.1.cell 2 _ rfl
 have l4_6 := F15.out.2.2.2.2.2.2.1.lt
 have a4_6_0 := F15.out.2.2.2.2.2.2.1.cell 0 _ rfl
 have a4_6_1 := F15.out.2.2.2.2.2.2.1.cell 1 _ rfl
 have a4_6_2 := F15.out.2.2.2.2.2.2.1.cell 2 _ rfl
 go_wp2_with fail
 all_goals first | (exfalso; omega) | skip
 refine (HIH _).mono ?_
 rintro o16 w16 ⟨rfl, bb⟩
 have F16 : Hid (Bk w16 (w2.heap.size) [.string u, .int .i64 o, .bool false] ∧ Bk w16 (w4.heap.size) [.string s, .int .i64 p, .bool false] ∧ Bk w16 (w4.heap.size + 1) [.string t, .int .i64 q, .bool false] ∧ Bk w16 (w9.heap.size) [.string s2, .int .i64 p2, .bool false] ∧ Bk w16 (w9.heap.size + 1) [.string s, .int .i64 p, .bool false] ∧ Bk w16 (w14.heap.size) [.string t, .int .i64 q, .bool false] ∧ Bk w16 (w14.heap.size + 1) [.string t2, .int .i64 q2, .bool false] ∧ Below w.heap.size w w16) := ⟨(F15.out.1).step bb, (F15.out.2.1).step bb, (F15.out.2.2.1).step bb, (F15.out.2.2.2.1).step bb, (F15.out.2.2.2.2.1).step bb, (F15.out.2.2.2.2.2.1).step bb, (F15.out.2.2.2.2.2.2.1).step bb, (F15.out.2.2.2.2.2.2.2).trans (bb.mono (F15.out.2.2.2.2.2.2.2).size)⟩
 clear F15
 clear bb
 clear l4_0 a4_0_0 a4_0_1 a4_0_2 l4_1 a4_1_0 a4_1_1 a4_1_2 l4_2 a4_2_0 a4_2_1 a4_2_2 l4_3 a4_3_0 a4_3_1 a4_3_2 l4_4 a4_4_0 a4_4_1 a4_4_2 l4_5 a4_5_0 a4_5_1 a4_5_2 l4_6 a4_6_0 a4_6_1 a4_6_2
 have l5_0 := F16.out.1.lt
 have a5_0_0 := F16.out.1.cell 0 _ rfl
 have a5_0_1 := F16.out.1.cell 1 _ rfl
 have a5_0_2 := F16.out.1.cell 2 _ rfl
 have l5_1 := F16.out.2.1.lt
 have a5_1_0 := F16.out.2.1.cell 0 _ rfl
 have a5_1_1 := F16.out.2.1.cell 1 _ rfl
 have a5_1_2 := F16.out.2.1.cell 2 _ rfl
 have l5_2 := F16.out.2.2.1.lt
 have a5_2_0 := F16.out.2.2.1.cell 0 _ rfl
 have a5_2_1 := F16.out.2.2.1.cell 1 _ rfl
 have a5_2_2 := F16.out.2.2.1.cell 2 _ rfl
 have l5_3 := F16.out.2.2.2.1.lt
 have a5_3_0 := F16.out.2.2.2.1.cell 0 _ rfl
 have a5_3_1 := F16.out.2.2.2.1.cell 1 _ rfl
 have a5_3_2 := F16.out.2.2.2.1.cell 2 _ rfl
 have l5_4 := F16.out.2.2.2.2.1.lt
 have a5_4_0 := F16.out.2.2.2.2.1.cell 0 _ rfl
 have a5_4_1 := F16.out.2.2.2.2.1.cell 1 _ rfl
 have a5_4_2 := F16.out.2.2.2.2.1.cell 2 _ rfl
 have l5_5 := F16.out.2.2.2.2.2.1.lt
 have a5_5_0 := F16.out.2.2.2.2.2.1.cell 0 _ rfl
 have a5_5_1 := F16.out.2.2.2.2.2.1.cell 1 _ rfl
 have a5_5_2 := F16.out.2.2.2.2.2.1.cell 2 _ rfl
 have l5_6 := F16.out.2.2.2.2.2.2.1.lt
 have a5_6_0 := F16.out.2.2.2.2.2.2.1.cell 0 _ rfl
 have a5_6_1 := F16.out.2.2.2.2.2.2.1.cell 1 _ rfl
 have a5_6_2 := F16.out.2.2.2.2.2.2.1.cell 2 _ rfl
 go_wp2_with fail
 all_goals first | (exfalso; omega) | skip
 refine (HCM _).mono ?_
 rintro o17 w17 ⟨rfl, bb⟩
 have F17 : Hid (Bk w17 (w2.heap.size) [.string u, .int .i64 o, .bool false] ∧ Bk w17 (w4.heap.size) [.string s, .int .i64 p, .bool false] ∧ Bk w17 (w4.heap.size + 1) [.string t, .int .i64 q, .bool false] ∧ Bk w17 (w9.heap.size) [.string s2, .int .i64 p2, .bool false] ∧ Bk w17 (w9.heap.size + 1) [.string s, .int .i64 p, .bool false] ∧ Bk w17 (w14.heap.size) [.string t, .int .i64 q, .bool false] ∧ Bk w17 (w14.heap.size + 1) [.string t2, .int .i64 q2, .bool false] ∧ Below w.heap.size w w17) := ⟨(F16.out.1).step bb, (F16.out.2.1).step bb, (F16.out.2.2.1).step bb, (F16.out.2.2.2.1).step bb, (F16.out.2.2.2.2.1).step bb, (F16.out.2.2.2.2.2.1).step bb, (F16.out.2.2.2.2.2.2.1).step bb, (F16.out.2.2.2.2.2.2.2).trans (bb.mono (F16.out.2.2.2.2.2.2.2).size)⟩
 clear F16
 clear bb
 clear l5_0 a5_0_0 a5_0_1 a5_0_2 l5_1 a5_1_0 a5_1_1 a5_1_2 l5_2 a5_2_0 a5_2_1 a5_2_2 l5_3 a5_3_0 a5_3_1 a5_3_2 l5_4 a5_4_0 a5_4_1 a5_4_2 l5_5 a5_5_0 a5_5_1 a5_5_2 l5_6 a5_6_0 a5_6_1 a5_6_2
 have l6_0 := F17.out.1.lt
 have a6_0_0 := F17.out.1.cell 0 _ rfl
 have a6_0_1 := F17.out.1.cell 1 _ rfl
 have a6_0_2 := F17.out.1.cell 2 _ rfl
 have l6_1 := F17.out.2.1.lt
 have a6_1_0 := F17.out.2.1.cell 0 _ rfl
 have a6_1_1 := F17.out.2.1.cell 1 _ rfl
 have a6_1_2 := F17.out.2.1.cell 2 _ rfl
 have l6_2 := F17.out.2.2.1.lt
 have a6_2_0 := F17.out.2.2.1.cell 0 _ rfl
 have a6_2_1 := F17.out.2.2.1.cell 1 _ rfl
 have a6_2_2 := F17.out.2.2.1.cell 2 _ rfl
 have l6_3 := F17.out.2.2.2.1.lt
 have a6_3_0 := F17.out.2.2.2.1.cell 0 _ rfl
 have a6_3_1 := F17.out.2.2.2.1.cell 1 _ rfl
 have a6_3_2 := F17.out.2.2.2.1.cell 2 _ rfl
 have l6_4 := F17.out.2.2.2.2.1.lt
 have a6_4_0 := F17.out.2.2.2.2.1.cell 0 _ rfl
 have a6_4_1 := F17.out.2.2.2.2.1.cell 1 _ rfl
 have a6_4_2 := F17.out.2.2.2.2.1.cell 2 _ rfl
 have l6_5 := F17.out.2.2.2.2.2.1.lt
 have a6_5_0 := F17.out.2.2.2.2.2.1.cell 0 _ rfl
 have a6_5_1 := F17.out.2.2.2.2.2.1.cell 1 _ rfl
 have a6_5_2 := F17.out.2.2.2.2.2.1.cell 2 _ rfl
 have l6_6 := F17.out.2.2.2.2.2.2.1.lt
 have a6_6_0 := F17.out.2.2.2.2.2.2.1.cell 0 _ rfl
 have a6_6_1 := F17.out.2.2.2.2.2.2.1.cell 1 _ rfl
 have a6_6_2 := F17.out.2.2.2.2.2.2.1.cell 2 _ rfl
 go_wp2_with fail
 all_goals first | (exfalso; omega) | skip
 refine (sure19 _).mono ?_
 rintro o18 w18 ⟨rfl, bb⟩
 have F18 : Hid (Bk w18 (w2.heap.size) [.string u, .int .i64 o, .bool false] ∧ Bk w18 (w4.heap.size) [.string s, .int .i64 p, .bool false] ∧ Bk w18 (w4.heap.size + 1) [.string t, .int .i64 q, .bool false] ∧ Bk w18 (w9.heap.size) [.string s2, .int .i64 p2, .bool false] ∧ Bk w18 (w9.heap.size + 1) [.string s, .int .i64 p, .bool false] ∧ Bk w18 (w14.heap.size) [.string t, .int .i64 q, .bool false] ∧ Bk w18 (w14.heap.size + 1) [.string t2, .int .i64 q2, .bool false] ∧ Below w.heap.size w w18) := ⟨(F17.out.1).step bb, (F17.out.2.1).step bb, (F17.out.2.2.1).step bb, (F17.out.2.2.2.1).step bb, (F17.out.2.2.2.2.1).step bb, (F17.out.2.2.2.2.2.1).step bb, (F17.out.2.2.2.2.2.2.1).step bb, (F17.out.2.2.2.2.2.2.2).trans (bb.mono (F17.out.2.2.2.2.2.2.2).size)⟩
 clear F17
 clear bb
 go_wp2
 go_ret
 exact ⟨rfl, F18.out.2.2.2.2.2.2.2⟩
theorem ap_end1 {b b1 b2 : Nat} {z : Int} {u s t s2 : ByteArray} {o p q p2 : Int} (eb : (bits BinOp.and IntKind.u64 (b : Int) 1 == 0) = false) (ez : (z == 32) = true) (HC : ∀ W, Calls Tryd.prog 4 #[.int .u64 (b : Int), .int .i64 z] W fun e w' => e = .returned (.tuple #[.int .i64 2, .nilIface]) ∧ Below W.heap.size W w') (HE : ∀ W, Calls Tryd.prog 5 #[.int .u64 (b : Int), .int .i64 z] W fun e w' => e = .returned (.tuple #[.agg #[.string u, .int .i64 o, .bool false], .nilIface]) ∧ Below W.heap.size W w') (HB : ∀ W, Calls Tryd.prog 7 #[.int .u64 (b : Int), .int .i64 z] W fun e w' => e = .returned (.tuple #[.agg #[.string s, .int .i64 p, .bool false], .agg #[.string t, .int .i64 q, .bool false], .bool false, .nilIface]) ∧ Below W.heap.size W w') (HI : ∀ W, Calls Tryd.prog 8 #[.agg #[.string u, .int .i64 o, .bool false], .int .u64 (b : Int), .int .i64 z] W fun e w' => e = .returned (.tuple #[.bool true, .nilIface]) ∧ Below W.heap.size W w') (HT : ∀ W, Calls Tryd.prog 9 #[.int .u64 (b : Int), .int .i64 z, .int .i64 9] W fun e w' => e = .returned (.tuple #[.bool true, .nilIface]) ∧ Below W.heap.size W w') (HP : ∀ W, Calls Tryd.prog 10 #[.int .u64 (b : Int), .int .i64 z] W fun e w' => e = .returned (.tuple #[.int .u64 (b1 : Int), .nilIface]) ∧ Below W.heap.size W w') (HBP : ∀ W, Calls Tryd.prog 7 #[.int .u64 (b1 : Int), .int .i64 z] W fun e w' => e = .returned (.tuple #[.agg #[.string s2, .int .i64 p2, .bool false], .agg #[.string s, .int .i64 p, .bool false], .bool true, .nilIface]) ∧ Below W.heap.size W w') (HIP : ∀ W, Calls Tryd.prog 8 #[.agg #[.string u, .int .i64 o, .bool false], .int .u64 (b1 : Int), .int .i64 z] W fun e w' => e = .returned (.tuple #[.bool false, .nilIface]) ∧ Below W.heap.size W w') (HN : ∀ W, Calls Tryd.prog 11 #[.int .u64 (b : Int), .int .i64 z] W fun e w' => e = .returned (.tuple #[.int .u64 (b2 : Int), .nilIface]) ∧ Below W.heap.size W w') (HCN : ∀ W, Calls Tryd.prog 4 #[.int .u64 (b2 : Int), .int .i64 z] W fun e w' => e = .returned (.tuple #[.int .i64 3, .nilIface]) ∧ Below W.heap.size W w') (w : World) :
 Calls Tryd.prog 3 #[.int .u64 (b : Int), .int .i64 z] w fun x w' => x = .returned (.bool true) ∧ Below w.heap.size w w' := by
 have F0 : Hid (Below w.heap.size w w) := Below.refl _ _
 go_enter Tryd.func3, Tryd.ntmps3
 go_wp2_with fail
 all_goals first | (exfalso; omega) | skip
 refine (HC _).mono ?_
 rintro o1 w1 ⟨rfl, bb⟩
 have F1 : Hid (Below w.heap.size w w1) := (F0.out).trans (bb.mono (F0.out).size)
 clear F0
 clear bb
 go_wp2_with fail
 all_goals first | (exfalso; omega) | skip
 refine (HE _).mono ?_
 rintro o2 w2 ⟨rfl, bb⟩
 have F2 : Hid (Below w.heap.size w w2) := (F1.out).trans (bb.mono (F1.out).size)
 clear F1
 clear bb
 have le0 := (F2.out).size
 have F3 : Hid (Bk (w2.alloc (.cells #[.string u, .int .i64 o, .bool false] 28)) (w2.heap.size) [.string u, .int .i64 o, .bool false] ∧ Below w.heap.size w (w2.alloc (.cells #[.string u, .int .i64 o, .bool false] 28))) := ⟨Bk.new3 w2 (.string u) (.int .i64 o) (.bool false) 28, (F2.out).alloc ((F2.out).size) _⟩
 clear F2
 go_upto_region 6 with fail
 generalize (w2.alloc (.cells #[.string u, .int .i64 o, .bool false] 28)) = w3 at *
 go_wp2_with fail
 all_goals first | (exfalso; omega) | skip
 refine (HB _).mono ?_
 rintro o4 w4 ⟨rfl, bb⟩
 have F4 : Hid (Bk w4 (w2.heap.size) [.string u, .int .i64 o, .bool false] ∧ Below w.heap.size w w4) := ⟨(F3.out.1).step bb, (F3.out.2).trans (bb.mono (F3.out.2).size)⟩
 clear F3
 clear bb
 have lt0_1 := (F4.out.1).lt
 have le1 := (F4.out.2).size
 have F5 : Hid (Bk ((w4.alloc (.cells #[.string s, .int .i64 p, .bool false] 28)).alloc (.cells #[.string t, .int .i64 q, .bool false] 28)) (w2.heap.size) [.string u, .int .i64 o, .bool false] ∧ Bk ((w4.alloc (.cells #[.string s, .int .i64 p, .bool false] 28)).alloc (.cells #[.string t, .int .i64 q, .bool false] 28)) (w4.heap.size) [.string s, .int .i64 p, .bool false] ∧ Bk ((w4.alloc (.cells #[.string s, .int .i64 p, .bool false] 28)).alloc (.cells #[.string t, .int .i64 q, .bool false] 28)) (w4.heap.size + 1) [.string t, .int .i64 q, .bool false] ∧ Below w.heap.size w ((w4.alloc (.cells #[.string s, .int .i64 p, .bool false] 28)).alloc (.cells #[.string t, .int .i64 q, .bool false] 28))) := ⟨((F4.out.1).step ((Below.refl _ _).alloc (Nat.le_refl _) _)).step ((Below.refl _ _).alloc (Nat.le_refl _) _), (Bk.new3 w4 (.string s) (.int .i64 p) (.bool false) 28).step ((Below.refl _ _).alloc (Nat.le_refl _) _), ((by have q := Bk.new3 (w4.alloc (.cells #[.string s, .int .i64 p, .bool false] 28)) (.string t) (.int .i64 q) (.bool false) 28; simpa using q) : Bk ((w4.alloc (.cells #[.string s, .int .i64 p, .bool false] 28)).alloc (.cells #[.string t, .int .i64 q, .bool false] 28)) (w4.heap.size + 1) [.string t, .int .i64 q, .bool false]), ((F4.out.2).alloc ((F4.out.2).size) _).alloc (((F4.out.2).alloc ((F4.out.2).size) _).size) _⟩
 clear F4
 go_upto_region 7 with fail
 generalize ((w4.alloc (.cells #[.string s, .int .i64 p, .bool false] 28)).alloc (.cells #[.string t, .int .i64 q, .bool false] 28)) = w5 at *
 have l1_0 := F5.out.1.lt
 have a1_0_0 := F5.out.1.cell 0 _ rfl
 have a1_0_1 := F5.out.1.cell 1 _ rfl
 have a1_0_2 := F5.out.1.cell 2 _ rfl
 have l1_1 := F5.out.2.1.lt
 have a1_1_0 := F5.out.2.1.cell 0 _ rfl
 have a1_1_1 := F5.out.2.1.cell 1 _ rfl
 have a1_1_2 := F5.out.2.1.cell 2 _ rfl
 have l1_2 := F5.out.2.2.1.lt
 have a1_2_0 := F5.out.2.2.1.cell 0 _ rfl
 have a1_2_1 := F5.out.2.2.1.cell 1 _ rfl
 have a1_2_2 := F5.out.2.2.1.cell 2 _ rfl
 go_wp2_with fail
 all_goals first | (exfalso; omega) | skip
 refine (HI _).mono ?_
 rintro o6 w6 ⟨rfl, bb⟩
 have F6 : Hid (Bk w6 (w2.heap.size) [.string u, .int .i64 o, .bool false] ∧ Bk w6 (w4.heap.size) [.string s, .int .i64 p, .bool false] ∧ Bk w6 (w4.heap.size + 1) [.string t, .int .i64 q, .bool false] ∧ Below w.heap.size w w6) := ⟨(F5.out.1).step bb, (F5.out.2.1).step bb, (F5.out.2.2.1).step bb, (F5.out.2.2.2).trans (bb.mono (F5.out.2.2.2).size)⟩
 clear F5
 clear bb
 clear l1_0 a1_0_0 a1_0_1 a1_0_2 l1_1 a1_1_0 a1_1_1 a1_1_2 l1_2 a1_2_0 a1_2_1 a1_2_2
 go_wp2_with fail
 all_goals first | (exfalso; omega) | skip
 refine (HT _).mono ?_
 rintro o7 w7 ⟨rfl, bb⟩
 have F7 : Hid (Bk w7 (w2.heap.size) [.string u, .int .i64 o, .bool false] ∧ Bk w7 (w4.heap.size) [.string s, .int .i64 p, .bool false] ∧ Bk w7 (w4.heap.size + 1) [.string t, .int .i64 q, .bool false] ∧ Below w.heap.size w w7) := ⟨(F6.out.1).step bb, (F6.out.2.1).step bb, (F6.out.2.2.1).step bb, (F6.out.2.2.2).trans (bb.mono (F6.out.2.2.2).size)⟩
 clear F6
 clear bb
 go_wp2_with fail
 all_goals first | (exfalso; omega) | skip
 refine (HP _).mono ?_
 rintro o8 w8 ⟨rfl, bb⟩
 have F8 : Hid (Bk w8 (w2.heap.size) [.string u, .int .i64 o, .bool false] ∧ Bk w8 (w4.heap.size) [.string s, .int .i64 p, .bool false] ∧ Bk w8 (w4.heap.size + 1) [.string t, .int .i64 q, .bool false] ∧ Below w.heap.size w w8) := ⟨(F7.out.1).step bb, (F7.out.2.1).step bb, (F7.out.2.2.1).step bb, (F7.out.2.2.2).trans (bb.mono (F7.out.2.2.2).size)⟩
 clear F7
 clear bb
 go_wp2_with fail
 all_goals first | (exfalso; omega) | skip
 refine (HBP _).mono ?_
 rintro o9 w9 ⟨rfl, bb⟩
 have F9 : Hid (Bk w9 (w2.heap.size) [.string u, .int .i64 o, .bool false] ∧ Bk w9 (w4.heap.size) [.string s, .int .i64 p, .bool false] ∧ Bk w9 (w4.heap.size + 1) [.string t, .int .i64 q, .bool false] ∧ Below w.heap.size w w9) := ⟨(F8.out.1).step bb, (F8.out.2.1).step bb, (F8.out.2.2.1).step bb, (F8.out.2.2.2).trans (bb.mono (F8.out.2.2.2).size)⟩
 clear F8
 clear bb
 have lt0_3 := (F9.out.1).lt
 have lt1_3 := (F9.out.2.1).lt
 have lt2_3 := (F9.out.2.2.1).lt
 have le3 := (F9.out.2.2.2).size
 have F10 : Hid (Bk ((w9.alloc (.cells #[.string s2, .int .i64 p2, .bool false] 28)).alloc (.cells #[.string s, .int .i64 p, .bool false] 28)) (w2.heap.size) [.string u, .int .i64 o, .bool false] ∧ Bk ((w9.alloc (.cells #[.string s2, .int .i64 p2, .bool false] 28)).alloc (.cells #[.string s, .int .i64 p, .bool false] 28)) (w4.heap.size) [.string s, .int .i64 p, .bool false] ∧ Bk ((w9.alloc (.cells #[.string s2, .int .i64 p2, .bool false] 28)).alloc (.cells #[.string s, .int .i64 p, .bool false] 28)) (w4.heap.size + 1) [.string t, .int .i64 q, .bool false] ∧ Bk ((w9.alloc (.cells #[.string s2, .int .i64 p2, .bool false] 28)).alloc (.cells #[.string s, .int .i64 p, .bool false] 28)) (w9.heap.size) [.string s2, .int .i64 p2, .bool false] ∧ Bk ((w9.alloc (.cells #[.string s2, .int .i64 p2, .bool false] 28)).alloc (.cells #[.string s, .int .i64 p, .bool false] 28)) (w9.heap.size + 1) [.string s, .int .i64 p, .bool false] ∧ Below w.heap.size w ((w9.alloc (.cells #[.string s2, .int .i64 p2, .bool false] 28)).alloc (.cells #[.string s, .int .i64 p, .bool false] 28))) := ⟨((F9.out.1).step ((Below.refl _ _).alloc (Nat.le_refl _) _)).step ((Below.refl _ _).alloc (Nat.le_refl _) _), ((F9.out.2.1).step ((Below.refl _ _).alloc (Nat.le_refl _) _)).step ((Below.refl _ _).alloc (Nat.le_refl _) _), ((F9.out.2.2.1).step ((Below.refl _ _).alloc (Nat.le_refl _) _)).step ((Below.refl _ _).alloc (Nat.le_refl _) _), (Bk.new3 w9 (.string s2) (.int .i64 p2) (.bool false) 28).step ((Below.refl _ _).alloc (Nat.le_refl _) _), ((by have q := Bk.new3 (w9.alloc (.cells #[.string s2, .int .i64 p2, .bool false] 28)) (.string s) (.int .i64 p) (.bool false) 28; simpa using q) : Bk ((w9.alloc (.cells #[.string s2, .int .i64 p2, .bool false] 28)).alloc (.cells #[.string s, .int .i64 p, .bool false] 28)) (w9.heap.size + 1) [.string s, .int .i64 p, .bool false]), ((F9.out.2.2.2).alloc ((F9.out.2.2.2).size) _).alloc (((F9.out.2.2.2).alloc ((F9.out.2.2.2).size) _).size) _⟩
 clear F9
 go_upto_region 19 with fail
 generalize ((w9.alloc (.cells #[.string s2, .int .i64 p2, .bool false] 28)).alloc (.cells #[.string s, .int .i64 p, .bool false] 28)) = w10 at *
 have l2_0 := F10.out.1.lt
 have a2_0_0 := F10.out.1.cell 0 _ rfl
 have a2_0_1 := F10.out.1.cell 1 _ rfl
 have a2_0_2 := F10.out.1.cell 2 _ rfl
 have l2_1 := F10.out.2.1.lt
 have a2_1_0 := F10.out.2.1.cell 0 _ rfl
 have a2_1_1 := F10.out.2.1.cell 1 _ rfl
 have a2_1_2 := F10.out.2.1.cell 2 _ rfl
 have l2_2 := F10.out.2.2.1.lt
 have a2_2_0 := F10.out.2.2.1.cell 0 _ rfl
 have a2_2_1 := F10.out.2.2.1.cell 1 _ rfl
 have a2_2_2 := F10.out.2.2.1.cell 2 _ rfl
 have l2_3 := F10.out.2.2.2.1.lt
 have a2_3_0 := F10.out.2.2.2.1.cell 0 _ rfl
 have a2_3_1 := F10.out.2.2.2.1.cell 1 _ rfl
 have a2_3_2 := F10.out.2.2.2.1.cell 2 _ rfl
 have l2_4 := F10.out.2.2.2.2.1.lt
 have a2_4_0 := F10.out.2.2.2.2.1.cell 0 _ rfl
 have a2_4_1 := F10.out.2.2.2.2.1.cell 1 _ rfl
 have a2_4_2 := F10.out.2.2.2.2.1.cell 2 _ rfl
 go_wp2_with fail
 all_goals first | (exfalso; omega) | skip
 refine (HIP _).mono ?_
 rintro o11 w11 ⟨rfl, bb⟩
 have F11 : Hid (Bk w11 (w2.heap.size) [.string u, .int .i64 o, .bool false] ∧ Bk w11 (w4.heap.size) [.string s, .int .i64 p, .bool false] ∧ Bk w11 (w4.heap.size + 1) [.string t, .int .i64 q, .bool false] ∧ Bk w11 (w9.heap.size) [.string s2, .int .i64 p2, .bool false] ∧ Bk w11 (w9.heap.size + 1) [.string s, .int .i64 p, .bool false] ∧ Below w.heap.size w w11) := ⟨(F10.out.1).step bb, (F10.out.2.1).step bb, (F10.out.2.2.1).step bb, (F10.out.2.2.2.1).step bb, (F10.out.2.2.2.2.1).step bb, (F10.out.2.2.2.2.2).trans (bb.mono (F10.out.2.2.2.2.2).size)⟩
 clear F10
 clear bb
 clear l2_0 a2_0_0 a2_0_1 a2_0_2 l2_1 a2_1_0 a2_1_1 a2_1_2 l2_2 a2_2_0 a2_2_1 a2_2_2 l2_3 a2_3_0 a2_3_1 a2_3_2 l2_4 a2_4_0 a2_4_1 a2_4_2
 have l3_0 := F11.out.1.lt
 have a3_0_0 := F11.out.1.cell 0 _ rfl
 have a3_0_1 := F11.out.1.cell 1 _ rfl
 have a3_0_2 := F11.out.1.cell 2 _ rfl
 have l3_1 := F11.out.2.1.lt
 have a3_1_0 := F11.out.2.1.cell 0 _ rfl
 have a3_1_1 := F11.out.2.1.cell 1 _ rfl
 have a3_1_2 := F11.out.2.1.cell 2 _ rfl
 have l3_2 := F11.out.2.2.1.lt
 have a3_2_0 := F11.out.2.2.1.cell 0 _ rfl
 have a3_2_1 := F11.out.2.2.1.cell 1 _ rfl
 have a3_2_2 := F11.out.2.2.1.cell 2 _ rfl
 have l3_3 := F11.out.2.2.2.1.lt
 have a3_3_0 := F11.out.2.2.2.1.cell 0 _ rfl
 have a3_3_1 := F11.out.2.2.2.1.cell 1 _ rfl
 have a3_3_2 := F11.out.2.2.2.1.cell 2 _ rfl
 have l3_4 := F11.out.2.2.2.2.1.lt
 have a3_4_0 := F11.out.2.2.2.2.1.cell 0 _ rfl
 have a3_4_1 := F11.out.2.2.2.2.1.cell 1 _ rfl
 have a3_4_2 := F11.out.2.2.2.2.1.cell 2 _ rfl
 go_wp2_with fail
 all_goals first | (exfalso; omega) | skip
 refine (HN _).mono ?_
 rintro o12 w12 ⟨rfl, bb⟩
 have F12 : Hid (Bk w12 (w2.heap.size) [.string u, .int .i64 o, .bool false] ∧ Bk w12 (w4.heap.size) [.string s, .int .i64 p, .bool false] ∧ Bk w12 (w4.heap.size + 1) [.string t, .int .i64 q, .bool false] ∧ Bk w12 (w9.heap.size) [.string s2, .int .i64 p2, .bool false] ∧ Bk w12 (w9.heap.size + 1) [.string s, .int .i64 p, .bool false] ∧ Below w.heap.size w w12) := ⟨(F11.out.1).step bb, (F11.out.2.1).step bb, (F11.out.2.2.1).step bb, (F11.out.2.2.2.1).step bb, (F11.out.2.2.2.2.1).step bb, (F11.out.2.2.2.2.2).trans (bb.mono (F11.out.2.2.2.2.2).size)⟩
 clear F11
 clear bb
 clear l3_0 a3_0_0 a3_0_1 a3_0_2 l3_1 a3_1_0 a3_1_1 a3_1_2 l3_2 a3_2_0 a3_2_1 a3_2_2 l3_3 a3_3_0 a3_3_1 a3_3_2 l3_4 a3_4_0 a3_4_1 a3_4_2
 go_wp2_with fail
 all_goals first | (exfalso; omega) | skip
 refine (HCN _).mono ?_
 rintro o13 w13 ⟨rfl, bb⟩
 have F13 : Hid (Bk w13 (w2.heap.size) [.string u, .int .i64 o, .bool false] ∧ Bk w13 (w4.heap.size) [.string s, .int .i64 p, .bool false] ∧ Bk w13 (w4.heap.size + 1) [.string t, .int .i64 q, .bool false] ∧ Bk w13 (w9.heap.size) [.string s2, .int .i64 p2, .bool false] ∧ Bk w13 (w9.heap.size + 1) [.string s, .int .i64 p, .bool false] ∧ Below w.heap.size w w13) := ⟨(F12.out.1).step bb, (F12.out.2.1).step bb, (F12.out.2.2.1).step bb, (F12.out.2.2.2.1).step bb, (F12.out.2.2.2.2.1).step bb, (F12.out.2.2.2.2.2).trans (bb.mono (F12.out.2.2.2.2.2).size)⟩
 clear F12
 clear bb
 go_wp2_with fail
 all_goals first | (exfalso; omega) | skip
 refine (sure19 _).mono ?_
 rintro o14 w14 ⟨rfl, bb⟩
 have F14 : Hid (Bk w14 (w2.heap.size) [.string u, .int .i64 o, .bool false] ∧ Bk w14 (w4.heap.size) [.string s, .int .i64 p, .bool false] ∧ Bk w14 (w4.heap.size + 1) [.string t, .int .i64 q, .bool false] ∧ Bk w14 (w9.heap.size) [.string s2, .int .i64 p2, .bool false] ∧ Bk w14 (w9.heap.size + 1) [.string s, .int .i64 p, .bool false] ∧ Below w.heap.size w w14) := ⟨(F13.out.1).step bb, (F13.out.2.1).step bb, (F13.out.2.2.1).step bb, (F13.out.2.2.2.1).step bb, (F13.out.2.2.2.2.1).step bb, (F13.out.2.2.2.2.2).trans (bb.mono (F13.out.2.2.2.2.2).size)⟩
 clear F13
 clear bb
 go_wp2
 go_ret
 exact ⟨rfl, F14.out.2.2.2.2.2⟩
theorem ap_fin2 {b b1 b2 : Nat} {z : Int} {u s t s2 t2 : ByteArray} {o p q p2 q2 : Int} (eb : (bits BinOp.and IntKind.u64 (b : Int) 1 == 0) = true) (ez : (z == 32) = false) (HC : ∀ W, Calls Tryd.prog 4 #[.int .u64 (b : Int), .int .i64 z] W fun e w' => e = .returned (.tuple #[.int .i64 2, .nilIface]) ∧ Below W.heap.size W w') (HE : ∀ W, Calls Tryd.prog 5 #[.int .u64 (b : Int), .int .i64 z] W fun e w' => e = .returned (.tuple #[.agg #[.string u, .int .i64 o, .bool false], .nilIface]) ∧ Below W.heap.size W w') (HB : ∀ W, Calls Tryd.prog 7 #[.int .u64 (b : Int), .int .i64 z] W fun e w' => e = .returned (.tuple #[.agg #[.string s, .int .i64 p, .bool false], .agg #[.string t, .int .i64 q, .bool false], .bool true, .nilIface]) ∧ Below W.heap.size W w') (HI : ∀ W, Calls Tryd.prog 8 #[.agg #[.string u, .int .i64 o, .bool false], .int .u64 (b : Int), .int .i64 z] W fun e w' => e = .returned (.tuple #[.bool true, .nilIface]) ∧ Below W.heap.size W w') (HT : ∀ W, Calls Tryd.prog 9 #[.int .u64 (b : Int), .int .i64 z, .int .i64 17] W fun e w' => e = .returned (.tuple #[.bool true, .nilIface]) ∧ Below W.heap.size W w') (HP : ∀ W, Calls Tryd.prog 10 #[.int .u64 (b : Int), .int .i64 z] W fun e w' => e = .returned (.tuple #[.int .u64 (b1 : Int), .nilIface]) ∧ Below W.heap.size W w') (HBP : ∀ W, Calls Tryd.prog 7 #[.int .u64 (b1 : Int), .int .i64 z] W fun e w' => e = .returned (.tuple #[.agg #[.string s2, .int .i64 p2, .bool false], .agg #[.string s, .int .i64 p, .bool false], .bool false, .nilIface]) ∧ Below W.heap.size W w') (HIP : ∀ W, Calls Tryd.prog 8 #[.agg #[.string u, .int .i64 o, .bool false], .int .u64 (b1 : Int), .int .i64 z] W fun e w' => e = .returned (.tuple #[.bool false, .nilIface]) ∧ Below W.heap.size W w') (HN : ∀ W, Calls Tryd.prog 11 #[.int .u64 (b : Int), .int .i64 z] W fun e w' => e = .returned (.tuple #[.int .u64 (b2 : Int), .nilIface]) ∧ Below W.heap.size W w') (HCN : ∀ W, Calls Tryd.prog 4 #[.int .u64 (b2 : Int), .int .i64 z] W fun e w' => e = .returned (.tuple #[.int .i64 2, .nilIface]) ∧ Below W.heap.size W w') (HBN : ∀ W, Calls Tryd.prog 7 #[.int .u64 (b2 : Int), .int .i64 z] W fun e w' => e = .returned (.tuple #[.agg #[.string t, .int .i64 q, .bool false], .agg #[.string t2, .int .i64 q2, .bool false], .bool false, .nilIface]) ∧ Below W.heap.size W w') (HIH : ∀ W, Calls Tryd.prog 8 #[.agg #[.string t, .int .i64 q, .bool false], .int .u64 (b : Int), .int .i64 z] W fun e w' => e = .returned (.tuple #[.bool true, .nilIface]) ∧ Below W.heap.size W w') (HCM : ∀ W, Calls Tryd.prog 12 #[.agg #[.string s, .int .i64 p, .bool false], .agg #[.string t, .int .i64 q, .bool false]] W fun e w' => e = .returned (.tuple #[.int .i64 (-1), .nilIface]) ∧ Below W.heap.size W w') (w : World) :
 Calls Tryd.prog 3 #[.int .u64 (b : Int), .int .i64 z] w fun x w' => x = .returned (.bool true) ∧ Below w.heap.size w w' := by
 have F0 : Hid (Below w.heap.size w w) := Below.refl _ _
 go_enter Tryd.func3, Tryd.ntmps3
 go_wp2_with fail
 all_goals first | (exfalso; omega) | skip
 refine (HC _).mono ?_
 rintro o1 w1 ⟨rfl, bb⟩
 have F1 : Hid (Below w.heap.size w w1) := (F0.out).trans (bb.mono (F0.out).size)
 clear F0
 clear bb
 go_wp2_with fail
 all_goals first | (exfalso; omega) | skip
 refine (HE _).mono ?_
 rintro o2 w2 ⟨rfl, bb⟩
 have F2 : Hid (Below w.heap.size w w2) := (F1.out).trans (bb.mono (F1.out).size)
 clear F1
 clear bb
 have le0 := (F2.out).size
 have F3 : Hid (Bk (w2.alloc (.cells #[.string u, .int .i64 o, .bool false] 28)) (w2.heap.size) [.string u, .int .i64 o, .bool false] ∧ Below w.heap.size w (w2.alloc (.cells #[.string u, .int .i64 o, .bool false] 28))) := ⟨Bk.new3 w2 (.string u) (.int .i64 o) (.bool false) 28, (F2.out).alloc ((F2.out).size) _⟩
 clear F2
 go_upto_region 6 with fail
 generalize (w2.alloc (.cells #[.string u, .int .i64 o, .bool false] 28)) = w3 at *
 go_wp2_with fail
 all_goals first | (exfalso; omega) | skip
 refine (HB _).mono ?_
 rintro o4 w4 ⟨rfl, bb⟩
 have F4 : Hid (Bk w4 (w2.heap.size) [.string u, .int .i64 o, .bool false] ∧ Below w.heap.size w w4) := ⟨(F3.out.1).step bb, (F3.out.2).trans (bb.mono (F3.out.2).size)⟩
 clear F3
 clear bb
 have lt0_1 := (F4.out.1).lt
 have le1 := (F4.out.2).size
 have F5 : Hid (Bk ((w4.alloc (.cells #[.string s, .int .i64 p, .bool false] 28)).alloc (.cells #[.string t, .int .i64 q, .bool false] 28)) (w2.heap.size) [.string u, .int .i64 o, .bool false] ∧ Bk ((w4.alloc (.cells #[.string s, .int .i64 p, .bool false] 28)).alloc (.cells #[.string t, .int .i64 q, .bool false] 28)) (w4.heap.size) [.string s, .int .i64 p, .bool false] ∧ Bk ((w4.alloc (.cells #[.string s, .int .i64 p, .bool false] 28)).alloc (.cells #[.string t, .int .i64 q, .bool false] 28)) (w4.heap.size + 1) [.string t, .int .i64 q, .bool false] ∧ Below w.heap.size w ((w4.alloc (.cells #[.string s, .int .i64 p, .bool false] 28)).alloc (.cells #[.string t, .int .i64 q, .bool false] 28))) := ⟨((F4.out.1).step ((Below.refl _ _).alloc (Nat.le_refl _) _)).step ((Below.refl _ _).alloc (Nat.le_refl _) _), (Bk.new3 w4 (.string s) (.int .i64 p) (.bool false) 28).step ((Below.refl _ _).alloc (Nat.le_refl _) _), ((by have q := Bk.new3 (w4.alloc (.cells #[.string s, .int .i64 p, .bool false] 28)) (.string t) (.int .i64 q) (.bool false) 28; simpa using q) : Bk ((w4.alloc (.cells #[.string s, .int .i64 p, .bool false] 28)).alloc (.cells #[.string t, .int .i64 q, .bool false] 28)) (w4.heap.size + 1) [.string t, .int .i64 q, .bool false]), ((F4.out.2).alloc ((F4.out.2).size) _).alloc (((F4.out.2).alloc ((F4.out.2).size) _).size) _⟩
 clear F4
 go_upto_region 7 with fail
 generalize ((w4.alloc (.cells #[.string s, .int .i64 p, .bool false] 28)).alloc (.cells #[.string t, .int .i64 q, .bool false] 28)) = w5 at *
 have l1_0 := F5.out.1.lt
 have a1_0_0 := F5.out.1.cell 0 _ rfl
 have a1_0_1 := F5.out.1.cell 1 _ rfl
 have a1_0_2 := F5.out.1.cell 2 _ rfl
 have l1_1 := F5.out.2.1.lt
 have a1_1_0 := F5.out.2.1.cell 0 _ rfl
 have a1_1_1 := F5.out.2.1.cell 1 _ rfl
 have a1_1_2 := F5.out.2.1.cell 2 _ rfl
 have l1_2 := F5.out.2.2.1.lt
 have a1_2_0 := F5.out.2.2.1.cell 0 _ rfl
 have a1_2_1 := F5.out.2.2.1.cell 1 _ rfl
 have a1_2_2 := F5.out.2.2.1.cell 2 _ rfl
 go_wp2_with fail
 all_goals first | (exfalso; omega) | skip
 refine (HI _).mono ?_
 rintro o6 w6 ⟨rfl, bb⟩
 have F6 : Hid (Bk w6 (w2.heap.size) [.string u, .int .i64 o, .bool false] ∧ Bk w6 (w4.heap.size) [.string s, .int .i64 p, .bool false] ∧ Bk w6 (w4.heap.size + 1) [.string t, .int .i64 q, .bool false] ∧ Below w.heap.size w w6) := ⟨(F5.out.1).step bb, (F5.out.2.1).step bb, (F5.out.2.2.1).step bb, (F5.out.2.2.2).trans (bb.mono (F5.out.2.2.2).size)⟩
 clear F5
 clear bb
 clear l1_0 a1_0_0 a1_0_1 a1_0_2 l1_1 a1_1_0 a1_1_1 a1_1_2 l1_2 a1_2_0 a1_2_1 a1_2_2
 go_wp2_with fail
 all_goals first | (exfalso; omega) | skip
 refine (HT _).mono ?_
 rintro o7 w7 ⟨rfl, bb⟩
 have F7 : Hid (Bk w7 (w2.heap.size) [.string u, .int .i64 o, .bool false] ∧ Bk w7 (w4.heap.size) [.string s, .int .i64 p, .bool false] ∧ Bk w7 (w4.heap.size + 1) [.string t, .int .i64 q, .bool false] ∧ Below w.heap.size w w7) := ⟨(F6.out.1).step bb, (F6.out.2.1).step bb, (F6.out.2.2.1).step bb, (F6.out.2.2.2).trans (bb.mono (F6.out.2.2.2).size)⟩
 clear F6
 clear bb
 go_wp2_with fail
 all_goals first | (exfalso; omega) | skip
 refine (HP _).mono ?_
 rintro o8 w8 ⟨rfl, bb⟩
 have F8 : Hid (Bk w8 (w2.heap.size) [.string u, .int .i64 o, .bool false] ∧ Bk w8 (w4.heap.size) [.string s, .int .i64 p, .bool false] ∧ Bk w8 (w4.heap.size + 1) [.string t, .int .i64 q, .bool false] ∧ Below w.heap.size w w8) := ⟨(F7.out.1).step bb, (F7.out.2.1).step bb, (F7.out.2.2.1).step bb, (F7.out.2.2.2).trans (bb.mono (F7.out.2.2.2).size)⟩
 clear F7
 clear bb
 go_wp2_with fail
 all_goals first | (exfalso; omega) | skip
 refine (HBP _).mono ?_
 rintro o9 w9 ⟨rfl, bb⟩
 have F9 : Hid (Bk w9 (w2.heap.size) [.string u, .int .i64 o, .bool false] ∧ Bk w9 (w4.heap.size) [.string s, .int .i64 p, .bool false] ∧ Bk w9 (w4.heap.size + 1) [.string t, .int .i64 q, .bool false] ∧ Below w.heap.size w w9) := ⟨(F8.out.1).step bb, (F8.out.2.1).step bb, (F8.out.2.2.1).step bb, (F8.out.2.2.2).trans (bb.mono (F8.out.2.2.2).size)⟩
 clear F8
 clear bb
 have lt0_3 := (F9.out.1).lt
 have lt1_3 := (F9.out.2.1).lt
 have lt2_3 := (F9.out.2.2.1).lt
 have le3 := (F9.out.2.2.2).size
 have F10 : Hid (Bk ((w9.alloc (.cells #[.string s2, .int .i64 p2, .bool false] 28)).alloc (.cells #[.string s, .int .i64 p, .bool false] 28)) (w2.heap.size) [.string u, .int .i64 o, .bool false] ∧ Bk ((w9.alloc (.cells #[.string s2, .int .i64 p2, .bool false] 28)).alloc (.cells #[.string s, .int .i64 p, .bool false] 28)) (w4.heap.size) [.string s, .int .i64 p, .bool false] ∧ Bk ((w9.alloc (.cells #[.string s2, .int .i64 p2, .bool false] 28)).alloc (.cells #[.string s, .int .i64 p, .bool false] 28)) (w4.heap.size + 1) [.string t, .int .i64 q, .bool false] ∧ Bk ((w9.alloc (.cells #[.string s2, .int .i64 p2, .bool false] 28)).alloc (.cells #[.string s, .int .i64 p, .bool false] 28)) (w9.heap.size) [.string s2, .int .i64 p2, .bool false] ∧ Bk ((w9.alloc (.cells #[.string s2, .int .i64 p2, .bool false] 28)).alloc (.cells #[.string s, .int .i64 p, .bool false] 28)) (w9.heap.size + 1) [.string s, .int .i64 p, .bool false] ∧ Below w.heap.size w ((w9.alloc (.cells #[.string s2, .int .i64 p2, .bool false] 28)).alloc (.cells #[.string s, .int .i64 p, .bool false] 28))) := ⟨((F9.out.1).step ((Below.refl _ _).alloc (Nat.le_refl _) _)).step ((Below.refl _ _).alloc (Nat.le_refl _) _), ((F9.out.2.1).step ((Below.refl _ _).alloc (Nat.le_refl _) _)).step ((Below.refl _ _).alloc (Nat.le_refl _) _), ((F9.out.2.2.1).step ((Below.refl _ _).alloc (Nat.le_refl _) _)).step ((Below.refl _ _).alloc (Nat.le_refl _) _), (Bk.new3 w9 (.string s2) (.int .i64 p2) (.bool false) 28).step ((Below.refl _ _).alloc (Nat.le_refl _) _), ((by have q := Bk.new3 (w9.alloc (.cells #[.string s2, .int .i64 p2, .bool false] 28)) (.string s) (.int .i64 p) (.bool false) 28; simpa using q) : Bk ((w9.alloc (.cells #[.string s2, .int .i64 p2, .bool false] 28)).alloc (.cells #[.string s, .int .i64 p, .bool false] 28)) (w9.heap.size + 1) [.string s, .int .i64 p, .bool false]), ((F9.out.2.2.2).alloc ((F9.out.2.2.2).size) _).alloc (((F9.out.2.2.2).alloc ((F9.out.2.2.2).size) _).size) _⟩
 clear F9
 go_upto_region 19 with fail
 generalize ((w9.alloc (.cells #[.string s2, .int .i64 p2, .bool false] 28)).alloc (.cells #[.string s, .int .i64 p, .bool false] 28)) = w10 at *
 have l2_0 := F10.out.1.lt
 have a2_0_0 := F10.out.1.cell 0 _ rfl
 have a2_0_1 := F10.out.1.cell 1 _ rfl
 have a2_0_2 := F10.out.1.cell 2 _ rfl
 have l2_1 := F10.out.2.1.lt
 have a2_1_0 := F10.out.2.1.cell 0 _ rfl
 have a2_1_1 := F10.out.2.1.cell 1 _ rfl
 have a2_1_2 := F10.out.2.1.cell 2 _ rfl
 have l2_2 := F10.out.2.2.1.lt
 have a2_2_0 := F10.out.2.2.1.cell 0 _ rfl
 have a2_2_1 := F10.out.2.2.1.cell 1 _ rfl
 have a2_2_2 := F10.out.2.2.1.cell 2 _ rfl
 have l2_3 := F10.out.2.2.2.1.lt
 have a2_3_0 := F10.out.2.2.2.1.cell 0 _ rfl
 have a2_3_1 := F10.out.2.2.2.1.cell 1 _ rfl
 have a2_3_2 := F10.out.2.2.2.1.cell 2 _ rfl
 have l2_4 := F10.out.2.2.2.2.1.lt
 have a2_4_0 := F10.out.2.2.2.2.1.cell 0 _ rfl
 have a2_4_1 := F10.out.2.2.2.2.1.cell 1 _ rfl
 have a2_4_2 := F10.out.2.2.2.2.1.cell 2 _ rfl
 go_wp2_with fail
 all_goals first | (exfalso; omega) | skip
 refine (HIP _).mono ?_
 rintro o11 w11 ⟨rfl, bb⟩
 have F11 : Hid (Bk w11 (w2.heap.size) [.string u, .int .i64 o, .bool false] ∧ Bk w11 (w4.heap.size) [.string s, .int .i64 p, .bool false] ∧ Bk w11 (w4.heap.size + 1) [.string t, .int .i64 q, .bool false] ∧ Bk w11 (w9.heap.size) [.string s2, .int .i64 p2, .bool false] ∧ Bk w11 (w9.heap.size + 1) [.string s, .int .i64 p, .bool false] ∧ Below w.heap.size w w11) := ⟨(F10.out.1).step bb, (F10.out.2.1).step bb, (F10.out.2.2.1).step bb, (F10.out.2.2.2.1).step bb, (F10.out.2.2.2.2.1).step bb, (F10.out.2.2.2.2.2).trans (bb.mono (F10.out.2.2.2.2.2).size)⟩
 clear F10
 clear bb
 clear l2_0 a2_0_0 a2_0_1 a2_0_2 l2_1 a2_1_0 a2_1_1 a2_1_2 l2_2 a2_2_0 a2_2_1 a2_2_2 l2_3 a2_3_0 a2_3_1 a2_3_2 l2_4 a2_4_0 a2_4_1 a2_4_2
 have l3_0 := F11.out.1.lt
 have a3_0_0 := F11.out.1.cell 0 _ rfl
 have a3_0_1 := F11.out.1.cell 1 _ rfl
 have a3_0_2 := F11.out.1.cell 2 _ rfl
 have l3_1 := F11.out.2.1.lt
 have a3_1_0 := F11.out.2.1.cell 0 _ rfl
 have a3_1_1 := F11.out.2.1.cell 1 _ rfl
 have a3_1_2 := F11.out.2.1.cell 2 _ rfl
 have l3_2 := F11.out.2.2.1.lt
 have a3_2_0 := F11.out.2.2.1.cell 0 _ rfl
 have a3_2_1 := F11.out.2.2.1.cell 1 _ rfl
 have a3_2_2 := F11.out.2.2.1.cell 2 _ rfl
 have l3_3 := F11.out.2.2.2.1.lt
 have a3_3_0 := F11.out.2.2.2.1.cell 0 _ rfl
 have a3_3_1 := F11.out.2.2.2.1.cell 1 _ rfl
 have a3_3_2 := F11.out.2.2.2.1.cell 2 _ rfl
 have l3_4 := F11.out.2.2.2.2.1.lt
 have a3_4_0 := F11.out.2.2.2.2.1.cell 0 _ rfl
 have a3_4_1 := F11.out.2.2.2.2.1.cell 1 _ rfl
 have a3_4_2 := F11.out.2.2.2.2.1.cell 2 _ rfl
 go_wp2_with fail
 all_goals first | (exfalso; omega) | skip
 refine (HN _).mono ?_
 rintro o12 w12 ⟨rfl, bb⟩
 have F12 : Hid (Bk w12 (w2.heap.size) [.string u, .int .i64 o, .bool false] ∧ Bk w12 (w4.heap.size) [.string s, .int .i64 p, .bool false] ∧ Bk w12 (w4.heap.size + 1) [.string t, .int .i64 q, .bool false] ∧ Bk w12 (w9.heap.size) [.string s2, .int .i64 p2, .bool false] ∧ Bk w12 (w9.heap.size + 1) [.string s, .int .i64 p, .bool false] ∧ Below w.heap.size w w12) := ⟨(F11.out.1).step bb, (F11.out.2.1).step bb, (F11.out.2.2.1).step bb, (F11.out.2.2.2.1).step bb, (F11.out.2.2.2.2.1).step bb, (F11.out.2.2.2.2.2).trans (bb.mono (F11.out.2.2.2.2.2).size)⟩
 clear F11
 clear bb
 clear l3_0 a3_0_0 a3_0_1 a3_0_2 l3_1 a3_1_0 a3_1_1 a3_1_2 l3_2 a3_2_0 a3_2_1 a3_2_2 l3_3 a3_3_0 a3_3_1 a3_3_2 l3_4 a3_4_0 a3_4_1 a3_4_2
 go_wp2_with fail
 all_goals first | (exfalso; omega) | skip
 refine (HCN _).mono ?_
 rintro o13 w13 ⟨rfl, bb⟩
 have F13 : Hid (Bk w13 (w2.heap.size) [.string u, .int .i64 o, .bool false] ∧ Bk w13 (w4.heap.size) [.string s, .int .i64 p, .bool false] ∧ Bk w13 (w4.heap.size + 1) [.string t, .int .i64 q, .bool false] ∧ Bk w13 (w9.heap.size) [.string s2, .int .i64 p2, .bool false] ∧ Bk w13 (w9.heap.size + 1) [.string s, .int .i64 p, .bool false] ∧ Below w.heap.size w w13) := ⟨(F12.out.1).step bb, (F12.out.2.1).step bb, (F12.out.2.2.1).step bb, (F12.out.2.2.2.1).step bb, (F12.out.2.2.2.2.1).step bb, (F12.out.2.2.2.2.2).trans (bb.mono (F12.out.2.2.2.2.2).size)⟩
 clear F12
 clear bb
 go_wp2_with fail
 all_goals first | (exfalso; omega) | skip
 refine (HBN _).mono ?_
 rintro o14 w14 ⟨rfl, bb⟩
 have F14 : Hid (Bk w14 (w2.heap.size) [.string u, .int .i64 o, .bool false] ∧ Bk w14 (w4.heap.size) [.string s, .int .i64 p, .bool false] ∧ Bk w14 (w4.heap.size + 1) [.string t, .int .i64 q, .bool false] ∧ Bk w14 (w9.heap.size) [.string s2, .int .i64 p2, .bool false] ∧ Bk w14 (w9.heap.size + 1) [.string s, .int .i64 p, .bool false] ∧ Below w.heap.size w w14) := ⟨(F13.out.1).step bb, (F13.out.2.1).step bb, (F13.out.2.2.1).step bb, (F13.out.2.2.2.1).step bb, (F13.out.2.2.2.2.1).step bb, (F13.out.2.2.2.2.2).trans (bb.mono (F13.out.2.2.2.2.2).size)⟩
 clear F13
 clear bb
 have lt0_5 := (F14.out.1).lt
 have lt1_5 := (F14.out.2.1).lt
 have lt2_5 := (F14.out.2.2.1).lt
 have lt3_5 := (F14.out.2.2.2.1).lt
 have lt4_5 := (F14.out.2.2.2.2.1).lt
 have le5 := (F14.out.2.2.2.2.2).size
 have F15 : Hid (Bk ((w14.alloc (.cells #[.string t, .int .i64 q, .bool false] 28)).alloc (.cells #[.string t2, .int .i64 q2, .bool false] 28)) (w2.heap.size) [.string u, .int .i64 o, .bool false] ∧ Bk ((w14.alloc (.cells #[.string t, .int .i64 q, .bool false] 28)).alloc (.cells #[.string t2, .int .i64 q2, .bool false] 28)) (w4.heap.size) [.string s, .int .i64 p, .bool false] ∧ Bk ((w14.alloc (.cells #[.string t, .int .i64 q, .bool false] 28)).alloc (.cells #[.string t2, .int .i64 q2, .bool false] 28)) (w4.heap.size + 1) [.string t, .int .i64 q, .bool false] ∧ Bk ((w14.alloc (.cells #[.string t, .int .i64 q, .bool false] 28)).alloc (.cells #[.string t2, .int .i64 q2, .bool false] 28)) (w9.heap.size) [.string s2, .int .i64 p2, .bool false] ∧ Bk ((w14.alloc (.cells #[.string t, .int .i64 q, .bool false] 28)).alloc (.cells #[.string t2, .int .i64 q2, .bool false] 28)) (w9.heap.size + 1) [.string s, .int .i64 p, .bool false] ∧ Bk ((w14.alloc (.cells #[.string t, .int .i64 q, .bool false] 28)).alloc (.cells #[.string t2, .int .i64 q2, .bool false] 28)) (w14.heap.size) [.string t, .int .i64 q, .bool false] ∧ Bk ((w14.alloc (.cells #[.string t, .int .i64 q, .bool false] 28)).alloc (.cells #[.string t2, .int .i64 q2, .bool false] 28)) (w14.heap.size + 1) [.string t2, .int .i64 q2, .bool false] ∧ Below w.heap.size w ((w14.alloc (.cells #[.string t, .int .i64 q, .bool false] 28)).alloc (.cells #[.string t2, .int .i64 q2, .bool false] 28))) := ⟨((F14.out.1).step ((Below.refl _ _).alloc (Nat.le_refl _) _)).step ((Below.refl _ _).alloc (Nat.le_refl _) _), ((F14.out.2.1).step ((Below.refl _ _).alloc (Nat.le_refl _) _)).step ((Below.refl _ _).alloc (Nat.le_refl _) _), ((F14.out.2.2.1).step ((Below.refl _ _).alloc (Nat.le_refl _) _)).step ((Below.refl _ _).alloc (Nat.le_refl _) _), ((F14.out.2.2.2.1).step ((Below.refl _ _).alloc (Nat.le_refl _) _)).step ((Below.refl _ _).alloc (Nat.le_refl _) _), ((F14.out.2.2.2.2.1).step ((Below.refl _ _).alloc (Nat.le_refl _) _)).step ((Below.refl _ _).alloc (Nat.le_refl _) _), (Bk.new3 w14 (.string t) (.int .i64 q) (.bool false) 28).step ((Below.refl _ _).alloc (Nat.le_refl _) _), ((by have q := Bk.new3 (w14.alloc (.cells #[.string t, .int .i64 q, .bool false] 28)) (.string t2) (.int .i64 q2) (.bool false) 28; simpa using q) : Bk ((w14.alloc (.cells #[.string t, .int .i64 q, .bool false] 28)).alloc (.cells #[.string t2, .int .i64 q2, .bool false] 28)) (w14.heap.size + 1) [.string t2, .int .i64 q2, .bool false]), ((F14.out.2.2.2.2.2).alloc ((F14.out.2.2.2.2.2).size) _).alloc (((F14.out.2.2.2.2.2).alloc ((F14.out.2.2.2.2.2).size) _).size) _⟩
 clear F14
 go_upto_region 29 with fail
 generalize ((w14.alloc (.cells #[.string t, .int .i64 q, .bool false] 28)).alloc (.cells #[.string t2, .int .i64 q2, .bool false] 28)) = w15 at *
 have l4_0 := F15.out.1.lt
 have a4_0_0 := F15.out.1.cell 0 _ rfl
 have a4_0_1 := F15.out.1.cell 1 _ rfl
 have a4_0_2 := F15.out.1.cell 2 _ rfl
 have l4_1 := F15.out.2.1.lt
 have a4_1_0 := F15.out.2.1.cell 0 _ rfl
 have a4_1_1 := F15.out.2.1.cell 1 _ rfl
 have a4_1_2 := F15.out.2.1.cell 2 _ rfl
 have l4_2 := F15.out.2.2.1.lt
 have a4_2_0 := F15.out.2.2.1.cell 0 _ rfl
 have a4_2_1 := F15.out.2.2.1.cell 1 _ rfl
 have a4_2_2 := F15.out.2.2.1.cell 2 _ rfl
 have l4_3 := F15.out.2.2.2.1.lt
 have a4_3_0 := F15.out.2.2.2.1.cell 0 _ rfl
 have a4_3_1 := F15.out.2.2.2.1.cell 1 _ rfl
 have a4_3_2 := F15.out.2.2.2.1.cell 2 _ rfl
 have l4_4 := F15.out.2.2.2.2.1.lt
 have a4_4_0 := F15.out.2.2.2.2.1.cell 0 _ rfl
 have a4_4_1 := F15.out.2.2.2.2.1.cell 1 _ rfl
 have a4_4_2 := F15.out.2.2.2.2.1.cell 2 _ rfl
 have l4_5 := F15.out.2.2.2.2.2.1.lt
 have a4_5_0 := F15.out.2.2.2.2.2.1.cell 0 _ rfl
 have a4_5_1 := F15.out.2.2.2.2.2.1.cell 1 _ rfl
 have a4_5_2 := F15.out.2.2.2.2.2.1.cell 2 _ rfl
 have l4_6 := F15.out.2.2.2.2.2.2.1.lt
 have a4_6_0 := F15.out.2.2.2.2.2.2.1.cell 0 _ rfl
 have a4_6_1 := F15.out.2.2.2.2.2.2.1.cell 1 _ rfl
 have a4_6_2 := F15.out.2.2.2.2.2.2.1.cell 2 _ rfl
 go_wp2_with fail
 all_goals first | (exfalso; omega) | skip
 refine (HIH _).mono ?_
 rintro o16 w16 ⟨rfl, bb⟩
 have F16 : Hid (Bk w16 (w2.heap.size) [.string u, .int .i64 o, .bool false] ∧ Bk w16 (w4.heap.size) [.string s, .int .i64 p, .bool false] ∧ Bk w16 (w4.heap.size + 1) [.string t, .int .i64 q, .bool false] ∧ Bk w16 (w9.heap.size) [.string s2, .int .i64 p2, .bool false] ∧ Bk w16 (w9.heap.size + 1) [.string s, .int .i64 p, .bool false] ∧ Bk w16 (w14.heap.size) [.string t, .int .i64 q, .bool false] ∧ Bk w16 (w14.heap.size + 1) [.string t2, .int .i64 q2, .bool false] ∧ Below w.heap.size w w16) := ⟨(F15.out.1).step bb, (F15.out.2.1).step bb, (F15.out.2.2.1).step bb, (F15.out.2.2.2.1).step bb, (F15.out.2.2.2.2.1).step bb, (F15.out.2.2.2.2.2.1).step bb, (F15.out.2.2.2.2.2.2.1).step bb, (F15.out.2.2.2.2.2.2.2).trans (bb.mono (F15.out.2.2.2.2.2.2.2).size)⟩
 clear F15
 clear bb
 clear l4_0 a4_0_0 a4_0_1 a4_0_2 l4_1 a4_1_0 a4_1_1 a4_1_2 l4_2 a4_2_0 a4_2_1 a4_2_2 l4_3 a4_3_0 a4_3_1 a4_3_2 l4_4 a4_4_0 a4_4_1 a4_4_2 l4_5 a4_5_0 a4_5_1 a4_5_2 l4_6 a4_6_0 a4_6_1 a4_6_2
 have l5_0 := F16.out.1.lt
 have a5_0_0 := F16.out.1.cell 0 _ rfl
 have a5_0_1 := F16.out.1.cell 1 _ rfl
 have a5_0_2 := F16.out.1.cell 2 _ rfl
 have l5_1 := F16.out.2.1.lt
 have a5_1_0 := F16.out.2.1.cell 0 _ rfl
 have a5_1_1 := F16.out.2.1.cell 1 _ rfl
 have a5_1_2 := F16.out.2.1.cell 2 _ rfl
 have l5_2 := F16.out.2.2.1.lt
 have a5_2_0 := F16.out.2.2.1.cell 0 _ rfl
 have a5_2_1 := F16.out.2.2.1.cell 1 _ rfl
 have a5_2_2 := F16.out.2.2.1.cell 2 _ rfl
 have l5_3 := F16.out.2.2.2.1.lt
 have a5_3_0 := F16.out.2.2.2.1.cell 0 _ rfl
 have a5_3_1 := F16.out.2.2.2.1.cell 1 _ rfl
 have a5_3_2 := F16.out.2.2.2.1.cell 2 _ rfl
 have l5_4 := F16.out.2.2.2.2.1.lt
 have a5_4_0 := F16.out.2.2.2.2.1.cell 0 _ rfl
 have a5_4_1 := F16.out.2.2.2.2.1.cell 1 _ rfl
 have a5_4_2 := F16.out.2.2.2.2.1.cell 2 _ rfl
 have l5_5 := F16.out.2.2.2.2.2.1.lt
 have a5_5_0 := F16.out.2.2.2.2.2.1.cell 0 _ rfl
 have a5_5_1 := F16.out.2.2.2.2.2.1.cell 1 _ rfl
 have a5_5_2 := F16.out.2.2.2.2.2.1.cell 2 _ rfl
 have l5_6 := F16.out.2.2.2.2.2.2.1.lt
 have a5_6_0 := F16.out.2.2.2.2.2.2.1.cell 0 _ rfl
 have a5_6_1 := F16.out.2.2.2.2.2.2.1.cell 1 _ rfl
 have a5_6_2 := F16.out.2.2.2.2.2.2.1.cell 2 _ rfl
 go_wp2_with fail
 all_goals first | (exfalso; omega) | skip
 refine (HCM _).mono ?_
 rintro o17 w17 ⟨rfl, bb⟩
 have F17 : Hid (Bk w17 (w2.heap.size) [.string u, .int .i64 o, .bool false] ∧ Bk w17 (w4.heap.size) [.string s, .int .i64 p, .bool false] ∧ Bk w17 (w4.heap.size + 1) [.string t, .int .i64 q, .bool false] ∧ Bk w17 (w9.heap.size) [.string s2, .int .i64 p2, .bool false] ∧ Bk w17 (w9.heap.size + 1) [.string s, .int .i64 p, .bool false] ∧ Bk w17 (w14.heap.size) [.string t, .int .i64 q, .bool false] ∧ Bk w17 (w14.heap.size + 1) [.string t2, .int .i64 q2, .bool false] ∧ Below w.heap.size w w17) := ⟨(F16.out.1).step bb, (F16.out.2.1).step bb, (F16.out.2.2.1).step bb, (F16.out.2.2.2.1).step bb, (F16.out.2.2.2.2.1).step bb, (F16.out.2.2.2.2.2.1).step bb, (F16.out.2.2.2.2.2.2.1).step bb, (F16.out.2.2.2.2.2.2.2).trans (bb.mono (F16.out.2.2.2.2.2.2.2).size)⟩
 clear F16
 clear bb
 clear l5_0 a5_0_0 a5_0_1 a5_0_2 l5_1 a5_1_0 a5_1_1 a5_1_2 l5_2 a5_2_0 a5_2_1 a5_2_2 l5_3 a5_3_0 a5_3_1 a5_3_2 l5_4 a5_4_0 a5_4_1 a5_4_2 l5_5 a5_5_0 a5_5_1 a5_5_2 l5_6 a5_6_0 a5_6_1 a5_6_2
 have l6_0 := F17.out.1.lt
 have a6_0_0 := F17.out.1.cell 0 _ rfl
 have a6_0_1 := F17.out.1.cell 1 _ rfl
 have a6_0_2 := F17.out.1.cell 2 _ rfl
 have l6_1 := F17.out.2.1.lt
 have a6_1_0 := F17.out.2.1.cell 0 _ rfl
 have a6_1_1 := F17.out.2.1.cell 1 _ rfl
 have a6_1_2 := F17.out.2.1.cell 2 _ rfl
 have l6_2 := F17.out.2.2.1.lt
 have a6_2_0 := F17.out.2.2.1.cell 0 _ rfl
 have a6_2_1 := F17.out.2.2.1.cell 1 _ rfl
 have a6_2_2 := F17.out.2.2.1.cell 2 _ rfl
 have l6_3 := F17.out.2.2.2.1.lt
 have a6_3_0 := F17.out.2.2.2.1.cell 0 _ rfl
 have a6_3_1 := F17.out.2.2.2.1.cell 1 _ rfl
 have a6_3_2 := F17.out.2.2.2.1.cell 2 _ rfl
 have l6_4 := F17.out.2.2.2.2.1.lt
 have a6_4_0 := F17.out.2.2.2.2.1.cell 0 _ rfl
 have a6_4_1 := F17.out.2.2.2.2.1.cell 1 _ rfl
 have a6_4_2 := F17.out.2.2.2.2.1.cell 2 _ rfl
 have l6_5 := F17.out.2.2.2.2.2.1.lt
 have a6_5_0 := F17.out.2.2.2.2.2.1.cell 0 _ rfl
 have a6_5_1 := F17.out.2.2.2.2.2.1.cell 1 _ rfl
 have a6_5_2 := F17.out.2.2.2.2.2.1.cell 2 _ rfl
 have l6_6 := F17.out.2.2.2.2.2.2.1.lt
 have a6_6_0 := F17.out.2.2.2.2.2.2.1.cell 0 _ rfl
 have a6_6_1 := F17.out.2.2.2.2.2.2.1.cell 1 _ rfl
 have a6_6_2 := F17.out.2.2.2.2.2.2.1.cell 2 _ rfl
 go_wp2_with fail
 all_goals first | (exfalso; omega) | skip
 refine (sure19 _).mono ?_
 rintro o18 w18 ⟨rfl, bb⟩
 have F18 : Hid (Bk w18 (w2.heap.size) [.string u, .int .i64 o, .bool false] ∧ Bk w18 (w4.heap.size) [.string s, .int .i64 p, .bool false] ∧ Bk w18 (w4.heap.size + 1) [.string t, .int .i64 q, .bool false] ∧ Bk w18 (w9.heap.size) [.string s2, .int .i64 p2, .bool false] ∧ Bk w18 (w9.heap.size + 1) [.string s, .int .i64 p, .bool false] ∧ Bk w18 (w14.heap.size) [.string t, .int .i64 q, .bool false] ∧ Bk w18 (w14.heap.size + 1) [.string t2, .int .i64 q2, .bool false] ∧ Below w.heap.size w w18) := ⟨(F17.out.1).step bb, (F17.out.2.1).step bb, (F17.out.2.2.1).step bb, (F17.out.2.2.2.1).step bb, (F17.out.2.2.2.2.1).step bb, (F17.out.2.2.2.2.2.1).step bb, (F17.out.2.2.2.2.2.2.1).step bb, (F17.out.2.2.2.2.2.2.2).trans (bb.mono (F17.out.2.2.2.2.2.2.2).size)⟩
 clear F17
 clear bb
 go_wp2
 go_ret
 exact ⟨rfl, F18.out.2.2.2.2.2.2.2⟩
theorem ap_end2 {b b1 b2 : Nat} {z : Int} {u s t s2 : ByteArray} {o p q p2 : Int} (eb : (bits BinOp.and IntKind.u64 (b : Int) 1 == 0) = true) (ez : (z == 32) = false) (HC : ∀ W, Calls Tryd.prog 4 #[.int .u64 (b : Int), .int .i64 z] W fun e w' => e = .returned (.tuple #[.int .i64 2, .nilIface]) ∧ Below W.heap.size W w') (HE : ∀ W, Calls Tryd.prog 5 #[.int .u64 (b : Int), .int .i64 z] W fun e w' => e = .returned (.tuple #[.agg #[.string u, .int .i64 o, .bool false], .nilIface]) ∧ Below W.heap.size W w') (HB : ∀ W, Calls Tryd.prog 7 #[.int .u64 (b : Int), .int .i64 z] W fun e w' => e = .returned (.tuple #[.agg #[.string s, .int .i64 p, .bool false], .agg #[.string t, .int .i64 q, .bool false], .bool true, .nilIface]) ∧ Below W.heap.size W w') (HI : ∀ W, Calls Tryd.prog 8 #[.agg #[.string u, .int .i64 o, .bool false], .int .u64 (b : Int), .int .i64 z] W fun e w' => e = .returned (.tuple #[.bool true, .nilIface]) ∧ Below W.heap.size W w') (HT : ∀ W, Calls Tryd.prog 9 #[.int .u64 (b : Int), .int .i64 z, .int .i64 17] W fun e w' => e = .returned (.tuple #[.bool true, .nilIface]) ∧ Below W.heap.size W w') (HP : ∀ W, Calls Tryd.prog 10 #[.int .u64 (b : Int), .int .i64 z] W fun e w' => e = .returned (.tuple #[.int .u64 (b1 : Int), .nilIface]) ∧ Below W.heap.size W w') (HBP : ∀ W, Calls Tryd.prog 7 #[.int .u64 (b1 : Int), .int .i64 z] W fun e w' => e = .returned (.tuple #[.agg #[.string s2, .int .i64 p2, .bool false], .agg #[.string s, .int .i64 p, .bool false], .bool false, .nilIface]) ∧ Below W.heap.size W w') (HIP : ∀ W, Calls Tryd.prog 8 #[.agg #[.string u, .int .i64 o, .bool false], .int .u64 (b1 : Int), .int .i64 z] W fun e w' => e = .returned (.tuple #[.bool false, .nilIface]) ∧ Below W.heap.size W w') (HN : ∀ W, Calls Tryd.prog 11 #[.int .u64 (b : Int), .int .i64 z] W fun e w' => e = .returned (.tuple #[.int .u64 (b2 : Int), .nilIface]) ∧ Below W.heap.size W w') (HCN : ∀ W, Calls Tryd.prog 4 #[.int .u64 (b2 : Int), .int .i64 z] W fun e w' => e = .returned (.tuple #[.int .i64 3, .nilIface]) ∧ Below W.heap.size W w') (w : World) :
 Calls Tryd.prog 3 #[.int .u64 (b : Int), .int .i64 z] w fun x w' => x = .returned (.bool true) ∧ Below w.heap.size w w' := by
 have F0 : Hid (Below w.heap.size w w) := Below.refl _ _
 go_enter Tryd.func3, Tryd.ntmps3
 go_wp2_with fail
 all_goals first | (exfalso; omega) | skip
 refine (HC _).mono ?_
 rintro o1 w1 ⟨rfl, bb⟩
 have F1 : Hid (Below w.heap.size w w1) := (F0.out).trans (bb.mono (F0.out).size)
 clear F0
 clear bb
 go_wp2_with fail
 all_goals first | (exfalso; omega) | skip
 refine (HE _).mono ?_
 rintro o2 w2 ⟨rfl, bb⟩
 have F2 : Hid (Below w.heap.size w w2) := (F1.out).trans (bb.mono (F1.out).size)
 clear F1
 clear bb
 have le0 := (F2.out).size
 have F3 : Hid (Bk (w2.alloc (.cells #[.string u, .int .i64 o, .bool false] 28)) (w2.heap.size) [.string u, .int .i64 o, .bool false] ∧ Below w.heap.size w (w2.alloc (.cells #[.string u, .int .i64 o, .bool false] 28))) := ⟨Bk.new3 w2 (.string u) (.int .i64 o) (.bool false) 28, (F2.out).alloc ((F2.out).size) _⟩
 clear F2
 go_upto_region 6 with fail
 generalize (w2.alloc (.cells #[.string u, .int .i64 o, .bool false] 28)) = w3 at *
 go_wp2_with fail
 all_goals first | (exfalso; omega) | skip
 refine (HB _).mono ?_
 rintro o4 w4 ⟨rfl, bb⟩
 have F4 : Hid (Bk w4 (w2.heap.size) [.string u, .int .i64 o, .bool false] ∧ Below w.heap.size w w4) := ⟨(F3.out.1).step bb, (F3.out.2).trans (bb.mono (F3.out.2).size)⟩
 clear F3
 clear bb
 have lt0_1 := (F4.out.1).lt
 have le1 := (F4.out.2).size
 have F5 : Hid (Bk ((w4.alloc (.cells #[.string s, .int .i64 p, .bool false] 28)).alloc (.cells #[.string t, .int .i64 q, .bool false] 28)) (w2.heap.size) [.string u, .int .i64 o, .bool false] ∧ Bk ((w4.alloc (.cells #[.string s, .int .i64 p, .bool false] 28)).alloc (.cells #[.string t, .int .i64 q, .bool false] 28)) (w4.heap.size) [.string s, .int .i64 p, .bool false] ∧ Bk ((w4.alloc (.cells #[.string s, .int .i64 p, .bool false] 28)).alloc (.cells #[.string t, .int .i64 q, .bool false] 28)) (w4.heap.size + 1) [.string t, .int .i64 q, .bool false] ∧ Below w.heap.size w ((w4.alloc (.cells #[.string s, .int .i64 p, .bool false] 28)).alloc (.cells #[.string t, .int .i64 q, .bool false] 28))) := ⟨((F4.out.1).step ((Below.refl _ _).alloc (Nat.le_refl _) _)).step ((Below.refl _ _).alloc (Nat.le_refl _) _), (Bk.new3 w4 (.string s) (.int .i64 p) (.bool false) 28).step ((Below.refl _ _).alloc (Nat.le_refl _) _), ((by have q := Bk.new3 (w4.alloc (.cells #[.string s, .int .i64 p, .bool false] 28)) (.string t) (.int .i64 q) (.bool false) 28; simpa using q) : Bk ((w4.alloc (.cells #[.string s, .int .i64 p, .bool false] 28)).alloc (.cells #[.string t, .int .i64 q, .bool false] 28)) (w4.heap.size + 1) [.string t, .int .i64 q, .bool false]), ((F4.out.2).alloc ((F4.out.2).size) _).alloc (((F4.out.2).alloc ((F4.out.2).size) _).size) _⟩
 clear F4
 go_upto_region 7 with fail
 generalize ((w4.alloc (.cells #[.string s, .int .i64 p, .bool false] 28)).alloc (.cells #[.string t, .int .i64 q, .bool false] 28)) = w5 at *
 have l1_0 := F5.out.1.lt
 have a1_0_0 := F5.out.1.cell 0 _ rfl
 have a1_0_1 := F5.out.1.cell 1 _ rfl
 have a1_0_2 := F5.out.1.cell 2 _ rfl
 have l1_1 := F5.out.2.1.lt
 have a1_1_0 := F5.out.2.1.cell 0 _ rfl
 have a1_1_1 := F5.out.2.1.cell 1 _ rfl
 have a1_1_2 := F5.out.2.1.cell 2 _ rfl
 have l1_2 := F5.out.2.2.1.lt
 have a1_2_0 := F5.out.2.2.1.cell 0 _ rfl
 have a1_2_1 := F5.out.2.2.1.cell 1 _ rfl
 have a1_2_2 := F5.out.2.2.1.cell 2 _ rfl
 go_wp2_with fail
 all_goals first | (exfalso; omega) | skip
 refine (HI _).mono ?_
 rintro o6 w6 ⟨rfl, bb⟩
 have F6 : Hid (Bk w6 (w2.heap.size) [.string u, .int .i64 o, .bool false] ∧ Bk w6 (w4.heap.size) [.string s, .int .i64 p, .bool false] ∧ Bk w6 (w4.heap.size + 1) [.string t, .int .i64 q, .bool false] ∧ Below w.heap.size w w6) := ⟨(F5.out.1).step bb, (F5.out.2.1).step bb, (F5.out.2.2.1).step bb, (F5.out.2.2.2).trans (bb.mono (F5.out.2.2.2).size)⟩
 clear F5
 clear bb
 clear l1_0 a1_0_0 a1_0_1 a1_0_2 l1_1 a1_1_0 a1_1_1 a1_1_2 l1_2 a1_2_0 a1_2_1 a1_2_2
 go_wp2_with fail
 all_goals first | (exfalso; omega) | skip
 refine (HT _).mono ?_
 rintro o7 w7 ⟨rfl, bb⟩
 have F7 : Hid (Bk w7 (w2.heap.size) [.string u, .int .i64 o, .bool false] ∧ Bk w7 (w4.heap.size) [.string s, .int .i64 p, .bool false] ∧ Bk w7 (w4.heap.size + 1) [.string t, .int .i64 q, .bool false] ∧ Below w.heap.size w w7) := ⟨(F6.out.1).step bb, (F6.out.2.1).step bb, (F6.out.2.2.1).step bb, (F6.out.2.2.2).trans (bb.mono (F6.out.2.2.2).size)⟩
 clear F6
 clear bb
 go_wp2_with fail
 all_goals first | (exfalso; omega) | skip
 refine (HP _).mono ?_
 rintro o8 w8 ⟨rfl, bb⟩
 have F8 : Hid (Bk w8 (w2.heap.size) [.string u, .int .i64 o, .bool false] ∧ Bk w8 (w4.heap.size) [.string s, .int .i64 p, .bool false] ∧ Bk w8 (w4.heap.size + 1) [.string t, .int .i64 q, .bool false] ∧ Below w.heap.size w w8) := ⟨(F7.out.1).step bb, (F7.out.2.1).step bb, (F7.out.2.2.1).step bb, (F7.out.2.2.2).trans (bb.mono (F7.out.2.2.2).size)⟩
 clear F7
 clear bb
 go_wp2_with fail
 all_goals first | (exfalso; omega) | skip
 refine (HBP _).mono ?_
 rintro o9 w9 ⟨rfl, bb⟩
 have F9 : Hid (Bk w9 (w2.heap.size) [.string u, .int .i64 o, .bool false] ∧ Bk w9 (w4.heap.size) [.string s, .int .i64 p, .bool false] ∧ Bk w9 (w4.heap.size + 1) [.string t, .int .i64 q, .bool false] ∧ Below w.heap.size w w9) := ⟨(F8.out.1).step bb, (F8.out.2.1).step bb, (F8.out.2.2.1).step bb, (F8.out.2.2.2).trans (bb.mono (F8.out.2.2.2).size)⟩
 clear F8
 clear bb
 have lt0_3 := (F9.out.1).lt
 have lt1_3 := (F9.out.2.1).lt
 have lt2_3 := (F9.out.2.2.1).lt
 have le3 := (F9.out.2.2.2).size
 have F10 : Hid (Bk ((w9.alloc (.cells #[.string s2, .int .i64 p2, .bool false] 28)).alloc (.cells #[.string s, .int .i64 p, .bool false] 28)) (w2.heap.size) [.string u, .int .i64 o, .bool false] ∧ Bk ((w9.alloc (.cells #[.string s2, .int .i64 p2, .bool false] 28)).alloc (.cells #[.string s, .int .i64 p, .bool false] 28)) (w4.heap.size) [.string s, .int .i64 p, .bool false] ∧ Bk ((w9.alloc (.cells #[.string s2, .int .i64 p2, .bool false] 28)).alloc (.cells #[.string s, .int .i64 p, .bool false] 28)) (w4.heap.size + 1) [.string t, .int .i64 q, .bool false] ∧ Bk ((w9.alloc (.cells #[.string s2, .int .i64 p2, .bool false] 28)).alloc (.cells #[.string s, .int .i64 p, .bool false] 28)) (w9.heap.size) [.string s2, .int .i64 p2, .bool false] ∧ Bk ((w9.alloc (.cells #[.string s2, .int .i64 p2, .bool false] 28)).alloc (.cells #[.string s, .int .i64 p, .bool false] 28)) (w9.heap.size + 1) [.string s, .int .i64 p, .bool false] ∧ Below w.heap.size w ((w9.alloc (.cells #[.string s2, .int .i64 p2, .bool false] 28)).alloc (.cells #[.string s, .int .i64 p, .bool false] 28))) := ⟨((F9.out.1).step ((Below.refl _ _).alloc (Nat.le_refl _) _)).step ((Below.refl _ _).alloc (Nat.le_refl _) _), ((F9.out.2.1).step ((Below.refl _ _).alloc (Nat.le_refl _) _)).step ((Below.refl _ _).alloc (Nat.le_refl _) _), ((F9.out.2.2.1).step ((Below.refl _ _).alloc (Nat.le_refl _) _)).step ((Below.refl _ _).alloc (Nat.le_refl _) _), (Bk.new3 w9 (.string s2) (.int .i64 p2) (.bool false) 28).step ((Below.refl _ _).alloc (Nat.le_refl _) _), ((by have q := Bk.new3 (w9.alloc (.cells #[.string s2, .int .i64 p2, .bool false] 28)) (.string s) (.int .i64 p) (.bool false) 28; simpa using q) : Bk ((w9.alloc (.cells #[.string s2, .int .i64 p2, .bool false] 28)).alloc (.cells #[.string s, .int .i64 p, .bool false] 28)) (w9.heap.size + 1) [.string s, .int .i64 p, .bool false]), ((F9.out.2.2.2).alloc ((F9.out.2.2.2).size) _).alloc (((F9.out.2.2.2).alloc ((F9.out.2.2.2).size) _).size) _⟩
 clear F9
 go_upto_region 19 with fail
 generalize ((w9.alloc (.cells #[.string s2, .int .i64 p2, .bool false] 28)).alloc (.cells #[.string s, .int .i64 p, .bool false] 28)) = w10 at *
 have l2_0 := F10.out.1.lt
 have a2_0_0 := F10.out.1.cell 0 _ rfl
 have a2_0_1 := F10.out.1.cell 1 _ rfl
 have a2_0_2 := F10.out.1.cell 2 _ rfl
 have l2_1 := F10.out.2.1.lt
 have a2_1_0 := F10.out.2.1.cell 0 _ rfl
 have a2_1_1 := F10.out.2.1.cell 1 _ rfl
 have a2_1_2 := F10.out.2.1.cell 2 _ rfl
 have l2_2 := F10.out.2.2.1.lt
 have a2_2_0 := F10.out.2.2.1.cell 0 _ rfl
 have a2_2_1 := F10.out.2.2.1.cell 1 _ rfl
 have a2_2_2 := F10.out.2.2.1.cell 2 _ rfl
 have l2_3 := F10.out.2.2.2.1.lt
 have a2_3_0 := F10.out.2.2.2.1.cell 0 _ rfl
 have a2_3_1 := F10.out.2.2.2.1.cell 1 _ rfl
 have a2_3_2 := F10.out.2.2.2.1.cell 2 _ rfl
 have l2_4 := F10.out.2.2.2.2.1.lt
 have a2_4_0 := F10.out.2.2.2.2.1.cell 0 _ rfl
 have a2_4_1 := F10.out.2.2.2.2.1.cell 1 _ rfl
 have a2_4_2 := F10.out.2.2.2.2.1.cell 2 _ rfl
 go_wp2_with fail
 all_goals first | (exfalso; omega) | skip
 refine (HIP _).mono ?_
 rintro o11 w11 ⟨rfl, bb⟩
 have F11 : Hid (Bk w11 (w2.heap.size) [.string u, .int .i64 o, .bool false] ∧ Bk w11 (w4.heap.size) [.string s, .int .i64 p, .bool false] ∧ Bk w11 (w4.heap.size + 1) [.string t, .int .i64 q, .bool false] ∧ Bk w11 (w9.heap.size) [.string s2, .int .i64 p2, .bool false] ∧ Bk w11 (w9.heap.size + 1) [.string s, .int .i64 p, .bool false] ∧ Below w.heap.size w w11) := ⟨(F10.out.1).step bb, (F10.out.2.1).step bb, (F10.out.2.2.1).step bb, (F10.out.2.2.2.1).step bb, (F10.out.2.2.2.2.1).step bb, (F10.out.2.2.2.2.2).trans (bb.mono (F10.out.2.2.2.2.2).size)⟩
 clear F10
 clear bb
 clear l2_0 a2_0_0 a2_0_1 a2_0_2 l2_1 a2_1_0 a2_1_1 a2_1_2 l2_2 a2_2_0 a2_2_1 a2_2_2 l2_3 a2_3_0 a2_3_1 a2_3_2 l2_4 a2_4_0 a2_4_1 a2_4_2
 have l3_0 := F11.out.1.lt
 have a3_0_0 := F11.out.1.cell 0 _ rfl
 have a3_0_1 := F11.out.1.cell 1 _ rfl
 have a3_0_2 := F11.out.1.cell 2 _ rfl
 have l3_1 := F11.out.2.1.lt
 have a3_1_0 := F11.out.2.1.cell 0 _ rfl
 have a3_1_1 := F11.out.2.1.cell 1 _ rfl
 have a3_1_2 := F11.out.2.1.cell 2 _ rfl
 have l3_2 := F11.out.2.2.1.lt
 have a3_2_0 := F11.out.2.2.1.cell 0 _ rfl
 have a3_2_1 := F11.out.2.2.1.cell 1 _ rfl
 have a3_2_2 := F11.out.2.2.1.cell 2 _ rfl
 have l3_3 := F11.out.2.2.2.1.lt
 have a3_3_0 := F11.out.2.2.2.1.cell 0 _ rfl
 have a3_3_1 := F11.out.2.2.2.1.cell 1 _ rfl
 have a3_3_2 := F11.out.2.2.2.1.cell 2 _ rfl
 have l3_4 := F11.out.2.2.2.2.1.lt
 have a3_4_0 := F11.out.2.2.2.2.1.cell 0 _ rfl
 have a3_4_1 := F11.out.2.2.2.2.1.cell 1 _ rfl
 have a3_4_2 := F11.out.2.2.2.2.1.cell 2 _ rfl
 go_wp2_with fail
 all_goals first | (exfalso; omega) | skip
 refine (HN _).mono ?_
 rintro o12 w12 ⟨rfl, bb⟩
 have F12 : Hid (Bk w12 (w2.heap.size) [.string u, .int .i64 o, .bool false] ∧ Bk w12 (w4.heap.size) [.string s, .int .i64 p, .bool false] ∧ Bk w12 (w4.heap.size + 1) [.string t, .int .i64 q, .bool false] ∧ Bk w12 (w9.heap.size) [.string s2, .int .i64 p2, .bool false] ∧ Bk w12 (w9.heap.size + 1) [.string s, .int .i64 p, .bool false] ∧ Below w.heap.size w w12) := ⟨(F11.out.1).step bb, (F11.out.2.1).step bb, (F11.out.2.2.1).step bb, (F11.out.2.2.2.1).step bb, (F11.out.2.2.2.2.1).step bb, (F11.out.2.2.2.2.2).trans (bb.mono (F11.out.2.2.2.2.2).size)⟩
 clear F11
 clear bb
 clear l3_0 a3_0_0 a3_0_1 a3_0_2 l3_1 a3_1_0 a3_1_1 a3_1_2 l3_2 a3_2_0 a3_2_1 a3_2_2 l3_3 a3_3_0 a3_3_1 a3_3_2 l3_4 a3_4_0 a3_4_1 a3_4_2
 go_wp2_with fail
 all_goals first | (exfalso; omega) | skip
 refine (HCN _).mono ?_
 rintro o13 w13 ⟨rfl, bb⟩
 have F13 : Hid (Bk w13 (w2.heap.size) [.string u, .int .i64 o, .bool false] ∧ Bk w13 (w4.heap.size) [.string s, .int .i64 p, .bool false] ∧ Bk w13 (w4.heap.size + 1) [.string t, .int .i64 q, .bool false] ∧ Bk w13 (w9.heap.size) [.string s2, .int .i64 p2, .bool false] ∧ Bk w13 (w9.heap.size + 1) [.string s, .int .i64 p, .bool false] ∧ Below w.heap.size w w13) := ⟨(F12.out.1).step bb, (F12.out.2.1).step bb, (F12.out.2.2.1).step bb, (F12.out.2.2.2.1).step bb, (F12.out.2.2.2.2.1).step bb, (F12.out.2.2.2.2.2).trans (bb.mono (F12.out.2.2.2.2.2).size)⟩
 clear F12
 clear bb
 go_wp2_with fail
 all_goals first | (exfalso; omega) | skip
 refine (sure19 _).mono ?_
 rintro o14 w14 ⟨rfl, bb⟩
 have F14 : Hid (Bk w14 (w2.heap.size) [.string u, .int .i64 o, .bool false] ∧ Bk w14 (w4.heap.size) [.string s, .int .i64 p, .bool false] ∧ Bk w14 (w4.heap.size + 1) [.string t, .int .i64 q, .bool false] ∧ Bk w14 (w9.heap.size) [.string s2, .int .i64 p2, .bool false] ∧ Bk w14 (w9.heap.size + 1) [.string s, .int .i64 p, .bool false] ∧ Below w.heap.size w w14) := ⟨(F13.out.1).step bb, (F13.out.2.1).step bb, (F13.out.2.2.1).step bb, (F13.out.2.2.2.1).step bb, (F13.out.2.2.2.2.1).step bb, (F13.out.2.2.2.2.2).trans (bb.mono (F13.out.2.2.2.2.2).size)⟩
 clear F13
 clear bb
 go_wp2
 go_ret
 exact ⟨rfl, F14.out.2.2.2.2.2⟩
theorem ap_fin3 {b b1 b2 : Nat} {z : Int} {u s t s2 t2 : ByteArray} {o p q p2 q2 : Int} (eb : (bits BinOp.and IntKind.u64 (b : Int) 1 == 0) = false) (ez : (z == 32) = false) (HC : ∀ W, Calls Tryd.prog 4 #[.int .u64 (b : Int), .int .i64 z] W fun e w' => e = .returned (.tuple #[.int .i64 2, .nilIface]) ∧ Below W.heap.size W w') (HE : ∀ W, Calls Tryd.prog 5 #[.int .u64 (b : Int), .int .i64 z] W fun e w' => e = .returned (.tuple #[.agg #[.string u, .int .i64 o, .bool false], .nilIface]) ∧ Below W.heap.size W w') (HB : ∀ W, Calls Tryd.prog 7 #[.int .u64 (b : Int), .int .i64 z] W fun e w' => e = .returned (.tuple #[.agg #[.string s, .int .i64 p, .bool false], .agg #[.string t, .int .i64 q, .bool false], .bool false, .nilIface]) ∧ Below W.heap.size W w') (HI : ∀ W, Calls Tryd.prog 8 #[.agg #[.string u, .int .i64 o, .bool false], .int .u64 (b : Int), .int .i64 z] W fun e w' => e = .returned (.tuple #[.bool true, .nilIface]) ∧ Below W.heap.size W w') (HT : ∀ W, Calls Tryd.prog 9 #[.int .u64 (b : Int), .int .i64 z, .int .i64 17] W fun e w' => e = .returned (.tuple #[.bool true, .nilIface]) ∧ Below W.heap.size W w') (HP : ∀ W, Calls Tryd.prog 10 #[.int .u64 (b : Int), .int .i64 z] W fun e w' => e = .returned (.tuple #[.int .u64 (b1 : Int), .nilIface]) ∧ Below W.heap.size W w') (HBP : ∀ W, Calls Tryd.prog 7 #[.int .u64 (b1 : Int), .int .i64 z] W fun e w' => e = .returned (.tuple #[.agg #[.string s2, .int .i64 p2, .bool false], .agg #[.string s, .int .i64 p, .bool false], .bool true, .nilIface]) ∧ Below W.heap.size W w') (HIP : ∀ W, Calls Tryd.prog 8 #[.agg #[.string u, .int .i64 o, .bool false], .int .u64 (b1 : Int), .int .i64 z] W fun e w' => e = .returned (.tuple #[.bool false, .nilIface]) ∧ Below W.heap.size W w') (HN : ∀ W, Calls Tryd.prog 11 #[.int .u64 (b : Int), .int .i64 z] W fun e w' => e = .returned (.tuple #[.int .u64 (b2 : Int), .nilIface]) ∧ Below W.heap.size W w') (HCN : ∀ W, Calls Tryd.prog 4 #[.int .u64 (b2 : Int), .int .i64 z] W fun e w' => e = .returned (.tuple #[.int .i64 2, .nilIface]) ∧ Below W.heap.size W w') (HBN : ∀ W, Calls Tryd.prog 7 #[.int .u64 (b2 : Int), .int .i64 z] W fun e w' => e = .returned (.tuple #[.agg #[.string t, .int .i64 q, .bool false], .agg #[.string t2, .int .i64 q2, .bool false], .bool true, .nilIface]) ∧ Below W.heap.size W w') (HIH : ∀ W, Calls Tryd.prog 8 #[.agg #[.string t, .int .i64 q, .bool false], .int .u64 (b : Int), .int .i64 z] W fun e w' => e = .returned (.tuple #[.bool false, .nilIface]) ∧ Below W.heap.size W w') (HCM : ∀ W, Calls Tryd.prog 12 #[.agg #[.string s, .int .i64 p, .bool false], .agg #[.string t, .int .i64 q, .bool false]] W fun e w' => e = .returned (.tuple #[.int .i64 (-1), .nilIface]) ∧ Below W.heap.size W w') (w : World) :
 Calls Tryd.prog 3 #[.int .u64 (b : Int), .int .i64 z] w fun x w' => x = .returned (.bool true) ∧ Below w.heap.size w w' := by
 have F0 : Hid (Below w.heap.size w w) := Below.refl _ _
 go_enter Tryd.func3, Tryd.ntmps3
 go_wp2_with fail
 all_goals first | (exfalso; omega) | skip
 refine (HC _).mono ?_
 rintro o1 w1 ⟨rfl, bb⟩
 have F1 : Hid (Below w.heap.size w w1) := (F0.out).trans (bb.mono (F0.out).size)
 clear F0
 clear bb
 go_wp2_with fail
 all_goals first | (exfalso; omega) | skip
 refine (HE _).mono ?_
 rintro o2 w2 ⟨rfl, bb⟩
 have F2 : Hid (Below w.heap.size w w2) := (F1.out).trans (bb.mono (F1.out).size)
 clear F1
 clear bb
 have le0 := (F2.out).size
 have F3 : Hid (Bk (w2.alloc (.cells #[.string u, .int .i64 o, .bool false] 28)) (w2.heap.size) [.string u, .int .i64 o, .bool false] ∧ Below w.heap.size w (w2.alloc (.cells #[.string u, .int .i64 o, .bool false] 28))) := ⟨Bk.new3 w2 (.string u) (.int .i64 o) (.bool false) 28, (F2.out).alloc ((F2.out).size) _⟩
 clear F2
 go_upto_region 6 with fail
 generalize (w2.alloc (.cells #[.string u, .int .i64 o, .bool false] 28)) = w3 at *
 go_wp2_with fail
 all_goals first | (exfalso; omega) | skip
 refine (HB _).mono ?_
 rintro o4 w4 ⟨rfl, bb⟩
 have F4 : Hid (Bk w4 (w2.heap.size) [.string u, .int .i64 o, .bool false] ∧ Below w.heap.size w w4) := ⟨(F3.out.1).step bb, (F3.out.2).trans (bb.mono (F3.out.2).size)⟩
 clear F3
 clear bb
 have lt0_1 := (F4.out.1).lt
 have le1 := (F4.out.2).size
 have F5 : Hid (Bk ((w4.alloc (.cells #[.string s, .int .i64 p, .bool false] 28)).alloc (.cells #[.string t, .int .i64 q, .bool false] 28)) (w2.heap.size) [.string u, .int .i64 o, .bool false] ∧ Bk ((w4.alloc (.cells #[.string s, .int .i64 p, .bool false] 28)).alloc (.cells #[.string t, .int .i64 q, .bool false] 28)) (w4.heap.size) [.string s, .int .i64 p, .bool false] ∧ Bk ((w4.alloc (.cells #[.string s, .int .i64 p, .bool false] 28)).alloc (.cells #[.string t, .int .i64 q, .bool false] 28)) (w4.heap.size + 1) [.string t, .int .i64 q, .bool false] ∧ Below w.heap.size w ((w4.alloc (.cells #[.string s, .int .i64 p, .bool false] 28)).alloc (.cells #[.string t, .int .i64 q, .bool false] 28))) := ⟨((F4.out.1).step ((Below.refl _ _).alloc (Nat.le_refl _) _)).step ((Below.refl _ _).alloc (Nat.le_refl _) _), (Bk.new3 w4 (.string s) (.int .i64 p) (.bool false) 28).step ((Below.refl _ _).alloc (Nat.le_refl _) _), ((by have q := Bk.new3 (w4.alloc (.cells #[.string s, .int .i64 p, .bool false] 28)) (.string t) (.int .i64 q) (.bool false) 28; simpa using q) : Bk ((w4.alloc (.cells #[.string s, .int .i64 p, .bool false] 28)).alloc (.cells #[.string t, .int .i64 q, .bool false] 28)) (w4.heap.size + 1) [.string t, .int .i64 q, .bool false]), ((F4.out.2).alloc ((F4.out.2).size) _).alloc (((F4.out.2).alloc ((F4.out.2).size) _).size) _⟩
 clear F4
 go_upto_region 7 with fail
 generalize ((w4.alloc (.cells #[.string s, .int .i64 p, .bool false] 28)).alloc (.cells #[.string t, .int .i64 q, .bool false] 28)) = w5 at *
 have l1_0 := F5.out.1.lt
 have a1_0_0 := F5.out.1.cell 0 _ rfl
 have a1_0_1 := F5.out.1.cell 1 _ rfl
 have a1_0_2 := F5.out.1.cell 2 _ rfl
 have l1_1 := F5.out.2.1.lt
 have a1_1_0 := F5.out.2.1.cell 0 _ rfl
 have a1_1_1 := F5.out.2.1.cell 1 _ rfl
 have a1_1_2 := F5.out.2.1.cell 2 _ rfl
 have l1_2 := F5.out.2.2.1.lt
 have a1_2_0 := F5.out.2.2.1.cell 0 _ rfl
 have a1_2_1 := F5.out.2.2.1.cell 1 _ rfl
 have a1_2_2 := F5.out.2.2.1.cell 2 _ rfl
 go_wp2_with fail
 all_goals first | (exfalso; omega) | skip
 refine (HI _).mono ?_
 rintro o6 w6 ⟨rfl, bb⟩
 have F6 : Hid (Bk w6 (w2.heap.size) [.string u, .int .i64 o, .bool false] ∧ Bk w6 (w4.heap.size) [.string s, .int .i64 p, .bool false] ∧ Bk w6 (w4.heap.size + 1) [.string t, .int .i64 q, .bool false] ∧ Below w.heap.size w w6) := ⟨(F5.out.1).step bb, (F5.out.2.1).step bb, (F5.out.2.2.1).step bb, (F5.out.2.2.2).trans (bb.mono (F5.out.2.2.2).size)⟩
 clear F5
 clear bb
 clear l1_0 a1_0_0 a1_0_1 a1_0_2 l1_1 a1_1_0 a1_1_1 a1_1_2 l1_2 a1_2_0 a1_2_1 a1_2_2
 go_wp2_with fail
 all_goals first | (exfalso; omega) | skip
 refine (HT _).mono ?_
 rintro o7 w7 ⟨rfl, bb⟩
 have F7 : Hid (Bk w7 (w2.heap.size) [.string u, .int .i64 o, .bool false] ∧ Bk w7 (w4.heap.size) [.string s, .int .i64 p, .bool false] ∧ Bk w7 (w4.heap.size + 1) [.string t, .int .i64 q, .bool false] ∧ Below w.heap.size w w7) := ⟨(F6.out.1).step bb, (F6.out.2.1).step bb, (F6.out.2.2.1).step bb, (F6.out.2.2.2).trans (bb.mono (F6.out.2.2.2).size)⟩
 clear F6
 clear bb
 go_wp2_with fail
 all_goals first | (exfalso; omega) | skip
 refine (HP _).mono ?_
 rintro o8 w8 ⟨rfl, bb⟩
 have F8 : Hid (Bk w8 (w2.heap.size) [.string u, .int .i64 o, .bool false] ∧ Bk w8 (w4.heap.size) [.string s, .int .i64 p, .bool false] ∧ Bk w8 (w4.heap.size + 1) [.string t, .int .i64 q, .bool false] ∧ Below w.heap.size w w8) := ⟨(F7.out.1).step bb, (F7.out.2.1).step bb, (F7.out.2.2.1).step bb, (F7.out.2.2.2).trans (bb.mono (F7.out.2.2.2).size)⟩
 clear F7
 clear bb
 go_wp2_with fail
 all_goals first | (exfalso; omega) | skip
 refine (HBP _).mono ?_
 rintro o9 w9 ⟨rfl, bb⟩
 have F9 : Hid (Bk w9 (w2.heap.size) [.string u, .int .i64 o, .bool false] ∧ Bk w9 (w4.heap.size) [.string s, .int .i64 p, .bool false] ∧ Bk w9 (w4.heap.size + 1) [.string t, .int .i64 q, .bool false] ∧ Below w.heap.size w w9) := ⟨(F8.out.1).step bb, (F8.out.2.1).step bb, (F8.out.2.2.1).step bb, (F8.out.2.2.2).trans (bb.mono (F8.out.2.2.2).size)⟩
 clear F8
 clear bb
 have lt0_3 := (F9.out.1).lt
 have lt1_3 := (F9.out.2.1).lt
 have lt2_3 := (F9.out.2.2.1).lt
 have le3 := (F9.out.2.2.2).size
 have F10 : Hid (Bk ((w9.alloc (.cells #[.string s2, .int .i64 p2, .bool false] 28)).alloc (.cells #[.string s, .int .i64 p, .bool false] 28)) (w2.heap.size) [.string u, .int .i64 o, .bool false] ∧ Bk ((w9.alloc (.cells #[.string s2, .int .i64 p2, .bool false] 28)).alloc (.cells #[.string s, .int .i64 p, .bool false] 28)) (w4.heap.size) [.string s, .int .i64 p, .bool false] ∧ Bk ((w9.alloc (.cells #[.string s2, .int .i64 p2, .bool false] 28)).alloc (.cells #[.string s, .int .i64 p, .bool false] 28)) (w4.heap.size + 1) [.string t, .int .i64 q, .bool false] ∧ Bk ((w9.alloc (.cells #[.string s2, .int .i64 p2, .bool false] 28)).alloc (.cells #[.string s, .int .i64 p, .bool false] 28)) (w9.heap.size) [.string s2, .int .i64 p2, .bool false] ∧ Bk ((w9.alloc (.cells #[.string s2, .int .i64 p2, .bool false] 28)).alloc (.cells #[.string s, .int .i64 p, .bool false] 28)) (w9.heap.size + 1) [.string s, .int .i64 p, .bool false] ∧ Below w.heap.size w ((w9.alloc (.cells #[.string s2, .int .i64 p2, .bool false] 28)).alloc (.cells #[.string s, .int .i64 p, .bool false] 28))) := ⟨((F9.out.1).step ((Below.refl _ _).alloc (Nat.le_refl _) _)).step ((Below.refl _ _).alloc (Nat.le_refl _) _), ((F9.out.2.1).step ((Below.refl _ _).alloc (Nat.le_refl _) _)).step ((Below.refl _ _).alloc (Nat.le_refl _) _), ((F9.out.2.2.1).step ((Below.refl _ _).alloc (Nat.le_refl _) _)).step ((Below.refl _ _).alloc (Nat.le_refl _) _), (Bk.new3 w9 (.string s2) (.int .i64 p2) (.bool false) 28).step ((Below.refl _ _).alloc (Nat.le_refl _) _), ((by have q := Bk.new3 (w9.alloc (.cells #[.string s2, .int .i64 p2, .bool false] 28)) (.string s) (.int .i64 p) (.bool false) 28; simpa using q) : Bk ((w9.alloc (.cells #[.string s2, .int .i64 p2, .bool false] 28)).alloc (.cells #[.string s, .int .i64 p, .bool false] 28)) (w9.heap.size + 1) [.string s, .int .i64 p, .bool false]), ((F9.out.2.2.2).alloc ((F9.out.2.2.2).size) _).alloc (((F9.out.2.2.2).alloc ((F9.out.2.2.2).size) _).size) _⟩
 clear F9
 go_upto_region 19 with fail
 generalize ((w9.alloc (.cells #[.string s2, .int .i64 p2, .bool false] 28)).alloc (.cells #[.string s, .int .i64 p, .bool false] 28)) = w10 at *
 have l2_0 := F10.out.1.lt
 have a2_0_0 := F10.out.1.cell 0 _ rfl
 have a2_0_1 := F10.out.1.cell 1 _ rfl
 have a2_0_2 := F10.out.1.cell 2 _ rfl
 have l2_1 := F10.out.2.1.lt
 have a2_1_0 := F10.out.2.1.cell 0 _ rfl
 have a2_1_1 := F10.out.2.1.cell 1 _ rfl
 have a2_1_2 := F10.out.2.1.cell 2 _ rfl
 have l2_2 := F10.out.2.2.1.lt
 have a2_2_0 := F10.out.2.2.1.cell 0 _ rfl
 have a2_2_1 := F10.out.2.2.1.cell 1 _ rfl
 have a2_2_2 := F10.out.2.2.1.cell 2 _ rfl
 have l2_3 := F10.out.2.2.2.1.lt
 have a2_3_0 := F10.out.2.2.2.1.cell 0 _ rfl
 have a2_3_1 := F10.out.2.2.2.1.cell 1 _ rfl
 have a2_3_2 := F10.out.2.2.2.1.cell 2 _ rfl
 have l2_4 := F10.out.2.2.2.2.1.lt
 have a2_4_0 := F10.out.2.2.2.2.1.cell 0 _ rfl
 have a2_4_1 := F10.out.2.2.2.2.1.cell 1 _ rfl
 have a2_4_2 := F10.out.2.2.2.2.1.cell 2 _ rfl
 go_wp2_with fail
 all_goals first | (exfalso; omega) | skip
 refine (HIP _).mono ?_
 rintro o11 w11 ⟨rfl, bb⟩
 have F11 : Hid (Bk w11 (w2.heap.size) [.string u, .int .i64 o, .bool false] ∧ Bk w11 (w4.heap.size) [.string s, .int .i64 p, .bool false] ∧ Bk w11 (w4.heap.size + 1) [.string t, .int .i64 q, .bool false] ∧ Bk w11 (w9.heap.size) [.string s2, .int .i64 p2, .bool false] ∧ Bk w11 (w9.heap.size + 1) [.string s, .int .i64 p, .bool false] ∧ Below w.heap.size w w11) := ⟨(F10.out.1).step bb, (F10.out.2.1).step bb, (F10.out.2.2.1).step bb, (F10.out.2.2.2.1).step bb, (F10.out.2.2.2.2.1).step bb, (F10.out.2.2.2.2.2).trans (bb.mono (F10.out.2.2.2.2.2).size)⟩
 clear F10
 clear bb
 clear l2_0 a2_0_0 a2_0_1 a2_0_2 l2_1 a2_1_0 a2_1_1 a2_1_2 l2_2 a2_2_0 a2_2_1 a2_2_2 l2_3 a2_3_0 a2_3_1 a2_3_2 l2_4 a2_4_0 a2_4_1 a2_4_2
 have l3_0 := F11.out.1.lt
 have a3_0_0 := F11.out.1.cell 0 _ rfl
 have a3_0_1 := F11.out.1.cell 1 _ rfl
 have a3_0_2 := F11.out.1.cell 2 _ rfl
 have l3_1 := F11.out.2.1.lt
 have a3_1_0 := F11.out.2.1.cell 0 _ rfl
 have a3_1_1 := F11.out.2.1.cell 1 _ rfl
 have a3_1_2 := F11.out.2.1.cell 2 _ rfl
 have l3_2 := F11.out.2.2.1.lt
 have a3_2_0 := F11.out.2.2.1.cell 0 _ rfl
 have a3_2_1 := F11.out.2.2.1.cell 1 _ rfl
 have a3_2_2 := F11.out.2.2.1.cell 2 _ rfl
 have l3_3 := F11.out.2.2.2.1.lt
 have a3_3_0 := F11.out.2.2.2.1.cell 0 _ rfl
 have a3_3_1 := F11.out.2.2.2.1.cell 1 _ rfl
 have a3_3_2 := F11.out.2.2.2.1.cell 2 _ rfl
 have l3_4 := F11.out.2.2.2.2.1.lt
 have a3_4_0 := F11.out.2.2.2.2.1.cell 0 _ rfl
 have a3_4_1 := F11.out.2.2.2.2.1.cell 1 _ rfl
 have a3_4_2 := F11.out.2.2.2.2.1.cell 2 _ rfl
 go_wp2_with fail
 all_goals first | (exfalso; omega) | skip
 refine (HN _).mono ?_
 rintro o12 w12 ⟨rfl, bb⟩
 have F12 : Hid (Bk w12 (w2.heap.size) [.string u, .int .i64 o, .bool false] ∧ Bk w12 (w4.heap.size) [.string s, .int .i64 p, .bool false] ∧ Bk w12 (w4.heap.size + 1) [.string t, .int .i64 q, .bool false] ∧ Bk w12 (w9.heap.size) [.string s2, .int .i64 p2, .bool false] ∧ Bk w12 (w9.heap.size + 1) [.string s, .int .i64 p, .bool false] ∧ Below w.heap.size w w12) := ⟨(F11.out.1).step bb, (F11.out.2.1).step bb, (F11.out.2.2.1).step bb, (F11.out.2.2.2.1).step bb, (F11.out.2.2.2.2.1).step bb, (F11.out.2.2.2.2.2).trans (bb.mono (F11.out.2.2.2.2.2).size)⟩
 clear F11
 clear bb
 clear l3_0 a3_0_0 a3_0_1 a3_0_2 l3_1 a3_1_0 a3_1_1 a3_1_2 l3_2 a3_2_0 a3_2_1 a3_2_2 l3_3 a3_3_0 a3_3_1 a3_3_2 l3_4 a3_4_0 a3_4_1 a3_4_2
 go_wp2_with fail
 all_goals first | (exfalso; omega) | skip
 refine (HCN _).mono ?_
 rintro o13 w13 ⟨rfl, bb⟩
 have F13 : Hid (Bk w13 (w2.heap.size) [.string u, .int .i64 o, .bool false] ∧ Bk w13 (w4.heap.size) [.string s, .int .i64 p, .bool false] ∧ Bk w13 (w4.heap.size + 1) [.string t, .int .i64 q, .bool false] ∧ Bk w13 (w9.heap.size) [.string s2, .int .i64 p2, .bool false] ∧ Bk w13 (w9.heap.size + 1) [.string s, .int .i64 p, .bool false] ∧ Below w.heap.size w w13) := ⟨(F12.out.1).step bb, (F12.out.2.1).step bb, (F12.out.2.2.1).step bb, (F12.out.2.2.2.1).step bb, (F12.out.2.2.2.2.1).step bb, (F12.out.2.2.2.2.2).trans (bb.mono (F12.out.2.2.2.2.2).size)⟩
 clear F12
 clear bb
 go_wp2_with fail
 all_goals first | (exfalso; omega) | skip
 refine (HBN _).mono ?_
 rintro o14 w14 ⟨rfl, bb⟩
 have F14 : Hid (Bk w14 (w2.heap.size) [.string u, .int .i64 o, .bool false] ∧ Bk w14 (w4.heap.size) [.string s, .int .i64 p, .bool false] ∧ Bk w14 (w4.heap.size + 1) [.string t, .int .i64 q, .bool false] ∧ Bk w14 (w9.heap.size) [.string s2, .int .i64 p2, .bool false] ∧ Bk w14 (w9.heap.size + 1) [.string s, .int .i64 p, .bool false] ∧ Below w.heap.size w w14) := ⟨(F13.out.1).step bb, (F13.out.2.1).step bb, (F13.out.2.2.1).step bb, (F13.out.2.2.2.1).step bb, (F13.out.2.2.2.2.1).step bb, (F13.out.2.2.2.2.2).trans (bb.mono (F13.out.2.2.2.2.2).size)⟩
 clear F13
 clear bb
 have lt0_5 := (F14.out.1).lt
 have lt1_5 := (F14.out.2.1).lt
 have lt2_5 := (F14.out.2.2.1).lt
 have lt3_5 := (F14.out.2.2.2.1).lt
 have lt4_5 := (F14.out.2.2.2.2.1).lt
 have le5 := (F14.out.2.2.2.2.2).size
 have F15 : Hid (Bk ((w14.alloc (.cells #[.string t, .int .i64 q, .bool false] 28)).alloc (.cells #[.string t2, .int .i64 q2, .bool false] 28)) (w2.heap.size) [.string u, .int .i64 o, .bool false] ∧ Bk ((w14.alloc (.cells #[.string t, .int .i64 q, .bool false] 28)).alloc (.cells #[.string t2, .int .i64 q2, .bool false] 28)) (w4.heap.size) [.string s, .int .i64 p, .bool false] ∧ Bk ((w14.alloc (.cells #[.string t, .int .i64 q, .bool false] 28)).alloc (.cells #[.string t2, .int .i64 q2, .bool false] 28)) (w4.heap.size + 1) [.string t, .int .i64 q, .bool false] ∧ Bk ((w14.alloc (.cells #[.string t, .int .i64 q, .bool false] 28)).alloc (.cells #[.string t2, .int .i64 q2, .bool false] 28)) (w9.heap.size) [.string s2, .int .i64 p2, .bool false] ∧ Bk ((w14.alloc (.cells #[.string t, .int .i64 q, .bool false] 28)).alloc (.cells #[.string t2, .int .i64 q2, .bool false] 28)) (w9.heap.size + 1) [.string s, .int .i64 p, .bool false] ∧ Bk ((w14.alloc (.cells #[.string t, .int .i64 q, .bool false] 28)).alloc (.cells #[.string t2, .int .i64 q2, .bool false] 28)) (w14.heap.size) [.string t, .int .i64 q, .bool false] ∧ Bk ((w14.alloc (.cells #[.string t, .int .i64 q, .bool false] 28)).alloc (.cells #[.string t2, .int .i64 q2, .bool false] 28)) (w14.heap.size + 1) [.string t2, .int .i64 q2, .bool false] ∧ Below w.heap.size w ((w14.alloc (.cells #[.string t, .int .i64 q, .bool false] 28)).alloc (.cells #[.string t2, .int .i64 q2, .bool false] 28))) := ⟨((F14.out.1).step ((Below.refl _ _).alloc (Nat.le_refl _) _)).step ((Below.refl _ _).alloc (Nat.le_refl _) _), ((F14.out.2.1).step ((Below.refl _ _).alloc (Nat.le_refl _) _)).step ((Below.refl _ _).alloc (Nat.le_refl _) _), ((F14.out.2.2.1).step ((Below.refl _ _).alloc (Nat.le_refl _) _)).step ((Below.refl _ _).alloc (Nat.le_refl _) _), ((F14.out.2.2.2.1).step ((Below.refl _ _).alloc (Nat.le_refl _) _)).step ((Below.refl _ _).alloc (Nat.le_refl _) _), ((F14.out.2.2.2.2.1).step ((Below.refl _ _).alloc (Nat.le_refl _) _)).step ((Below.refl _ _).alloc (Nat.le_refl _) _), (Bk.new3 w14 (.string t) (.int .i64 q) (.bool false) 28).step ((Below.refl _ _).alloc (Nat.le_refl _) _), ((by have q := Bk.new3 (w14.alloc (.cells #[.string t, .int .i64 q, .bool false] 28)) (.string t2) (.int .i64 q2) (.bool false) 28; simpa using q) : Bk ((w14.alloc (.cells #[.string t, .int .i64 q, .bool false] 28)).alloc (.cells #[.string t2, .int .i64 q2, .bool false] 28)) (w14.heap.size + 1) [.string t2, .int .i64 q2, .bool false]), ((F14.out.2.2.2.2.2).alloc ((F14.out.2.2.2.2.2).size) _).alloc (((F14.out.2.2.2.2.2).alloc ((F14.out.2.2.2.2.2).size) _).size) _⟩
 clear F14
 go_upto_region 29 with fail
 generalize ((w14.alloc (.cells #[.string t, .int .i64 q, .bool false] 28)).alloc (.cells #[.string t2, .int .i64 q2, .bool false] 28)) = w15 at *
 have l4_0 := F15.out.1.lt
 have a4_0_0 := F15.out.1.cell 0 _ rfl
 have a4_0_1 := F15.out.1.cell 1 _ rfl
 have a4_0_2 := F15.out.1.cell 2 _ rfl
 have l4_1 := F15.out.2.1.lt
 have a4_1_0 := F15.out.2.1.cell 0 _ rfl
 have a4_1_1 := F15.out.2.1.cell 1 _ rfl
 have a4_1_2 := F15.out.2.1.cell 2 _ rfl
 have l4_2 := F15.out.2.2.1.lt
 have a4_2_0 := F15.out.2.2.1.cell 0 _ rfl
 have a4_2_1 := F15.out.2.2.1.cell 1 _ rfl
 have a4_2_2 := F15.out.2.2.1.cell 2 _ rfl
 have l4_3 := F15.out.2.2.2.1.lt
 have a4_3_0 := F15.out.2.2.2.1.cell 0 _ rfl
 have a4_3_1 := F15.out.2.2.2.1.cell 1 _ rfl
 have a4_3_2 := F15.out.2.2.2.1.cell 2 _ rfl
 have l4_4 := F15.out.2.2.2.2.1.lt
 have a4_4_0 := F15.out.2.2.2.2.1.cell 0 _ rfl
 have a4_4_1 := F15.out.2.2.2.2.1.cell 1 _ rfl
 have a4_4_2 := F15.out.2.2.2.2.1.cell 2 _ rfl
 have l4_5 := F15.out.2.2.2.2.2.1.lt
 have a4_5_0 := F15.out.2.2.2.2.2.1.cell 0 _ rfl
 have a4_5_1 := F15.out.2.2.2.2.2.1.cell 1 _ rfl
 have a4_5_2 := F15.out.2.2.2.2.2.1.cell 2 _ rfl
 have l4_6 := F15.out.2.2.2.2.2.2.1.lt
 have a4_6_0 := F15.out.2.2.2.2.2.2.1.cell 0 _ rfl
 have a4_6_1 := F15.out.2.2.2.2.2.2.1.cell 1 _ rfl
 have a4_6_2 := F15.out.2.2.2.2.2.2.1.cell 2 _ rfl
 go_wp2_with fail
 all_goals first | (exfalso; omega) | skip
 refine (HIH _).mono ?_
 rintro o16 w16 ⟨rfl, bb⟩
 have F16 : Hid (Bk w16 (w2.heap.size) [.string u, .int .i64 o, .bool false] ∧ Bk w16 (w4.heap.size) [.string s, .int .i64 p, .bool false] ∧ Bk w16 (w4.heap.size + 1) [.string t, .int .i64 q, .bool false] ∧ Bk w16 (w9.heap.size) [.string s2, .int .i64 p2, .bool false] ∧ Bk w16 (w9.heap.size + 1) [.string s, .int .i64 p, .bool false] ∧ Bk w16 (w14.heap.size) [.string t, .int .i64 q, .bool false] ∧ Bk w16 (w14.heap.size + 1) [.string t2, .int .i64 q2, .bool false] ∧ Below w.heap.size w w16) := ⟨(F15.out.1).step bb, (F15.out.2.1).step bb, (F15.out.2.2.1).step bb, (F15.out.2.2.2.1).step bb, (F15.out.2.2.2.2.1).step bb, (F15.out.2.2.2.2.2.1).step bb, (F15.out.2.2.2.2.2.2.1).step bb, (F15.out.2.2.2.2.2.2.2).trans (bb.mono (F15.out.2.2.2.2.2.2.2).size)⟩
 clear F15
 clear bb
 clear l4_0 a4_0_0 a4_0_1 a4_0_2 l4_1 a4_1_0 a4_1_1 a4_1_2 l4_2 a4_2_0 a4_2_1 a4_2_2 l4_3 a4_3_0 a4_3_1 a4_3_2 l4_4 a4_4_0 a4_4_1 a4_4_2 l4_5 a4_5_0 a4_5_1 a4_5_2 l4_6 a4_6_0 a4_6_1 a4_6_2
 have l5_0 := F16.out.1.lt
 have a5_0_0 := F16.out.1.cell 0 _ rfl
 have a5_0_1 := F16.out.1.cell 1 _ rfl
 have a5_0_2 := F16.out.1.cell 2 _ rfl
 have l5_1 := F16.out.2.1.lt
 have a5_1_0 := F16.out.2.1.cell 0 _ rfl
 have a5_1_1 := F16.out.2.1.cell 1 _ rfl
 have a5_1_2 := F16.out.2.1.cell 2 _ rfl
 have l5_2 := F16.out.2.2.1.lt
 have a5_2_0 := F16.out.2.2.1.cell 0 _ rfl
 have a5_2_1 := F16.out.2.2.1.cell 1 _ rfl
 have a5_2_2 := F16.out.2.2.1.cell 2 _ rfl
 have l5_3 := F16.out.2.2.2.1.lt
 have a5_3_0 := F16.out.2.2.2.1.cell 0 _ rfl
 have a5_3_1 := F16.out.2.2.2.1.cell 1 _ rfl
 have a5_3_2 := F16.out.2.2.2.1.cell 2 _ rfl
 have l5_4 := F16.out.2.2.2.2.1.lt
 have a5_4_0 := F16.out.2.2.2.2.1.cell 0 _ rfl
 have a5_4_1 := F16.out.2.2.2.2.1.cell 1 _ rfl
 have a5_4_2 := F16.out.2.2.2.2.1.cell 2 _ rfl
 have l5_5 := F16.out.2.2.2.2.2.1.lt
 have a5_5_0 := F16.out.2.2.2.2.2.1.cell 0 _ rfl
 have a5_5_1 := F16.out.2.2.2.2.2.1.cell 1 _ rfl
 have a5_5_2 := F16.out.2.2.2.2.2.1.cell 2 _ rfl
 have l5_6 := F16.out.2.2.2.2.2.2.1.lt
 have a5_6_0 := F16.out.2.2.2.2.2.2.1.cell 0 _ rfl
 have a5_6_1 := F16.out.2.2.2.2.2.2.1.cell 1 _ rfl
 have a5_6_2 := F16.out.2.2.2.2.2.2.1.cell 2 _ rfl
 go_wp2_with fail
 all_goals first | (exfalso; omega) | skip
 refine (HCM _).mono ?_
 rintro o17 w17 ⟨rfl, bb⟩
 have F17 : Hid (Bk w17 (w2.heap.size) [.string u, .int .i64 o, .bool false] ∧ Bk w17 (w4.heap.size) [.string s, .int .i64 p, .bool false] ∧ Bk w17 (w4.heap.size + 1) [.string t, .int .i64 q, .bool false] ∧ Bk w17 (w9.heap.size) [.string s2, .int .i64 p2, .bool false] ∧ Bk w17 (w9.heap.size + 1) [.string s, .int .i64 p, .bool false] ∧ Bk w17 (w14.heap.size) [.string t, .int .i64 q, .bool false] ∧ Bk w17 (w14.heap.size + 1) [.string t2, .int .i64 q2, .bool false] ∧ Below w.heap.size w w17) := ⟨(F16.out.1).step bb, (F16.out.2.1).step bb, (F16.out.2.2.1).step bb, (F16.out.2.2.2.1).step bb, (F16.out.2.2.2.2.1).step bb, (F16.out.2.2.2.2.2.1).step bb, (F16.out.2.2.2.2.2.2.1).step bb, (F16.out.2.2.2.2.2.2.2).trans (bb.mono (F16.out.2.2.2.2.2.2.2).size)⟩
 clear F16
 clear bb
 clear l5_0 a5_0_0 a5_0_1 a5_0_2 l5_1 a5_1_0 a5_1_1 a5_1_2 l5_2 a5_2_0 a5_2_1 a5_2_2 l5_3 a5_3_0 a5_3_1 a5_3_2 l5_4 a5_4_0 a5_4_1 a5_4_2 l5_5 a5_5_0 a5_5_1 a5_5_2 l5_6 a5_6_0 a5_6_1 a5_6_2
 have l6_0 := F17.out.1.lt
 have a6_0_0 := F17.out.1.cell 0 _ rfl
 have a6_0_1 := F17.out.1.cell 1 _ rfl
 have a6_0_2 := F17.out.1.cell 2 _ rfl
 have l6_1 := F17.out.2.1.lt
 have a6_1_0 := F17.out.2.1.cell 0 _ rfl
 have a6_1_1 := F17.out.2.1.cell 1 _ rfl
 have a6_1_2 := F17.out.2.1.cell 2 _ rfl
 have l6_2 := F17.out.2.2.1.lt
 have a6_2_0 := F17.out.2.2.1.cell 0 _ rfl
 have a6_2_1 := F17.out.2.2.1.cell 1 _ rfl
 have a6_2_2 := F17.out.2.2.1.cell 2 _ rfl
 have l6_3 := F17.out.2.2.2.1.lt
 have a6_3_0 := F17.out.2.2.2.1.cell 0 _ rfl
 have a6_3_1 := F17.out.2.2.2.1.cell 1 _ rfl
 have a6_3_2 := F17.out.2.2.2.1.cell 2 _ rfl
 have l6_4 := F17.out.2.2.2.2.1.lt
 have a6_4_0 := F17.out.2.2.2.2.1.cell 0 _ rfl
 have a6_4_1 := F17.out.2.2.2.2.1.cell 1 _ rfl
 have a6_4_2 := F17.out.2.2.2.2.1.cell 2 _ rfl
 have l6_5 := F17.out.2.2.2.2.2.1.lt
 have a6_5_0 := F17.out.2.2.2.2.2.1.cell 0 _ rfl
 have a6_5_1 := F17.out.2.2.2.2.2.1.cell 1 _ rfl
 have a6_5_2 := F17.out.2.2.2.2.2.1.cell 2 _ rfl
 have l6_6 := F17.out.2.2.2.2.2.2.1.lt
 have a6_6_0 := F17.out.2.2.2.2.2.2.1.cell 0 _ rfl
 have a6_6_1 := F17.out.2.2.2.2.2.2.1.cell 1 _ rfl
 have a6_6_2 := F17.out.2.2.2.2.2.2.1.cell 2 _ rfl
 go_wp2_with fail
 all_goals first | (exfalso; omega) | skip
 refine (sure19 _).mono ?_
 rintro o18 w18 ⟨rfl, bb⟩
 have F18 : Hid (Bk w18 (w2.heap.size) [.string u, .int .i64 o, .bool false] ∧ Bk w18 (w4.heap.size) [.string s, .int .i64 p, .bool false] ∧ Bk w18 (w4.heap.size + 1) [.string t, .int .i64 q, .bool false] ∧ Bk w18 (w9.heap.size) [.string s2, .int .i64 p2, .bool false] ∧ Bk w18 (w9.heap.size + 1) [.string s, .int .i64 p, .bool false] ∧ Bk w18 (w14.heap.size) [.string t, .int .i64 q, .bool false] ∧ Bk w18 (w14.heap.size + 1) [.string t2, .int .i64 q2, .bool false] ∧ Below w.heap.size w w18) := ⟨(F17.out.1).step bb, (F17.out.2.1).step bb, (F17.out.2.2.1).step bb, (F17.out.2.2.2.1).step bb, (F17.out.2.2.2.2.1).step bb, (F17.out.2.2.2.2.2.1).step bb, (F17.out.2.2.2.2.2.2.1).step bb, (F17.out.2.2.2.2.2.2.2).trans (bb.mono (F17.out.2.2.2.2.2.2.2).size)⟩
 clear F17
 clear bb
 go_wp2
 go_ret
 exact ⟨rfl, F18.out.2.2.2.2.2.2.2⟩
theorem ap_end3 {b b1 b2 : Nat} {z : Int} {u s t s2 : ByteArray} {o p q p2 : Int} (eb : (bits BinOp.and IntKind.u64 (b : Int) 1 == 0) = false) (ez : (z == 32) = false) (HC : ∀ W, Calls Tryd.prog 4 #[.int .u64 (b : Int), .int .i64 z] W fun e w' => e = .returned (.tuple #[.int .i64 2, .nilIface]) ∧ Below W.heap.size W w') (HE : ∀ W, Calls Tryd.prog 5 #[.int .u64 (b : Int), .int .i64 z] W fun e w' => e = .returned (.tuple #[.agg #[.string u, .int .i64 o, .bool false], .nilIface]) ∧ Below W.heap.size W w') (HB : ∀ W, Calls Tryd.prog 7 #[.int .u64 (b : Int), .int .i64 z] W fun e w' => e = .returned (.tuple #[.agg #[.string s, .int .i64 p, .bool false], .agg #[.string t, .int .i64 q, .bool false], .bool false, .nilIface]) ∧ Below W.heap.size W w') (HI : ∀ W, Calls Tryd.prog 8 #[.agg #[.string u, .int .i64 o, .bool false], .int .u64 (b : Int), .int .i64 z] W fun e w' => e = .returned (.tuple #[.bool true, .nilIface]) ∧ Below W.heap.size W w') (HT : ∀ W, Calls Tryd.prog 9 #[.int .u64 (b : Int), .int .i64 z, .int .i64 17] W fun e w' => e = .returned (.tuple #[.bool true, .nilIface]) ∧ Below W.heap.size W w') (HP : ∀ W, Calls Tryd.prog 10 #[.int .u64 (b : Int), .int .i64 z] W fun e w' => e = .returned (.tuple #[.int .u64 (b1 : Int), .nilIface]) ∧ Below W.heap.size W w') (HBP : ∀ W, Calls Tryd.prog 7 #[.int .u64 (b1 : Int), .int .i64 z] W fun e w' => e = .returned (.tuple #[.agg #[.string s2, .int .i64 p2, .bool false], .agg #[.string s, .int .i64 p, .bool false], .bool true, .nilIface]) ∧ Below W.heap.size W w') (HIP : ∀ W, Calls Tryd.prog 8 #[.agg #[.string u, .int .i64 o, .bool false], .int .u64 (b1 : Int), .int .i64 z] W fun e w' => e = .returned (.tuple #[.bool false, .nilIface]) ∧ Below W.heap.size W w') (HN : ∀ W, Calls Tryd.prog 11 #[.int .u64 (b : Int), .int .i64 z] W fun e w' => e = .returned (.tuple #[.int .u64 (b2 : Int), .nilIface]) ∧ Below W.heap.size W w') (HCN : ∀ W, Calls Tryd.prog 4 #[.int .u64 (b2 : Int), .int .i64 z] W fun e w' => e = .returned (.tuple #[.int .i64 3, .nilIface]) ∧ Below W.heap.size W w') (w : World) :
 Calls Tryd.prog 3 #[.int .u64 (b : Int), .int .i64 z] w fun x w' => x = .returned (.bool true) ∧ Below w.heap.size w w' := by
 have F0 : Hid (Below w.heap.size w w) := Below.refl _ _
 go_enter Tryd.func3, Tryd.ntmps3
 go_wp2_with fail
 all_goals first | (exfalso; omega) | skip
 refine (HC _).mono ?_
 rintro o1 w1 ⟨rfl, bb⟩
 have F1 : Hid (Below w.heap.size w w1) := (F0.out).trans (bb.mono (F0.out).size)
 clear F0
 clear bb
 go_wp2_with fail
 all_goals first | (exfalso; omega) | skip
 refine (HE _).mono ?_
 rintro o2 w2 ⟨rfl, bb⟩
 have F2 : Hid (Below w.heap.size w w2) := (F1.out).trans (bb.mono (F1.out).size)
 clear F1
 clear bb
 have le0 := (F2.out).size
 have F3 : Hid (Bk (w2.alloc (.cells #[.string u, .int .i64 o, .bool false] 28)) (w2.heap.size) [.string u, .int .i64 o, .bool false] ∧ Below w.heap.size w (w2.alloc (.cells #[.string u, .int .i64 o, .bool false] 28))) := ⟨Bk.new3 w2 (.string u) (.int .i64 o) (.bool false) 28, (F2.out).alloc ((F2.out).size) _⟩
 clear F2
 go_upto_region 6 with fail
 generalize (w2.alloc (.cells #[.string u, .int .i64 o, .bool false] 28)) = w3 at *
 go_wp2_with fail
 all_goals first | (exfalso; omega) | skip
 refine (HB _).mono ?_
 rintro o4 w4 ⟨rfl, bb⟩
 have F4 : Hid (Bk w4 (w2.heap.size) [.string u, .int .i64 o, .bool false] ∧ Below w.heap.size w w4) := ⟨(F3.out.1).step bb, (F3.out.2).trans (bb.mono (F3.out.2).size)⟩
 clear F3
 clear bb
 have lt0_1 := (F4.out.1).lt
 have le1 := (F4.out.2).size
 have F5 : Hid (Bk ((w4.alloc (.cells #[.string s, .int .i64 p, .bool false] 28)).alloc (.cells #[.string t, .int .i64 q, .bool false] 28)) (w2.heap.size) [.string u, .int .i64 o, .bool false] ∧ Bk ((w4.alloc (.cells #[.string s, .int .i64 p, .bool false] 28)).alloc (.cells #[.string t, .int .i64 q, .bool false] 28)) (w4.heap.size) [.string s, .int .i64 p, .bool false] ∧ Bk ((w4.alloc (.cells #[.string s, .int .i64 p, .bool false] 28)).alloc (.cells #[.string t, .int .i64 q, .bool false] 28)) (w4.heap.size + 1) [.string t, .int .i64 q, .bool false] ∧ Below w.heap.size w ((w4.alloc (.cells #[.string s, .int .i64 p, .bool false] 28)).alloc (.cells #[.string t, .int .i64 q, .bool false] 28))) := ⟨((F4.out.1).step ((Below.refl _ _).alloc (Nat.le_refl _) _)).step ((Below.refl _ _).alloc (Nat.le_refl _) _), (Bk.new3 w4 (.string s) (.int .i64 p) (.bool false) 28).step ((Below.refl _ _).alloc (Nat.le_refl _) _), ((by have q := Bk.new3 (w4.alloc (.cells #[.string s, .int .i64 p, .bool false] 28)) (.string t) (.int .i64 q) (.bool false) 28; simpa using q) : Bk ((w4.alloc (.cells #[.string s, .int .i64 p, .bool false] 28)).alloc (.cells #[.string t, .int .i64 q, .bool false] 28)) (w4.heap.size + 1) [.string t, .int .i64 q, .bool false]), ((F4.out.2).alloc ((F4.out.2).size) _).alloc (((F4.out.2).alloc ((F4.out.2).size) _).size) _⟩
 clear F4
 go_upto_region 7 with fail
 generalize ((w4.alloc (.cells #[.string s, .int .i64 p, .bool false] 28)).alloc (.cells #[.string t, .int .i64 q, .bool false] 28)) = w5 at *
 have l1_0 := F5.out.1.lt
 have a1_0_0 := F5.out.1.cell 0 _ rfl
 have a1_0_1 := F5.out.1.cell 1 _ rfl
 have a1_0_2 := F5.out.1.cell 2 _ rfl
 have l1_1 := F5.out.2.1.lt
 have a1_1_0 := F5.out.2.1.cell 0 _ rfl
 have a1_1_1 := F5.out.2.1.cell 1 _ rfl
 have a1_1_2 := F5.out.2.1.cell 2 _ rfl
 have l1_2 := F5.out.2.2.1.lt
 have a1_2_0 := F5.out.2.2.1.cell 0 _ rfl
 have a1_2_1 := F5.out.2.2.1.cell 1 _ rfl
 have a1_2_2 := F5.out.2.2.1.cell 2 _ rfl
 go_wp2_with fail
 all_goals first | (exfalso; omega) | skip
 refine (HI _).mono ?_
 rintro o6 w6 ⟨rfl, bb⟩
 have F6 : Hid (Bk w6 (w2.heap.size) [.string u, .int .i64 o, .bool false] ∧ Bk w6 (w4.heap.size) [.string s, .int .i64 p, .bool false] ∧ Bk w6 (w4.heap.size + 1) [.string t, .int .i64 q, .bool false] ∧ Below w.heap.size w w6) := ⟨(F5.out.1).step bb, (F5.out.2.1).step bb, (F5.out.2.2.1).step bb, (F5.out.2.2.2).trans (bb.mono (F5.out.2.2.2).size)⟩
 clear F5
 clear bb
 clear l1_0 a1_0_0 a1_0_1 a1_0_2 l1_1 a1_1_0 a1_1_1 a1_1_2 l1_2 a1_2_0 a1_2_1 a1_2_2
 go_wp2_with fail
 all_goals first | (exfalso; omega) | skip
 refine (HT _).mono ?_
 rintro o7 w7 ⟨rfl, bb⟩
 have F7 : Hid (Bk w7 (w2.heap.size) [.string u, .int .i64 o, .bool false] ∧ Bk w7 (w4.heap.size) [.string s, .int .i64 p, .bool false] ∧ Bk w7 (w4.heap.size + 1) [.string t, .int .i64 q, .bool false] ∧ Below w.heap.size w w7) := ⟨(F6.out.1).step bb, (F6.out.2.1).step bb, (F6.out.2.2.1).step bb, (F6.out.2.2.2).trans (bb.mono (F6.out.2.2.2).size)⟩
 clear F6
 clear bb
 go_wp2_with fail
 all_goals first | (exfalso; omega) | skip
 refine (HP _).mono ?_
 rintro o8 w8 ⟨rfl, bb⟩
 have F8 : Hid (Bk w8 (w2.heap.size) [.string u, .int .i64 o, .bool false] ∧ Bk w8 (w4.heap.size) [.string s, .int .i64 p, .bool false] ∧ Bk w8 (w4.heap.size + 1) [.string t, .int .i64 q, .bool false] ∧ Below w.heap.size w w8) := ⟨(F7.out.1).step bb, (F7.out.2.1).step bb, (F7.out.2.2.1).step bb, (F7.out.2.2.2).trans (bb.mono (F7.out.2.2.2).size)⟩
 clear F7
 clear bb
 go_wp2_with fail
 all_goals first | (exfalso; omega) | skip
 refine (HBP _).mono ?_
 rintro o9 w9 ⟨rfl, bb⟩
 have F9 : Hid (Bk w9 (w2.heap.size) [.string u, .int .i64 o, .bool false] ∧ Bk w9 (w4.heap.size) [.string s, .int .i64 p, .bool false] ∧ Bk w9 (w4.heap.size + 1) [.string t, .int .i64 q, .bool false] ∧ Below w.heap.size w w9) := ⟨(F8.out.1).step bb, (F8.out.2.1).step bb, (F8.out.2.2.1).step bb, (F8.out.2.2.2).trans (bb.mono (F8.out.2.2.2).size)⟩
 clear F8
 clear bb
 have lt0_3 := (F9.out.1).lt
 have lt1_3 := (F9.out.2.1).lt
 have lt2_3 := (F9.out.2.2.1).lt
 have le3 := (F9.out.2.2.2).size
 have F10 : Hid (Bk ((w9.alloc (.cells #[.string s2, .int .i64 p2, .bool false] 28)).alloc (.cells #[.string s, .int .i64 p, .bool false] 28)) (w2.heap.size) [.string u, .int .i64 o, .bool false] ∧ Bk ((w9.alloc (.cells #[.string s2, .int .i64 p2, .bool false] 28)).alloc (.cells #[.string s, .int .i64 p, .bool false] 28)) (w4.heap.size) [.string s, .int .i64 p, .bool false] ∧ Bk ((w9.alloc (.cells #[.string s2, .int .i64 p2, .bool false] 28)).alloc (.cells #[.string s, .int .i64 p, .bool false] 28)) (w4.heap.size + 1) [.string t, .int .i64 q, .bool false] ∧ Bk ((w9.alloc (.cells #[.string s2, .int .i64 p2, .bool false] 28)).alloc (.cells #[.string s, .int .i64 p, .bool false] 28)) (w9.heap.size) [.string s2, .int .i64 p2, .bool false] ∧ Bk ((w9.alloc (.cells #[.string s2, .int .i64 p2, .bool false] 28)).alloc (.cells #[.string s, .int .i64 p, .bool false] 28)) (w9.heap.size + 1) [.string s, .int .i64 p, .bool false] ∧ Below w.heap.size w ((w9.alloc (.cells #[.string s2, .int .i64 p2, .bool false] 28)).alloc (.cells #[.string s, .int .i64 p, .bool false] 28))) := ⟨((F9.out.1).step ((Below.refl _ _).alloc (Nat.le_refl _) _)).step ((Below.refl _ _).alloc (Nat.le_refl _) _), ((F9.out.2.1).step ((Below.refl _ _).alloc (Nat.le_refl _) _)).step ((Below.refl _ _).alloc (Nat.le_refl _) _), ((F9.out.2.2.1).step ((Below.refl _ _).alloc (Nat.le_refl _) _)).step ((Below.refl _ _).alloc (Nat.le_refl _) _), (Bk.new3 w9 (.string s2) (.int .i64 p2) (.bool false) 28).step ((Below.refl _ _).alloc (Nat.le_refl _) _), ((by have q := Bk.new3 (w9.alloc (.cells #[.string s2, .int .i64 p2, .bool false] 28)) (.string s) (.int .i64 p) (.bool false) 28; simpa using q) : Bk ((w9.alloc (.cells #[.string s2, .int .i64 p2, .bool false] 28)).alloc (.cells #[.string s, .int .i64 p, .bool false] 28)) (w9.heap.size + 1) [.string s, .int .i64 p, .bool false]), ((F9.out.2.2.2).alloc ((F9.out.2.2.2).size) _).alloc (((F9.out.2.2.2).alloc ((F9.out.2.2.2).size) _).size) _⟩
 clear F9
 go_upto_region 19 with fail
 generalize ((w9.alloc (.cells #[.string s2, .int .i64 p2, .bool false] 28)).alloc (.cells #[.string s, .int .i64 p, .bool false] 28)) = w10 at *
 have l2_0 := F10.out.1.lt
 have a2_0_0 := F10.out.1.cell 0 _ rfl
 have a2_0_1 := F10.out.1.cell 1 _ rfl
 have a2_0_2 := F10.out.1.cell 2 _ rfl
 have l2_1 := F10.out.2.1.lt
 have a2_1_0 := F10.out.2.1.cell 0 _ rfl
 have a2_1_1 := F10.out.2.1.cell 1 _ rfl
 have a2_1_2 := F10.out.2.1.cell 2 _ rfl
 have l2_2 := F10.out.2.2.1.lt
 have a2_2_0 := F10.out.2.2.1.cell 0 _ rfl
 have a2_2_1 := F10.out.2.2.1.cell 1 _ rfl
 have a2_2_2 := F10.out.2.2.1.cell 2 _ rfl
 have l2_3 := F10.out.2.2.2.1.lt
 have a2_3_0 := F10.out.2.2.2.1.cell 0 _ rfl
 have a2_3_1 := F10.out.2.2.2.1.cell 1 _ rfl
 have a2_3_2 := F10.out.2.2.2.1.cell 2 _ rfl
 have l2_4 := F10.out.2.2.2.2.1.lt
 have a2_4_0 := F10.out.2.2.2.2.1.cell 0 _ rfl
 have a2_4_1 := F10.out.2.2.2.2.1.cell 1 _ rfl
 have a2_4_2 := F10.out.2.2.2.2.1.cell 2 _ rfl
 go_wp2_with fail
 all_goals first | (exfalso; omega) | skip
 refine (HIP _).mono ?_
 rintro o11 w11 ⟨rfl, bb⟩
 have F11 : Hid (Bk w11 (w2.heap.size) [.string u, .int .i64 o, .bool false] ∧ Bk w11 (w4.heap.size) [.string s, .int .i64 p, .bool false] ∧ Bk w11 (w4.heap.size + 1) [.string t, .int .i64 q, .bool false] ∧ Bk w11 (w9.heap.size) [.string s2, .int .i64 p2, .bool false] ∧ Bk w11 (w9.heap.size + 1) [.string s, .int .i64 p, .bool false] ∧ Below w.heap.size w w11) := ⟨(F10.out.1).step bb, (F10.out.2.1).step bb, (F10.out.2.2.1).step bb, (F10.out.2.2.2.1).step bb, (F10.out.2.2.2.2.1).step bb, (F10.out.2.2.2.2.2).trans (bb.mono (F10.out.2.2.2.2.2).size)⟩
 clear F10
 clear bb
 clear l2_0 a2_0_0 a2_0_1 a2_0_2 l2_1 a2_1_0 a2_1_1 a2_1_2 l2_2 a2_2_0 a2_2_1 a2_2_2 l2_3 a2_3_0 a2_3_1 a2_3_2 l2_4 a2_4_0 a2_4_1 a2_4_2
 have l3_0 := F11.out.1.lt
 have a3_0_0 := F11.out.1.cell 0 _ rfl
 have a3_0_1 := F11.out.1.cell 1 _ rfl
 have a3_0_2 := F11.out.1.cell 2 _ rfl
 have l3_1 := F11.out.2.1.lt
 have a3_1_0 := F11.out.2.1.cell 0 _ rfl
 have a3_1_1 := F11.out.2.1.cell 1 _ rfl
 have a3_1_2 := F11.out.2.1.cell 2 _ rfl
 have l3_2 := F11.out.2.2.1.lt
 have a3_2_0 := F11.out.2.2.1.cell 0 _ rfl
 have a3_2_1 := F11.out.2.2.1.cell 1 _ rfl
 have a3_2_2 := F11.out.2.2.1.cell 2 _ rfl
 have l3_3 := F11.out.2.2.2.1.lt
 have a3_3_0 := F11.out.2.2.2.1.cell 0 _ rfl
 have a3_3_1 := F11.out.2.2.2.1.cell 1 _ rfl
 have a3_3_2 := F11.out.2.2.2.1.cell 2 _ rfl
 have l3_4 := F11.out.2.2.2.2.1.lt
 have a3_4_0 := F11.out.2.2.2.2.1.cell 0 _ rfl
 have a3_4_1 := F11.out.2.2.2.2.1.cell 1 _ rfl
 have a3_4_2 := F11.out.2.2.2.2.1.cell 2 _ rfl
 go_wp2_with fail
 all_goals first | (exfalso; omega) | skip
 refine (HN _).mono ?_
 rintro o12 w12 ⟨rfl, bb⟩
 have F12 : Hid (Bk w12 (w2.heap.size) [.string u, .int .i64 o, .bool false] ∧ Bk w12 (w4.heap.size) [.string s, .int .i64 p, .bool false] ∧ Bk w12 (w4.heap.size + 1) [.string t, .int .i64 q, .bool false] ∧ Bk w12 (w9.heap.size) [.string s2, .int .i64 p2, .bool false] ∧ Bk w12 (w9.heap.size + 1) [.string s, .int .i64 p, .bool false] ∧ Below w.heap.size w w12) := ⟨(F11.out.1).step bb, (F11.out.2.1).step bb, (F11.out.2.2.1).step bb, (F11.out.2.2.2.1).step bb, (F11.out.2.2.2.2.1).step bb, (F11.out.2.2.2.2.2).trans (bb.mono (F11.out.2.2.2.2.2).size)⟩
 clear F11
 clear bb
 clear l3_0 a3_0_0 a3_0_1 a3_0_2 l3_1 a3_1_0 a3_1_1 a3_1_2 l3_2 a3_2_0 a3_2_1 a3_2_2 l3_3 a3_3_0 a3_3_1 a3_3_2 l3_4 a3_4_0 a3_4_1 a3_4_2
 go_wp2_with fail
 all_goals first | (exfalso; omega) | skip
 refine (HCN _).mono ?_
 rintro o13 w13 ⟨rfl, bb⟩
 have F13 : Hid (Bk w13 (w2.heap.size) [.string u, .int .i64 o, .bool false] ∧ Bk w13 (w4.heap.size) [.string s, .int .i64 p, .bool false] ∧ Bk w13 (w4.heap.size + 1) [.string t, .int .i64 q, .bool false] ∧ Bk w13 (w9.heap.size) [.string s2, .int .i64 p2, .bool false] ∧ Bk w13 (w9.heap.size + 1) [.string s, .int .i64 p, .bool false] ∧ Below w.heap.size w w13) := ⟨(F12.out.1).step bb, (F12.out.2.1).step bb, (F12.out.2.2.1).step bb, (F12.out.2.2.2.1).step bb, (F12.out.2.2.2.2.1).step bb, (F12.out.2.2.2.2.2).trans (bb.mono (F12.out.2.2.2.2.2).size)⟩
 clear F12
 clear bb
 go_wp2_with fail
 all_goals first | (exfalso; omega) | skip
 refine (sure19 _).mono ?_
 rintro o14 w14 ⟨rfl, bb⟩
 have F14 : Hid (Bk w14 (w2.heap.size) [.string u, .int .i64 o, .bool false] ∧ Bk w14 (w4.heap.size) [.string s, .int .i64 p, .bool false] ∧ Bk w14 (w4.heap.size + 1) [.string t, .int .i64 q, .bool false] ∧ Bk w14 (w9.heap.size) [.string s2, .int .i64 p2, .bool false] ∧ Bk w14 (w9.heap.size + 1) [.string s, .int .i64 p, .bool false] ∧ Below w.heap.size w w14) := ⟨(F13.out.1).step bb, (F13.out.2.1).step bb, (F13.out.2.2.1).step bb, (F13.out.2.2.2.1).step bb, (F13.out.2.2.2.2.1).step bb, (F13.out.2.2.2.2.2).trans (bb.mono (F13.out.2.2.2.2.2).size)⟩
 clear F13
 clear bb
 go_wp2
 go_ret
 exact ⟨rfl, F14.out.2.2.2.2.2⟩
theorem and_bit (b : Nat) (hb : b < 18446744073709551616) : (bits BinOp.and IntKind.u64 (b : Int) 1 == 0) = decide (b % 2 = 0) := by
 have e := u64_and_nat b 1 hb (by decide)
 rw [show ((1 : Nat) : Int) = 1 from rfl] at e
 rw [e, Nat.and_one_is_mod]
 by_cases c : b % 2 = 0
 · rw [decide_eq_true c]; exact beq_iff_eq.mpr (by omega)
 · rw [decide_eq_false c]; exact beq_eq_false_iff_ne.mpr (by omega)
theorem cmpI_gt {x y : Int} (h : y < x) : cmpI x y = 1 := by unfold cmpI; rw [if_neg (by omega), if_pos h]
theorem cmpI_self (x : Int) : cmpI x x = 0 := by unfold cmpI; rw [if_neg (by omega), if_neg (by omega)]
theorem cls_bad {b : Nat} {z n : Int} (h : Bad b z n) : (∀ W, Calls Tryd.prog 4 #[.int .u64 (b : Int), .int .i64 z] W fun e w' => e = .returned (.tuple #[.int .i64 0, .iface 56 (.int .i64 n)]) ∧ Below W.heap.size W w') ∨
 (∀ W, Calls Tryd.prog 4 #[.int .u64 (b : Int), .int .i64 z] W fun e w' => e = .returned (.tuple #[.int .i64 3, .nilIface]) ∧ Below W.heap.size W w') ∨
 (∀ W, Calls Tryd.prog 4 #[.int .u64 (b : Int), .int .i64 z] W fun e w' => e = .returned (.tuple #[.int .i64 4, .nilIface]) ∧ Below W.heap.size W w') := by
 rcases h with ⟨h, rfl⟩ | ⟨rfl, h, rfl⟩ | ⟨f, T, L, S, I, h, hb, hi, rfl⟩
 · exact Or.inl (fun W => cls_no h _ W)
 · exact Or.inl (fun W => cls_big h W)
 · have U := fun W => cls_any h hb W
   have i1 := h.fs.2.2.2.2.2.1
   rcases cl_cases I (mg S b) with q | q | q | q
   · omega
   · omega
   · rw [q.2.2] at U; exact Or.inr (Or.inl U)
   · rw [q.2] at U; exact Or.inr (Or.inr U)
theorem inB_mid (c : Bool) : inB c 1 (-1) = true := by cases c <;> rfl
theorem inB_end (c : Bool) : inB c 1 0 = c := by cases c <;> rfl
theorem inB_far (c : Bool) (a : Int) : inB c a 1 = false := by
 unfold inB
 cases c
 · rw [if_neg (by decide), decide_eq_false (show ¬ (1 : Int) < 0 by omega), Bool.and_false]
 · rw [if_pos rfl, decide_eq_false (show ¬ (1 : Int) ≤ 0 by omega), Bool.and_false]
theorem Fn.next {z : Int} {f T : Nat} {L : Int} {S I b : Nat} (h : Fn z f T L S I b) (m1 : mg S b + 1 < I) : Fn z f T L S I (b + 1) := by
 obtain ⟨_, _, _, hS, _, _, hIS⟩ := h.sf.fs
 have lt := h.lt
 have fin := h.fin
 have e : mg S (b + 1) = mg S b + 1 := by
  unfold mg at *
  have dm := Nat.div_add_mod b S
  have : b + 1 = S * (b / S) + (b % S + 1) := by omega
  rw [this, Nat.mul_add_mod, Nat.mod_eq_of_lt (by omega)]
 have dm := Nat.div_add_mod b S
 have q : b / S < 2 := by rw [Nat.div_lt_iff_lt_mul (by omega)]; omega
 have q2 : S * (b / S) ≤ S * 1 := Nat.mul_le_mul_left S (by omega)
 unfold mg at m1
 exact ⟨h.sf, by omega, by rw [e]; unfold mg; omega⟩
theorem Fn.mg_next {z : Int} {f T : Nat} {L : Int} {S I b : Nat} (h : Fn z f T L S I b) : mg S (b + 1) = mg S b + 1 ∧ b + 1 < 2 * S := by
 obtain ⟨_, _, _, hS, _, _, hIS⟩ := h.sf.fs
 have lt := h.lt
 have fin := h.fin
 have dm := Nat.div_add_mod b S
 have q : b / S < 2 := by rw [Nat.div_lt_iff_lt_mul (by omega)]; omega
 have q2 : S * (b / S) ≤ S * 1 := Nat.mul_le_mul_left S (by omega)
 unfold mg at *
 refine ⟨?_, by omega⟩
 have : b + 1 = S * (b / S) + (b % S + 1) := by omega
 rw [this, Nat.mul_add_mod, Nat.mod_eq_of_lt (by omega)]
theorem next_is {z : Int} {f T : Nat} {L : Int} {S I b : Nat} (h : Fn z f T L S I b) (w : World) : Calls Tryd.prog 11 #[.int .u64 (b : Int), .int .i64 z] w fun e w' => e = .returned (.tuple #[.int .u64 ((b + 1 : Nat) : Int), .nilIface]) ∧ Below w.heap.size w w' := by
 have s2 := h.sf.fs.2.2.1
 have lt := (Fn.mg_next h).2
 have c : cl I (mg S b) = 1 ∨ cl I (mg S b) = 2 := by
  have := h.fin
  rcases cl_cases I (mg S b) with q | q | q | q
  · exact Or.inl q.2
  · exact Or.inr q.2.2
  · omega
  · omega
 have q := next_ok (b := (b : Int)) (s := z) (c := cl I (mg S b)) (beq_eq_false_iff_ne.mpr (by omega)) (beq_eq_false_iff_ne.mpr (by omega)) (by omega) (by omega) (fun W => cls_any h.sf h.lt W) w
 rw [show (b : Int) + 1 = ((b + 1 : Nat) : Int) by omega] at q
 exact q
theorem ap_near {z : Int} {f T : Nat} {L : Int} {S I b : Nat} (h : Fn z f T L S I b) {s t u : ByteArray} {p q o : Int} (D : Dx s p (loF f L (mg S b))) (E : Dx t q (hiF f L (mg S b))) (G : Dx u o (vlF f L (mg S b))) :
 (∀ W, Calls Tryd.prog 8 #[dcV u o false, .int .u64 (b : Int), .int .i64 z] W fun e w' => e = .returned (.tuple #[.bool true, .nilIface]) ∧ Below W.heap.size W w') ∧
 (∀ W, Calls Tryd.prog 8 #[dcV t q false, .int .u64 (b : Int), .int .i64 z] W fun e w' => e = .returned (.tuple #[.bool (decide (b % 2 = 0)), .nilIface]) ∧ Below W.heap.size W w') ∧
 (∀ W, Calls Tryd.prog 12 #[dcV s p false, dcV t q false] W fun e w' => e = .returned (.tuple #[.int .i64 (-1), .nilIface]) ∧ Below W.heap.size W w') := by
 have fs := h.sf.fs.1
 have x1 := lo_le fs h.m
 have x2 := vl_hi fs h.m
 refine ⟨fun W => ?_, fun W => ?_, fun W => ?_⟩
 · have q := in_is h D E G.vd W
   rw [lowF_dx G D, lowF_dx G E, cmpI_neg (show ((vlF f L (mg S b) : Nat) : Int) < ((hiF f L (mg S b) : Nat) : Int) by omega)] at q
   by_cases m0 : mg S b = 0
   · have ev : decide (b % 2 = 0) = true := by
      have e := h.sf.fs.2.2.2.2.1
      obtain ⟨k, rfl⟩ : ∃ k, S = 2 * k := ⟨S / 2, by omega⟩
      unfold mg at m0
      have := Nat.mod_mul_right_mod b 2 k
      rw [m0, Nat.zero_mod] at this
      exact decide_eq_true this.symm
     rw [ev, m0, vl_zero] at q
     exact q
   · have := lo_lt fs h.m m0
     rw [cmpI_gt (show ((loF f L (mg S b) : Nat) : Int) < ((vlF f L (mg S b) : Nat) : Int) by omega), inB_mid] at q
     exact q
 · have q := in_is h D E E.vd W
   rw [lowF_dx E D, lowF_dx E E, cmpI_self, cmpI_gt (show ((loF f L (mg S b) : Nat) : Int) < ((hiF f L (mg S b) : Nat) : Int) by omega), inB_end] at q
   exact q
 · have q := cmp_ff D.vd E.vd W
   rw [lowF_dx D E, cmpI_neg (show ((loF f L (mg S b) : Nat) : Int) < ((hiF f L (mg S b) : Nat) : Int) by omega)] at q
   exact q
theorem ap_digits {z : Int} {f T : Nat} {L : Int} {S I b : Nat} (h : Fn z f T L S I b) (m0 : mg S b ≠ 0) {n : Nat} (n0 : 0 < n) (hn : n ≤ 17) (h2 : 2 ^ (f + 1) ≤ 10 ^ (n - 1)) (W : World) :
 Calls Tryd.prog 9 #[.int .u64 (b : Int), .int .i64 z, .int .i64 (n : Int)] W fun e w' => e = .returned (.tuple #[.bool true, .nilIface]) ∧ Below W.heap.size W w' := by
 obtain ⟨⟨s, p, D⟩, ⟨t, q, E⟩, _⟩ := Fn.has h
 obtain ⟨u, o, u1, u2, o2, A, G, u0, o1, hA, du, D1, D2, v1, v2, low⟩ := du_has h m0 n0 hn
 have fs := h.sf.fs.1
 have x1 := lo_lt fs h.m m0
 have x2 := vl_hi fs h.m
 have R := bt_is h D E n0 hn G u0 o1 du D1 D2 W
 rw [lowF_dx D1 D, lowF_dx D1 E, lowF_dx D2 D, lowF_dx D2 E] at R
 have S0 : 0 < 10 ^ (A - n) := Nat.pow_pos (by decide)
 have d1 : vlF f L (mg S b) / 10 ^ (A - n) * 10 ^ (A - n) ≤ vlF f L (mg S b) := Nat.div_mul_le_self _ _
 have d2 : vlF f L (mg S b) ≤ (vlF f L (mg S b) + (10 ^ (A - n) - 1)) / 10 ^ (A - n) * 10 ^ (A - n) := by
  have dm := Nat.div_add_mod (vlF f L (mg S b) + (10 ^ (A - n) - 1)) (10 ^ (A - n))
  have ml := Nat.mod_lt (vlF f L (mg S b) + (10 ^ (A - n) - 1)) S0
  rw [Nat.mul_comm] at dm
  omega
 have T := digits_there fs h2 (by omega) m0 h.m low
 generalize vlF f L (mg S b) / 10 ^ (A - n) * 10 ^ (A - n) = Y at *
 generalize (vlF f L (mg S b) + (10 ^ (A - n) - 1)) / 10 ^ (A - n) * 10 ^ (A - n) = Z at *
 rcases T with c | c
 · rw [cmpI_gt (show ((loF f L (mg S b) : Nat) : Int) < (Y : Int) by omega), cmpI_neg (show (Y : Int) < ((hiF f L (mg S b) : Nat) : Int) by omega), inB_mid, Bool.true_or] at R
   exact R
 · rw [cmpI_gt (show ((loF f L (mg S b) : Nat) : Int) < (Z : Int) by omega), cmpI_neg (show (Z : Int) < ((hiF f L (mg S b) : Nat) : Int) by omega), inB_mid, Bool.or_true] at R
   exact R
theorem par_flip (b : Nat) : decide ((b + 1) % 2 = 0) = !decide (b % 2 = 0) := by
 by_cases c : b % 2 = 0
 · rw [decide_eq_true c]; exact decide_eq_false (by omega)
 · rw [decide_eq_false c]; exact decide_eq_true (by omega)
theorem par_flip' {b : Nat} (hb : 1 ≤ b) : decide ((b - 1) % 2 = 0) = !decide (b % 2 = 0) := by
 by_cases c : b % 2 = 0
 · rw [decide_eq_true c]; exact decide_eq_false (by omega)
 · rw [decide_eq_false c]; exact decide_eq_true (by omega)
theorem law_apart (b : Nat) (hb : b < 18446744073709551616) (z : Int) (w : World) :
 Calls Tryd.prog 3 #[.int .u64 (b : Int), .int .i64 z] w fun x w' => x = .returned (.bool true) ∧ Below w.heap.size w w' := by
 rcases kinds b z hb with ⟨n, h⟩ | ⟨f, T, L, S, I, h⟩
 · have E := fun W => ex_err (fun W => fin_bad h W) W
   rcases cls_bad h with c | c | c
   · exact ap_err c E w
   · exact ap_inf c E w
   · exact ap_nan c E w
 · obtain ⟨⟨s, p, D⟩, ⟨t, q, E⟩, u, o, G⟩ := Fn.has h
   obtain ⟨i1, i2, i3⟩ := ap_near h D E G
   have eb := and_bit b hb
   have C := fun W => cls_any h.sf h.lt W
   have X := fun W => ex_is h G W
   have B := fun W => bd_is h D E W
   have N := fun W => next_is h W
   obtain ⟨g1, g2⟩ := Fn.mg_next h
   have C2 := fun W => cls_any (b := b + 1) h.sf g2 W
   rw [g1] at C2
   by_cases m0 : mg S b = 0
   · have ev : decide (b % 2 = 0) = true := by
      have e := h.sf.fs.2.2.2.2.1
      obtain ⟨k, rfl⟩ : ∃ k, S = 2 * k := ⟨S / 2, by omega⟩
      unfold mg at m0
      have := Nat.mod_mul_right_mod b 2 k
      rw [m0, Nat.zero_mod] at this
      exact decide_eq_true this.symm
     have one : mg S b + 1 < I := by have := h.sf.fs.2.2.2.2.2.1; omega
     have h2 := Fn.next h one
     obtain ⟨_, ⟨t2, q2, E2⟩, _⟩ := Fn.has h2
     have B2 := fun W => bd_is h2 (s := t) (p := q) (by rw [g1]; exact E) E2 W
     rw [par_flip, ev] at B2
     rw [show cl I (mg S b) = 1 by rw [m0]; exact cl_zero I] at C
     rw [cl_fine (by omega) one] at C2
     rw [ev] at eb B i2
     exact ap_zero eb C X B i1 N C2 B2 i2 i3 w
   · rw [cl_fine m0 h.fin] at C
     obtain ⟨hp, ep⟩ := Fn.prev h m0
     have b1 := mg_b0 m0
     obtain ⟨⟨s2, p2, D2⟩, _, _⟩ := Fn.has hp
     have Ep : Dx s p (hiF f L (mg S (b - 1))) := by
      have D' := D
      rw [← ep] at D'
      exact D'
     have BP := fun W => bd_is hp D2 Ep W
     rw [par_flip' b1] at BP
     have PV := fun W => prev_is h m0 W
     have IP : ∀ W, Calls Tryd.prog 8 #[dcV u o false, .int .u64 ((b - 1 : Nat) : Int), .int .i64 z] W fun e w' => e = .returned (.tuple #[.bool false, .nilIface]) ∧ Below W.heap.size W w' := fun W => by
      have q := in_is hp D2 Ep G.vd W
      have lt := lo_lt h.sf.fs.1 h.m m0
      rw [← ep] at lt
      rw [lowF_dx G Ep, ← ep, cmpI_gt (show ((hiF f L (mg S (b - 1)) : Nat) : Int) < ((vlF f L (mg S (b - 1) + 1) : Nat) : Int) from Int.ofNat_lt.mpr lt), inB_far] at q
      exact q
     have dig : (z == 32) = true ∧ (∀ W, Calls Tryd.prog 9 #[.int .u64 (b : Int), .int .i64 z, .int .i64 9] W fun e w' => e = .returned (.tuple #[.bool true, .nilIface]) ∧ Below W.heap.size W w') ∨
      (z == 32) = false ∧ (∀ W, Calls Tryd.prog 9 #[.int .u64 (b : Int), .int .i64 z, .int .i64 17] W fun e w' => e = .returned (.tuple #[.bool true, .nilIface]) ∧ Below W.heap.size W w') := by
      rcases h.sf with ⟨hz, hf, _⟩ | ⟨hz, hf, _⟩
      · left
        refine ⟨by rw [hz]; rfl, fun W => ?_⟩
        exact ap_digits h m0 (n := 9) (by decide) (by decide) (by rw [hf]; decide) W
      · right
        refine ⟨by rw [hz]; rfl, fun W => ?_⟩
        exact ap_digits h m0 (n := 17) (by decide) (by decide) (by rw [hf]; decide) W
     by_cases one : mg S b + 1 < I
     · have h2 := Fn.next h one
       obtain ⟨_, ⟨t2, q2, E2⟩, _⟩ := Fn.has h2
       have B2 := fun W => bd_is h2 (s := t) (p := q) (by rw [g1]; exact E) E2 W
       rw [par_flip] at B2
       rw [cl_fine (by omega) one] at C2
       cases ev : decide (b % 2 = 0) <;> rw [ev] at eb B i2 BP B2
       · rcases dig with ⟨ez, dg⟩ | ⟨ez, dg⟩
         · exact ap_fin1 eb ez C X B i1 dg PV BP IP N C2 B2 i2 i3 w
         · exact ap_fin3 eb ez C X B i1 dg PV BP IP N C2 B2 i2 i3 w
       · rcases dig with ⟨ez, dg⟩ | ⟨ez, dg⟩
         · exact ap_fin0 eb ez C X B i1 dg PV BP IP N C2 B2 i2 i3 w
         · exact ap_fin2 eb ez C X B i1 dg PV BP IP N C2 B2 i2 i3 w
     · have fin := h.fin
       rw [show mg S b + 1 = I by omega, cl_inf (by omega)] at C2
       cases ev : decide (b % 2 = 0) <;> rw [ev] at eb B i2 BP
       · rcases dig with ⟨ez, dg⟩ | ⟨ez, dg⟩
         · exact ap_end1 eb ez C X B i1 dg PV BP IP N C2 w
         · exact ap_end3 eb ez C X B i1 dg PV BP IP N C2 w
       · rcases dig with ⟨ez, dg⟩ | ⟨ez, dg⟩
         · exact ap_end0 eb ez C X B i1 dg PV BP IP N C2 w
         · exact ap_end2 eb ez C X B i1 dg PV BP IP N C2 w
end Go.Proofs.YtdfefjcobeopbaaDoor
