/-
  Holds: VPn3 VPn4.
-/
import Derived.Test.YtbpfhnndlknloaaGreatDoorRows
import Derived.Laws.Externs
import Derived.WalkKit
import Derived.WalkSpells
import Derived.WalkLawsBesides
import Derived.Lib.Mul64
import Derived.Lib.TrailingZeros
import Derived.Lib.ItoaNum
import Derived.Deep.OwnRows
import Derived.Laws.CopyOwn
import Derived.BigQuiet
import Derived.Deep.RegionHeld3
import Derived.Deep.LoopGhost
import Derived.Deep.AppendLies
import Derived.Test.YtbpfhnndlknloaaGreatDoorKh20
set_option maxRecDepth 100000
set_option maxHeartbeats 4000000
namespace Go.Proofs.YtbpfhnndlknloaaGreatDoor
open Go.RowKit
def num2 (k r : Nat) : Nat := if k = 0 then r else 0
theorem num2_zero (r : Nat) : num2 0 r = r := rfl
theorem num2_bad {k : Nat} (h : k ≠ 0) (r : Nat) : num2 k r = 0 := by unfold num2; rw [if_neg h]
theorem verr_nat {f : Nat → Nat} {n : Nat} (h : verr f n = 0) : n ≤ 128 ∧ Top f n := by
 unfold verr at h
 by_cases q : 128 < n
 · rw [if_pos q] at h; omega
 · rw [if_neg q] at h
   refine ⟨by omega, ?_⟩
   by_cases z : n = 0
   · exact Or.inl z
   · right
     intro e
     rw [if_pos ⟨by omega, e⟩] at h
     omega
theorem errV_succ {k : Nat} (h : k ≠ 0) : errV k = .iface 42 (.int .i64 (k : Int)) := by
 cases k with
 | zero => exact absurd rfl h
 | succ k => rfl
def bl (X : Nat) : Nat := if X = 0 then 0 else Nat.log2 X + 1
theorem bl_of {X L : Nat} (h1 : 2 ^ L ≤ X) (h2 : X < 2 ^ (L + 1)) : bl X = L + 1 := by
 have hp : 0 < 2 ^ L := Nat.pow_pos (by omega)
 have h0 : X ≠ 0 := by omega
 unfold bl
 rw [if_neg h0, (Nat.log2_eq_iff h0).2 ⟨h1, h2⟩]
theorem bl_lt (X : Nat) : X < 2 ^ bl X := by
 unfold bl
 split
 · rename_i h; rw [h]; decide
 · exact Nat.lt_log2_self
theorem bl_le {X : Nat} (h : X ≠ 0) : 2 ^ (bl X - 1) ≤ X := by
 unfold bl
 rw [if_neg h, Nat.add_sub_cancel]
 exact Nat.log2_self_le h
theorem bl_pos {X : Nat} (h : X ≠ 0) : 0 < bl X := by unfold bl; rw [if_neg h]; omega
theorem bl_zero : bl 0 = 0 := rfl
theorem bl_mono_le {X L : Nat} (h : X < 2 ^ L) : bl X ≤ L := by
 by_cases z : X = 0
 · subst z; rw [bl_zero]; omega
 · rcases Nat.lt_or_ge L (bl X) with q | q
   · have a := bl_le z
     have b : 2 ^ L ≤ 2 ^ (bl X - 1) := Nat.pow_le_pow_right (by omega) (by omega)
     omega
   · exact q
theorem shiftDown_far {w : World} {ao : Option Addr} {n c s q : Nat} (hq : s / 64 = q) (hqn : n ≤ q) (hs : s < 9223372036854775808) :
 Calls Tryz.prog 148 #[.slice ao n c, .int .i64 (s : Int)] w fun e w' => e = .returned (.tuple #[.slice none 0 0, .bool (decide (0 < n))]) ∧ w' = w := by
 have e1 : (s : Int) / 64 = (q : Int) := by omega
 have e2 : (n : Int) ≤ (q : Int) := by omega
 have hq2 : q < 9223372036854775808 := by omega
 have e3 : decide ((0 : Int) < (n : Int)) = decide (0 < n) := by
  by_cases z : 0 < n
  · rw [decide_eq_true z, decide_eq_true (by omega)]
  · rw [decide_eq_false z, decide_eq_false (by omega)]
 rw [← e3]
 clear e3 hqn hq
 go_enter Tryz.func148, Tryz.ntmps148
 go_wp2
 refine bodyPost_ret (v := .tuple #[.slice none 0 0, .bool (decide ((0 : Int) < (n : Int)))]) (by simp [results, Tryz.results148, go_sem]) rfl ⟨rfl, rfl⟩
theorem shr_ok {w : World} (hT : Tab w) {va : Value} {X : Nat} (ha : NatV w va X) (s : Nat) (hs : s < 9223372036854775808) :
 Calls Tryz.prog 112 #[va, .int .i64 (s : Int)] w fun e w' => ∃ v, e = .returned (.tuple #[v, .bool (decide (X % 2 ^ s ≠ 0)), .nilIface]) ∧ NatV w' v (X / 2 ^ s) ∧ Below w.heap.size w w' := by
 obtain ⟨ao, n, c, b, o, f, rfl, S, t, rfl, hn⟩ := ha
 have h1 := valid_any S
 rw [verr_ok hn t] at h1
 unfold errV at h1
 have cs : (0 : Int) ≤ (s : Int) := by omega
 have HS : Hid (Sl w ao n c b o f) := S
 have HV : Hid (V f n < B ^ n) := V_lt S.ws n
 have HT : Hid (Top f n) := t
 by_cases hqn : n ≤ s / 64
 · have lt : V f n < 2 ^ s := by
    refine Nat.lt_of_lt_of_le HV.out ?_
    rw [twoB_pow]
    exact Nat.pow_le_pow_right (by omega) (by omega)
   have eq : V f n / 2 ^ s = 0 := Nat.div_eq_of_lt lt
   have er : decide (V f n % 2 ^ s ≠ 0) = decide (0 < n) := by
    rw [Nat.mod_eq_of_lt lt]
    by_cases z : 0 < n
    · have q := Top_ge t z
      have := Bp_pos (n - 1)
      rw [decide_eq_true z, decide_eq_true (by omega)]
    · have : n = 0 := by omega
      subst this
      rfl
   rw [eq, er]
   have TN : Calls Tryz.prog 133 #[.slice none 0 0] w fun e w' => e = .returned (.slice none (tl (fun _ => 0) 0) (tl (fun _ => 0) 0)) ∧ w' = w :=
    trim_any (n := 0) (c := 0) (b := 0) (o := 0) (f := fun _ => 0) ⟨Nat.le_refl _, Nat.zero_le _, fun h => absurd h (by omega), fun h => absurd h (by omega), fun i h => absurd h (by omega), fun _ => B_pos⟩
   obtain ⟨Z, hZ⟩ : ∃ Z, Z = decide (0 < n) := ⟨_, rfl⟩
   rw [← hZ]
   have HZ : Hid (decide (0 < n) = Z) := hZ.symm
   clear TN lt eq er S t hZ
   go_enter Tryz.func112, Tryz.ntmps112
   go_wp2_with fail
   refine h1.mono ?_
   rintro e wa ⟨rfl, hba⟩
   have SD := shiftDown_far (w := wa) (ao := ao) (c := c) (s := s) (n := n) rfl hqn hs
   rw [HZ.out] at SD
   go_wp2_with fail
   refine SD.mono ?_
   rintro e wb ⟨rfl, rfl⟩
   have TN : Calls Tryz.prog 133 #[.slice none 0 0] wb fun e w' => e = .returned (.slice none (tl (fun _ => 0) 0) (tl (fun _ => 0) 0)) ∧ w' = wb :=
    trim_any (n := 0) (c := 0) (b := 0) (o := 0) (f := fun _ => 0) ⟨Nat.le_refl _, Nat.zero_le _, fun h => absurd h (by omega), fun h => absurd h (by omega), fun i h => absurd h (by omega), fun _ => B_pos⟩
   go_wp2_with fail
   refine TN.mono ?_
   rintro e wc ⟨rfl, rfl⟩
   go_wp2
   refine bodyPost_ret (v := .tuple #[.slice none 0 0, .bool Z, .nilIface]) (by simp [results, Tryz.results112, go_sem, tl]) rfl ⟨_, rfl, natv_nil _, hba⟩
 · have hv0 : V f n ≠ 0 := by
    have q := Top_ge t (by omega)
    have := Bp_pos (n - 1)
    omega
   obtain ⟨q, p, hsq, hp⟩ : ∃ q p, s = 64 * q + p ∧ p < 64 := ⟨s / 64, s % 64, by omega, by omega⟩
   have hqn2 : q < n := by omega
   have HQ : Hid (s = 64 * q + p) := hsq
   have H0 : Hid (V f n ≠ 0) := hv0
   have HL : Hid (V f n / 2 ^ s < B ^ 128) := Nat.lt_of_le_of_lt (Nat.div_le_self _ _) (Nat.lt_of_lt_of_le HV.out (Nat.pow_le_pow_right B_pos hn))
   clear hv0 hsq S t hqn
   obtain ⟨Z, hZ⟩ : ∃ Z, Z = decide (V f n % 2 ^ s ≠ 0) := ⟨_, rfl⟩
   rw [← hZ]
   have HZ : Hid (decide (V f n % 2 ^ s ≠ 0) = Z) := hZ.symm
   clear hZ
   go_enter Tryz.func112, Tryz.ntmps112
   go_wp2_with fail
   refine h1.mono ?_
   rintro e wa ⟨rfl, hba⟩
   have SD := shiftDown_any (hT.next hba) (HS.out.below hba) (by omega) s q p HQ.out hp hqn2 H0.out
   rw [HZ.out] at SD
   clear h1
   go_wp2_with fail
   refine SD.mono ?_
   rintro e wb ⟨rfl, hbb, F, R, hv⟩
   obtain ⟨nv, hl⟩ := natv_tl R (by unfold maxLen; omega) hv HL.out
   have BB : Below w.heap.size w wb := hba.trans (hbb.mono hba.size)
   have TT := trim_any (row_sl0 R (by unfold maxLen; omega))
   go_wp2_with fail
   refine TT.mono ?_
   rintro e w4 ⟨rfl, rfl⟩
   go_wp2
   refine bodyPost_ret (v := .tuple #[.slice (some ⟨wa.heap.size, 0, none⟩) (tl F (n - q)) (tl F (n - q)), .bool Z, .nilIface]) (by simp [results, Tryz.results112, go_sem]) rfl ⟨_, rfl, nv, BB⟩
theorem length_eq {f : Nat → Nat} {n : Nat} (hf : Ws f) (t : Top f n) (h0 : 0 < n) : ((n : Int) - 1) * 64 + blen (f (n - 1) : Int) = (bl (V f n) : Int) := by
 obtain ⟨k, rfl⟩ : ∃ k, n = k + 1 := ⟨n - 1, by omega⟩
 have tk : f k ≠ 0 := by
  rcases t with z | z
  · omega
  · simpa using z
 have hw' : f k < 18446744073709551616 := hf k
 obtain ⟨m, e, hm, h1, h2⟩ := blen_bounds (f k : Int) (by omega) (by omega)
 have h1' : 2 ^ m ≤ f k := by exact_mod_cast h1
 have h2' : f k < 2 ^ (m + 1) := by exact_mod_cast h2
 have lo := V_lt hf k
 rw [twoB_pow] at lo
 have ev : V f (k + 1) = V f k + f k * 2 ^ (64 * k) := by rw [V_succ, twoB_pow]
 have hb : bl (V f (k + 1)) = 64 * k + m + 1 := by
  rw [ev]
  refine bl_of ?_ ?_
  · rw [Nat.pow_add, Nat.mul_comm (2 ^ (64 * k))]
    have := Nat.mul_le_mul_right (2 ^ (64 * k)) h1'
    omega
  · rw [Nat.add_assoc, Nat.pow_add, Nat.mul_comm (2 ^ (64 * k))]
    have := Nat.mul_le_mul_right (2 ^ (64 * k)) (Nat.succ_le_of_lt h2')
    rw [Nat.succ_mul] at this
    omega
 rw [show k + 1 - 1 = k by omega, e, hb]
 omega
theorem length_full {w : World} {ao : Option Addr} {n c b o : Nat} {f : Nat → Nat} (S : Sl w ao n c b o f) (t : Top f n) (hn : n ≤ 1000) :
 Calls Tryz.prog 132 #[.slice ao n c] w fun e w' => e = .returned (.int .i64 (bl (V f n) : Int)) ∧ Below w.heap.size w w' := by
 by_cases h0 : n = 0
 · subst h0
   have e : bl (V f 0) = 0 := rfl
   rw [e]
   clear e
   go_enter Tryz.func132, Tryz.ntmps132
   go_wp2
   go_ret
   exact ⟨rfl, Below.refl _ _⟩
 · rw [← length_eq S.ws t (by omega)]
   exact length_any S (by omega) hn
theorem bitsN_any {w : World} {ao : Option Addr} {n c b o : Nat} {f : Nat → Nat} (S : Sl w ao n c b o f) :
 Calls Tryz.prog 146 #[.slice ao n c] w fun e w' => e = .returned (.tuple #[.int .i64 (num2 (verr f n) (bl (V f n)) : Int), errV (verr f n)]) ∧ Below w.heap.size w w' := by
 have h1 := valid_any S
 by_cases q : verr f n = 0
 · obtain ⟨hn, t⟩ := verr_nat q
   rw [q] at h1 ⊢
   rw [num2_zero]
   unfold errV at h1 ⊢
   have HS : Hid (Sl w ao n c b o f ∧ Top f n) := ⟨S, t⟩
   clear S t q
   go_enter Tryz.func146, Tryz.ntmps146
   go_wp2_with fail
   refine h1.mono ?_
   rintro e wa ⟨rfl, hba⟩
   have T := length_full (HS.out.1.below hba) HS.out.2 (by omega)
   go_wp2_with fail
   refine T.mono ?_
   rintro e wb ⟨rfl, hbb⟩
   go_wp2
   refine bodyPost_ret (v := .tuple #[.int .i64 (bl (V f n) : Int), .nilIface]) (by simp [results, Tryz.results146, go_sem]) rfl ⟨rfl, hba.trans (hbb.mono hba.size)⟩
 · rw [num2_bad q]
   rw [errV_succ q] at h1 ⊢
   generalize verr f n = k at *
   go_enter Tryz.func146, Tryz.ntmps146
   go_wp2_with fail
   refine h1.mono ?_
   rintro e wa ⟨rfl, hba⟩
   go_wp2
   refine bodyPost_ret (v := .tuple #[.int .i64 0, .iface 42 (.int .i64 (k : Int))]) (by simp [results, Tryz.results146, go_sem]) rfl ⟨rfl, hba⟩
def ldz (h l : Int) : Int := if h = 0 then 128 - blen l else 64 - blen h
theorem wlead_any (h l : Int) (h1 : Word h) (h2 : Word l) (w : World) :
 Calls Tryz.prog 113 #[.agg #[.int .u64 h, .int .u64 l]] w fun e w' => e = .returned (.int .i64 (ldz h l)) ∧ Below w.heap.size w w' := by
 have b1 := blen_01 l h2.1 h2.2
 by_cases c : h = 0
 · have c' : (h == 0) = true := by simpa using c
   have hL : ldz h l = 64 + (64 - blen l) := by unfold ldz; rw [if_pos c]; omega
   clear c
   go_enter Tryz.func113, Tryz.ntmps113
   go_wp2_with (go_at_call 149; refine (lead64_any l h2 _).mono ?_; rintro e w' ⟨rfl, rfl⟩)
   go_ret
   exact ⟨by rw [hL]; rfl, (Below.refl _ _).alloc (Nat.le_refl _) _⟩
 · have c' : (h == 0) = false := by simpa using c
   have hL : ldz h l = 64 - blen h := by unfold ldz; rw [if_neg c]
   go_enter Tryz.func113, Tryz.ntmps113
   go_wp2_with (go_at_call 149; refine (lead64_any h h1 _).mono ?_; rintro e w' ⟨rfl, rfl⟩)
   go_ret
   exact ⟨by rw [hL]; rfl, (Below.refl _ _).alloc (Nat.le_refl _) _⟩
theorem ret_n {x x' y y' : Int} (hx : x = x') (hy : y = y') : Ending.returned (.agg #[.int .u64 x, .int .u64 y]) = .returned (.agg #[.int .u64 x', .int .u64 y']) := by rw [hx, hy]
theorem wleft_any (h l n : Int) (h1 : Word h) (h2 : Word l) (w : World) :
 Calls Tryz.prog 114 #[.agg #[.int .u64 h, .int .u64 l], .int .i64 n] w fun e w' => e = .returned (.agg #[.int .u64 (hiW (shl (val h l) n)), .int .u64 (loW (shl (val h l) n))]) ∧ Below w.heap.size w w' := by
 have l0 := h1.1
 have l1 := h2.1
 rcases (by omega : n ≤ 0 ∨ 128 ≤ n ∨ (64 ≤ n ∧ n < 128) ∨ (0 < n ∧ n < 64)) with c | c | ⟨c, d⟩ | ⟨c, d⟩
 · go_enter Tryz.func114, Tryz.ntmps114
   go_wp2
   have hv := val_lt h1 h2
   have e : shl (val h l) n = val h l := by unfold shl; rw [show n.toNat = 0 by omega, Nat.pow_zero, Nat.mul_one, Nat.mod_eq_of_lt hv]
   refine bodyPost_ret (v := .agg #[.int .u64 h, .int .u64 l]) (by simp [results, Tryz.results114, go_sem]) rfl ⟨ret_n (by rw [e, hiW_val h1 h2]) (by rw [e, loW_val h1 h2]), ((Below.refl _ _).alloc (Nat.le_refl _) _).alloc (by simp) _⟩
 · go_enter Tryz.func114, Tryz.ntmps114
   go_wp2
   have e : shl (val h l) n = 0 := shl_none _ _ (by omega)
   refine bodyPost_ret (v := .agg #[.int .u64 0, .int .u64 0]) (by simp [results, Tryz.results114, go_sem]) rfl ⟨ret_n (by rw [e, hiW_zero]) (by rw [e, loW_zero]), ((Below.refl _ _).alloc (Nat.le_refl _) _).alloc (by simp) _⟩
 · go_enter Tryz.func114, Tryz.ntmps114
   go_wp2
   obtain ⟨e1, e2⟩ := shl_words64 h1 h2 n.toNat (by omega)
   rw [show n.toNat - 64 = (n - 64).toNat by omega] at e1
   refine bodyPost_ret (v := .agg #[.int .u64 (IntKind.u64.wrap (l * 2 ^ (n - 64).toNat)), .int .u64 0]) (by simp [results, Tryz.results114, go_sem]) rfl ⟨ret_n e1 e2, ((Below.refl _ _).alloc (Nat.le_refl _) _).alloc (by simp) _⟩
 · go_enter Tryz.func114, Tryz.ntmps114
   go_wp2
   go_region
   all_goals
    go_wp2
    obtain ⟨e1, e2⟩ := shl_words h1 h2 n.toNat (by omega)
    rw [show 64 - n.toNat = (64 - n).toNat by omega] at e1
    refine bodyPost_ret (v := .agg #[.int .u64 (bits BinOp.or IntKind.u64 (IntKind.u64.wrap (h * 2 ^ n.toNat)) (l / 2 ^ (64 - n).toNat)), .int .u64 (IntKind.u64.wrap (l * 2 ^ n.toNat))]) (by simp [results, Tryz.results114, go_sem]) rfl ⟨ret_n e1 e2, (((Below.refl _ _).alloc (Nat.le_refl _) _).alloc (by simp) _).drew⟩
theorem wdown_any (h l n : Int) (h1 : Word h) (h2 : Word l) (hn : 0 < n) (w : World) :
 Calls Tryz.prog 175 #[.agg #[.int .u64 h, .int .u64 l], .int .i64 n] w fun e w' => e = .returned (.agg #[.int .u64 (hiW (shr (val h l) n)), .int .u64 (loW (shr (val h l) n))]) ∧ Below w.heap.size w w' := by
 have l0 := h1.1
 have l1 := h2.1
 rcases (by omega : 128 ≤ n ∨ (64 ≤ n ∧ n < 128) ∨ (0 < n ∧ n < 64)) with c | ⟨c, d⟩ | ⟨c, d⟩
 · go_enter Tryz.func175, Tryz.ntmps175
   go_wp2
   have e : shr (val h l) n = 0 := (shr_none (val_lt h1 h2) _ (by omega)).1
   refine bodyPost_ret (v := .agg #[.int .u64 0, .int .u64 0]) (by simp [results, Tryz.results175, go_sem]) rfl ⟨ret_n (by rw [e, hiW_zero]) (by rw [e, loW_zero]), ((Below.refl _ _).alloc (Nat.le_refl _) _).alloc (by simp) _⟩
 · go_enter Tryz.func175, Tryz.ntmps175
   go_wp2
   obtain ⟨e1, e2⟩ := shr_words64 h1 h2 n.toNat (by omega)
   rw [show n.toNat - 64 = (n - 64).toNat by omega] at e2
   refine bodyPost_ret (v := .agg #[.int .u64 0, .int .u64 (h / 2 ^ (n - 64).toNat)]) (by simp [results, Tryz.results175, go_sem]) rfl ⟨ret_n e1 e2, ((Below.refl _ _).alloc (Nat.le_refl _) _).alloc (by simp) _⟩
 · go_enter Tryz.func175, Tryz.ntmps175
   go_wp2
   go_region
   all_goals
    go_wp2
    obtain ⟨e1, e2⟩ := shr_words h1 h2 n.toNat (by omega)
    rw [show 64 - n.toNat = (64 - n).toNat by omega] at e2
    refine bodyPost_ret (v := .agg #[.int .u64 (h / 2 ^ n.toNat), .int .u64 (bits BinOp.or IntKind.u64 (l / 2 ^ n.toNat) (IntKind.u64.wrap (h * 2 ^ (64 - n).toNat)))]) (by simp [results, Tryz.results175, go_sem]) rfl ⟨ret_n e1 e2, (((Below.refl _ _).alloc (Nat.le_refl _) _).alloc (by simp) _).drew⟩
theorem two_odd {a b m n : Nat} (h : 2 ^ a * (2 * m + 1) = 2 ^ b * (2 * n + 1)) : a = b := by
 rcases Nat.lt_trichotomy a b with c | c | c
 · exfalso
   obtain ⟨d, rfl⟩ : ∃ d, b = a + 1 + d := ⟨b - a - 1, by omega⟩
   rw [Nat.pow_add, Nat.pow_succ, Nat.mul_assoc, Nat.mul_assoc] at h
   have h2 := Nat.eq_of_mul_eq_mul_left (Nat.pow_pos (by omega)) h
   omega
 · exact c
 · exfalso
   obtain ⟨d, rfl⟩ : ∃ d, a = b + 1 + d := ⟨a - b - 1, by omega⟩
   rw [Nat.pow_add, Nat.pow_succ, Nat.mul_assoc, Nat.mul_assoc] at h
   have h2 := Nat.eq_of_mul_eq_mul_left (Nat.pow_pos (by omega)) h
   omega
theorem ctz_of {n v k m : Nat} (hv : v < 2 ^ n) (h : v = 2 ^ k * (2 * m + 1)) : Lib.ctz n v = k := by
 have h0 : v ≠ 0 := by
  rw [h]; exact Nat.ne_of_gt (Nat.mul_pos (Nat.pow_pos (by omega)) (by omega))
 obtain ⟨m', e, _⟩ := Lib.ctzFrom_spec n v (by omega) hv
 unfold Lib.ctz
 rw [if_neg h0]
 exact two_odd (e.symm.trans h)
def trl (v : Nat) : Int := (Lib.ctz 128 v : Int)
theorem trl_of {v k m : Nat} (hv : v < 340282366920938463463374607431768211456) (h : v = 2 ^ k * (2 * m + 1)) : trl v = k := by
 unfold trl; rw [ctz_of (n := 128) hv h]
theorem ctzW_bounds {x : Int} (h : Word x) (h0 : x ≠ 0) : ∃ k m : Nat, k < 64 ∧ x.toNat = 2 ^ k * (2 * m + 1) ∧ ctzW x = k := by
 have a := h.1; have b := h.2
 obtain ⟨m, e, hk⟩ := Lib.ctzFrom_spec 64 x.toNat (by omega) (by omega)
 exact ⟨_, m, hk, e, by unfold ctzW Lib.ctz; rw [if_neg (by omega)]⟩
theorem ctzW_01 {x : Int} (h : Word x) : 0 ≤ ctzW x ∧ ctzW x ≤ 64 := by
 by_cases c : x = 0
 · subst c; decide
 · obtain ⟨k, m, a, b, e⟩ := ctzW_bounds h c
   omega
theorem trl_low {h l : Int} (h1 : Word h) (h2 : Word l) (h0 : l ≠ 0) : trl (val h l) = ctzW l := by
 obtain ⟨k, m, a, b, e⟩ := ctzW_bounds h2 h0
 rw [e]
 obtain ⟨d, rfl⟩ : ∃ d, 63 - k = d := ⟨_, rfl⟩
 refine trl_of (m := m + h.toNat * 2 ^ (63 - k)) (val_lt h1 h2) ?_
 have p : 2 ^ k * (2 * (h.toNat * 2 ^ (63 - k))) = h.toNat * 18446744073709551616 := by
  rw [show (18446744073709551616 : Nat) = 2 ^ k * (2 * 2 ^ (63 - k)) by
   rw [Nat.mul_left_comm, ← Nat.pow_add, show k + (63 - k) = 63 by omega]]
  generalize 2 ^ (63 - k) = r
  generalize 2 ^ k = q
  rw [Nat.mul_left_comm 2, Nat.mul_left_comm q]
 have q : 2 ^ k * (2 * (m + h.toNat * 2 ^ (63 - k)) + 1) = h.toNat * 18446744073709551616 + 2 ^ k * (2 * m + 1) := by
  rw [Nat.mul_add 2, Nat.add_right_comm, Nat.mul_add (2 ^ k), p, Nat.add_comm]
 rw [q, ← b]
 have x := h1.1; have y := h2.1
 unfold val
 omega
theorem trl_high {h : Int} (h1 : Word h) : trl (val h 0) = 64 + ctzW h := by
 by_cases c : h = 0
 · subst c; decide
 · obtain ⟨k, m, a, b, e⟩ := ctzW_bounds h1 c
   rw [e]
   have z := trl_of (v := val h 0) (k := 64 + k) (m := m) (val_lt h1 ⟨by omega, by omega⟩) (by
    rw [Nat.pow_add, Nat.mul_assoc, ← b]
    have x := h1.1
    unfold val; omega)
   rw [z]; omega
theorem cut_trl {v : Nat} (hv : v < 340282366920938463463374607431768211456) (h0 : v ≠ 0) (n : Int) (hn : 0 < n) : decide (trl v < n) = cutB v n := by
 obtain ⟨m, e, hk⟩ := Lib.ctzFrom_spec 128 v (by omega) hv
 generalize Lib.ctzFrom 128 v = k at *
 rw [trl_of hv e]
 unfold cutB
 rw [Bool.eq_iff_iff, decide_eq_true_iff, decide_eq_true_iff]
 obtain ⟨N, rfl⟩ := Int.eq_ofNat_of_zero_le (Int.le_of_lt hn)
 rw [Int.toNat_natCast]
 constructor
 · intro c z
   obtain ⟨d, rfl⟩ : ∃ d, N = k + 1 + d := ⟨N - k - 1, by omega⟩
   obtain ⟨q, hq⟩ := Nat.dvd_of_mod_eq_zero z
   rw [hq, Nat.pow_add, Nat.pow_succ, Nat.mul_assoc, Nat.mul_assoc] at e
   have := Nat.eq_of_mul_eq_mul_left (Nat.pow_pos (by omega)) e
   omega
 · intro c
   by_cases d : (k : Int) < (N : Int)
   · exact d
   · exfalso
     apply c
     obtain ⟨d, rfl⟩ : ∃ d, k = N + d := ⟨k - N, by omega⟩
     rw [e, Nat.pow_add, Nat.mul_assoc]
     exact Nat.mul_mod_right _ _
theorem ret_i64' {a b : Int} (h : a = b) : Ending.returned (.int .i64 a) = .returned (.int .i64 b) := by rw [h]
theorem wtrail_any (h l : Int) (h1 : Word h) (h2 : Word l) (w : World) (hT : Tab w) :
 Calls Tryz.prog 174 #[.agg #[.int .u64 h, .int .u64 l]] w fun e w' => e = .returned (.int .i64 (trl (val h l))) ∧ Below w.heap.size w w' := by
 have hT1 : ∀ o, Tab (w.alloc o) := fun o => hT.below ((Below.refl _ _).alloc (Nat.le_refl _) _) hT.pos
 by_cases c : l = 0
 · have c' : (l == 0) = true := by simpa using c
   have hL : trl (val h l) = 64 + ctzW h := by rw [c]; exact trl_high h1
   have b1 := ctzW_01 h1
   clear c
   go_enter Tryz.func174, Tryz.ntmps174
   go_wp2_with (go_at_call 177; refine (tz64_any h h1 _ (hT1 _)).mono ?_; rintro e w' ⟨rfl, rfl⟩)
   go_ret
   exact ⟨ret_i64' hL.symm, (Below.refl _ _).alloc (Nat.le_refl _) _⟩
 · have c' : (l == 0) = false := by simpa using c
   have hL : trl (val h l) = ctzW l := trl_low h1 h2 c
   go_enter Tryz.func174, Tryz.ntmps174
   go_wp2_with (go_at_call 177; refine (tz64_any l h2 _ (hT1 _)).mono ?_; rintro e w' ⟨rfl, rfl⟩)
   go_ret
   exact ⟨ret_i64' hL.symm, (Below.refl _ _).alloc (Nat.le_refl _) _⟩
theorem wright_any (h l n : Int) (h1 : Word h) (h2 : Word l) (w : World) (hT : Tab w) :
 Calls Tryz.prog 152 #[.agg #[.int .u64 h, .int .u64 l], .int .i64 n] w fun e w' => e = .returned (.tuple #[.agg #[.int .u64 (hiW (shr (val h l) n)), .int .u64 (loW (shr (val h l) n))], .bool (cutB (val h l) n)]) ∧ Below w.heap.size w w' := by
 have hT1 : ∀ o p, Tab ((w.alloc o).alloc p) := fun o p => hT.below (((Below.refl _ _).alloc (Nat.le_refl _) _).alloc (by simp) _) hT.pos
 by_cases c : n ≤ 0
 · go_enter Tryz.func152, Tryz.ntmps152
   go_wp2
   have e : n.toNat = 0 := by omega
   refine bodyPost_ret (v := .tuple #[.agg #[.int .u64 h, .int .u64 l], .bool false]) (by simp [results, Tryz.results152, go_sem]) rfl ⟨?_, ((Below.refl _ _).alloc (Nat.le_refl _) _).alloc (by simp) _⟩
   unfold shr cutB
   rw [e, Nat.pow_zero, Nat.div_one, hiW_val h1 h2, loW_val h1 h2, Nat.mod_one]
   rfl
 · have hn : 0 < n := by omega
   have q : ((h == 0) = true ∧ (l == 0) = true ∧ val h l = 0) ∨ (((h == 0) = true ∧ (l == 0) = false ∨ (h == 0) = false) ∧ val h l ≠ 0) := by
    have a := h1.1; have b := h2.1
    by_cases x : h = 0 <;> by_cases y : l = 0
    · exact Or.inl ⟨by simpa using x, by simpa using y, by unfold val; omega⟩
    · exact Or.inr ⟨Or.inl ⟨by simpa using x, by simpa using y⟩, by unfold val; omega⟩
    · exact Or.inr ⟨Or.inr (by simpa using x), by unfold val; omega⟩
    · exact Or.inr ⟨Or.inr (by simpa using x), by unfold val; omega⟩
   rcases q with ⟨q1, q2, q3⟩ | ⟨q, q3⟩
   · have hC : cutB (val h l) n = false := by unfold cutB; rw [q3]; simp
     have HC : Hid (cutB (val h l) n = false) := hC
     clear hC q3
     go_enter Tryz.func152, Tryz.ntmps152
     go_wp2_with (go_at_call 175; refine (wdown_any h l n h1 h2 hn _).mono ?_; rintro e wa ⟨rfl, hba⟩; obtain ⟨hca, hfa⟩ := bcell hba; simp at hca hfa)
     refine bodyPost_ret (v := .tuple #[.agg #[.int .u64 (hiW (shr (val h l) n)), .int .u64 (loW (shr (val h l) n))], .bool false]) (by simp [results, Tryz.results152, go_sem, hca]) rfl ⟨by rw [HC.out], ?_⟩
     exact (((((Below.refl _ _).alloc (Nat.le_refl _) _).alloc (by simp) _).trans (hba.mono (by simp; omega))).setCell (by simp) _).setCell (by simp) _
   · have hC := cut_trl (val_lt h1 h2) q3 n hn
     have HC : Hid (decide (trl (val h l) < n) = cutB (val h l) n) := hC
     clear hC q3
     rcases q with ⟨q1, q2⟩ | q1
     all_goals
      go_enter Tryz.func152, Tryz.ntmps152
      go_wp2_with (first
       | (go_at_call 174; refine (wtrail_any h l h1 h2 _ (hT1 _ _)).mono ?_; rintro e wt ⟨rfl, hbt⟩; obtain ⟨hct, hft⟩ := bcell hbt; have st := hbt.size; simp at hct hft st; have s0 : w.heap.size < wt.heap.size := (by omega); have s1 : w.heap.size + 1 < wt.heap.size := (by omega))
       | (go_at_call 175; refine (wdown_any h l n h1 h2 hn _).mono ?_; rintro e wa ⟨rfl, hba⟩; obtain ⟨hca, hfa⟩ := bcell hba; have sa := hba.size))
      have c0 : wa.cell? ⟨w.heap.size + 1, 0, none⟩ = some (.int .u64 0) := by rw [hca _ _ (by omega), hct _ _ (by omega)]; simp
      have c1 : wa.cell? ⟨w.heap.size + 1, 1, none⟩ = some (.int .u64 0) := by rw [hca _ _ (by omega), hct _ _ (by omega)]; simp
      refine bodyPost_ret (v := .tuple #[.agg #[.int .u64 (hiW (shr (val h l) n)), .int .u64 (loW (shr (val h l) n))], .bool (decide (trl (val h l) < n))]) (by simp [results, Tryz.results152, go_sem, c0, c1]) rfl ⟨by rw [HC.out], ?_⟩
      exact ((((((Below.refl _ _).alloc (Nat.le_refl _) _).alloc (by simp) _).trans (hbt.mono (by simp; omega))).trans (hba.mono (by omega))).setCell (by simp) _).setCell (by simp) _
end Go.Proofs.YtbpfhnndlknloaaGreatDoor
