/-
  Holds: VPn3 VPwS VPwT VPn4 VPwU.
-/
import Derived.Test.YtjagnfddmlkalaaGreatDoorRows
import Derived.Laws.Externs
import Derived.WalkKit
import Derived.WalkSpells
import Derived.WalkLawsBesides
import Derived.Lib.Mul64
import Derived.Lib.TrailingZeros
import Derived.Lib.ItoaNum
import Derived.Deep.OwnRows
import Derived.Laws.CopyOwn
import Derived.BigQuiet
import Derived.Deep.RegionHeld3
import Derived.Deep.LoopGhost
import Derived.Deep.AppendLies
import Derived.Test.YtjagnfddmlkalaaGreatDoorKj20
set_option maxRecDepth 100000
set_option maxHeartbeats 4000000
namespace Go.Proofs.YtjagnfddmlkalaaGreatDoor
open Go.RowKit
theorem dV_put (K : IntKind) (F : Nat → Nat) (k r : Nat) : dV K (Big.put F k r) (k + 1) = dV K F k ++ [.int K (r : Int)] := by
 rw [dV_succ, Big.put_at, dV_congr (G := F) (fun i hi => Big.put_ne (by omega))]
theorem V_putB (F : Nat → Nat) (k r : Nat) : Big.V (Big.put F k r) (k + 1) = Big.V F k + r * Big.B ^ k := by
 rw [Big.V_succ, Big.put_at, Big.V_put_low (Nat.le_refl _)]
def Fits (L X : Nat) : Prop := ∃ k, k ≤ L ∧ X < Big.B ^ k
theorem Fits.up {L M X : Nat} (h : Fits L X) (hl : L ≤ M) : Fits M X := by
 obtain ⟨k, a, b⟩ := h
 exact ⟨k, Nat.le_trans a hl, b⟩
theorem Fits.le {L X Y : Nat} (h : Fits L X) (hl : Y ≤ X) : Fits L Y := by
 obtain ⟨k, a, b⟩ := h
 exact ⟨k, a, Nat.lt_of_le_of_lt hl b⟩
theorem Fits.lt {L X : Nat} (h : Fits L X) : X < Big.B ^ L := by
 obtain ⟨k, a, b⟩ := h
 exact Nat.lt_of_lt_of_le b (Nat.pow_le_pow_right Big.B_pos a)
theorem Fits.mul {L M X Y : Nat} (h : Fits L X) (k : Fits M Y) : Fits (L + M) (X * Y) := by
 refine ⟨L + M, Nat.le_refl _, ?_⟩
 rw [Nat.pow_add]
 exact Nat.mul_lt_mul'' h.lt k.lt
theorem Fits.word {n X : Nat} (h : X < B ^ n) : Fits (2 * n) X := ⟨2 * n, Nat.le_refl _, by rw [← BB_pow]; exact h⟩
theorem big_len {f : Nat → Nat} {n L : Nat} (t : Big.Top f n) (h : Fits L (Big.V f n)) : n ≤ L := Big.len_le t h.lt
def num2 (k r : Nat) : Nat := if k = 0 then r else 0
theorem num2_zero (r : Nat) : num2 0 r = r := rfl
theorem num2_bad {k : Nat} (h : k ≠ 0) (r : Nat) : num2 k r = 0 := by unfold num2; rw [if_neg h]
theorem verr_nat {f : Nat → Nat} {n : Nat} (h : verr f n = 0) : n ≤ 128 ∧ Top f n := by
 unfold verr at h
 by_cases q : 128 < n
 · rw [if_pos q] at h; omega
 · rw [if_neg q] at h
   refine ⟨by omega, ?_⟩
   by_cases z : n = 0
   · exact Or.inl z
   · right
     intro e
     rw [if_pos ⟨by omega, e⟩] at h
     omega
theorem errV_succ {k : Nat} (h : k ≠ 0) : errV k = .iface 42 (.int .i64 (k : Int)) := by
 cases k with
 | zero => exact absurd rfl h
 | succ k => rfl
theorem D_two : Big.B = 2 ^ 32 := by decide
theorem D_pow (k : Nat) : Big.B ^ k = 2 ^ (32 * k) := by rw [Nat.pow_mul, D_two]
def bl (X : Nat) : Nat := if X = 0 then 0 else Nat.log2 X + 1
theorem bl_of {X L : Nat} (h1 : 2 ^ L ≤ X) (h2 : X < 2 ^ (L + 1)) : bl X = L + 1 := by
 have hp : 0 < 2 ^ L := Nat.pow_pos (by omega)
 have h0 : X ≠ 0 := by omega
 unfold bl
 rw [if_neg h0, (Nat.log2_eq_iff h0).2 ⟨h1, h2⟩]
theorem bl_lt (X : Nat) : X < 2 ^ bl X := by
 unfold bl
 split
 · rename_i h; rw [h]; decide
 · exact Nat.lt_log2_self
theorem bl_le {X : Nat} (h : X ≠ 0) : 2 ^ (bl X - 1) ≤ X := by
 unfold bl
 rw [if_neg h, Nat.add_sub_cancel]
 exact Nat.log2_self_le h
theorem bl_pos {X : Nat} (h : X ≠ 0) : 0 < bl X := by unfold bl; rw [if_neg h]; omega
theorem bl_zero : bl 0 = 0 := rfl
theorem bl_mono_le {X L : Nat} (h : X < 2 ^ L) : bl X ≤ L := by
 by_cases z : X = 0
 · subst z; rw [bl_zero]; omega
 · rcases Nat.lt_or_ge L (bl X) with q | q
   · have a := bl_le z
     have b : 2 ^ L ≤ 2 ^ (bl X - 1) := Nat.pow_le_pow_right (by omega) (by omega)
     omega
   · exact q
theorem two_fits {s k : Nat} (h : s < 32 * k) : Fits k (2 ^ s) := by
 refine ⟨k, Nat.le_refl _, ?_⟩
 rw [D_pow]
 exact Nat.pow_lt_pow_right (by omega) h
theorem upB_gen {v z P a x t s d r q : Nat} (hv : v + z * P = a * s) (e : d * q + r = x * t + z) : v + r * P + q * (P * d) = a * s + x * (t * P) := by
 have h : r * P + q * (P * d) = (d * q + r) * P := by grind
 rw [e] at h
 grind
theorem shiftDown_far {w : World} {ao : Option Addr} {n c s q : Nat} (hq : s / 64 = q) (hqn : n ≤ q) (hs : s < 9223372036854775808) :
 Calls Tryz.prog 135 #[.slice ao n c, .int .i64 (s : Int)] w fun e w' => e = .returned (.tuple #[.slice none 0 0, .bool (decide (0 < n))]) ∧ w' = w := by
 have e1 : (s : Int) / 64 = (q : Int) := by omega
 have e2 : (n : Int) ≤ (q : Int) := by omega
 have hq2 : q < 9223372036854775808 := by omega
 have e3 : decide ((0 : Int) < (n : Int)) = decide (0 < n) := by
  by_cases z : 0 < n
  · rw [decide_eq_true z, decide_eq_true (by omega)]
  · rw [decide_eq_false z, decide_eq_false (by omega)]
 rw [← e3]
 clear e3 hqn hq
 go_enter Tryz.func135, Tryz.ntmps135
 go_wp2
 refine bodyPost_ret (v := .tuple #[.slice none 0 0, .bool (decide ((0 : Int) < (n : Int)))]) (by simp [results, Tryz.results135, go_sem]) rfl ⟨rfl, rfl⟩
theorem shr_ok {w : World} (hT : Tab w) {va : Value} {X : Nat} (ha : NatV w va X) (s : Nat) (hs : s < 9223372036854775808) :
 Calls Tryz.prog 116 #[va, .int .i64 (s : Int)] w fun e w' => ∃ v, e = .returned (.tuple #[v, .bool (decide (X % 2 ^ s ≠ 0)), .nilIface]) ∧ NatV w' v (X / 2 ^ s) ∧ Below w.heap.size w w' := by
 obtain ⟨ao, n, c, b, o, f, rfl, S, t, rfl, hn⟩ := ha
 have h1 := valid_any S
 rw [verr_ok hn t] at h1
 unfold errV at h1
 have cs : (0 : Int) ≤ (s : Int) := by omega
 have HS : Hid (Sl w ao n c b o f) := S
 have HV : Hid (V f n < B ^ n) := V_lt S.ws n
 have HT : Hid (Top f n) := t
 by_cases hqn : n ≤ s / 64
 · have lt : V f n < 2 ^ s := by
    refine Nat.lt_of_lt_of_le HV.out ?_
    rw [twoB_pow]
    exact Nat.pow_le_pow_right (by omega) (by omega)
   have eq : V f n / 2 ^ s = 0 := Nat.div_eq_of_lt lt
   have er : decide (V f n % 2 ^ s ≠ 0) = decide (0 < n) := by
    rw [Nat.mod_eq_of_lt lt]
    by_cases z : 0 < n
    · have q := Top_ge t z
      have := Bp_pos (n - 1)
      rw [decide_eq_true z, decide_eq_true (by omega)]
    · have : n = 0 := by omega
      subst this
      rfl
   rw [eq, er]
   have TN : Calls Tryz.prog 95 #[.slice none 0 0] w fun e w' => e = .returned (.slice none (tl (fun _ => 0) 0) (tl (fun _ => 0) 0)) ∧ w' = w :=
    trim_any (n := 0) (c := 0) (b := 0) (o := 0) (f := fun _ => 0) ⟨Nat.le_refl _, Nat.zero_le _, fun h => absurd h (by omega), fun h => absurd h (by omega), fun i h => absurd h (by omega), fun _ => B_pos⟩
   obtain ⟨Z, hZ⟩ : ∃ Z, Z = decide (0 < n) := ⟨_, rfl⟩
   rw [← hZ]
   have HZ : Hid (decide (0 < n) = Z) := hZ.symm
   clear TN lt eq er S t hZ
   go_enter Tryz.func116, Tryz.ntmps116
   go_wp2_with fail
   refine h1.mono ?_
   rintro e wa ⟨rfl, hba⟩
   have SD := shiftDown_far (w := wa) (ao := ao) (c := c) (s := s) (n := n) rfl hqn hs
   rw [HZ.out] at SD
   go_wp2_with fail
   refine SD.mono ?_
   rintro e wb ⟨rfl, rfl⟩
   have TN : Calls Tryz.prog 95 #[.slice none 0 0] wb fun e w' => e = .returned (.slice none (tl (fun _ => 0) 0) (tl (fun _ => 0) 0)) ∧ w' = wb :=
    trim_any (n := 0) (c := 0) (b := 0) (o := 0) (f := fun _ => 0) ⟨Nat.le_refl _, Nat.zero_le _, fun h => absurd h (by omega), fun h => absurd h (by omega), fun i h => absurd h (by omega), fun _ => B_pos⟩
   go_wp2_with fail
   refine TN.mono ?_
   rintro e wc ⟨rfl, rfl⟩
   go_wp2
   refine bodyPost_ret (v := .tuple #[.slice none 0 0, .bool Z, .nilIface]) (by simp [results, Tryz.results116, go_sem, tl]) rfl ⟨_, rfl, natv_nil _, hba⟩
 · have hv0 : V f n ≠ 0 := by
    have q := Top_ge t (by omega)
    have := Bp_pos (n - 1)
    omega
   obtain ⟨q, p, hsq, hp⟩ : ∃ q p, s = 64 * q + p ∧ p < 64 := ⟨s / 64, s % 64, by omega, by omega⟩
   have hqn2 : q < n := by omega
   have HQ : Hid (s = 64 * q + p) := hsq
   have H0 : Hid (V f n ≠ 0) := hv0
   have HL : Hid (V f n / 2 ^ s < B ^ 128) := Nat.lt_of_le_of_lt (Nat.div_le_self _ _) (Nat.lt_of_lt_of_le HV.out (Nat.pow_le_pow_right B_pos hn))
   clear hv0 hsq S t hqn
   obtain ⟨Z, hZ⟩ : ∃ Z, Z = decide (V f n % 2 ^ s ≠ 0) := ⟨_, rfl⟩
   rw [← hZ]
   have HZ : Hid (decide (V f n % 2 ^ s ≠ 0) = Z) := hZ.symm
   clear hZ
   go_enter Tryz.func116, Tryz.ntmps116
   go_wp2_with fail
   refine h1.mono ?_
   rintro e wa ⟨rfl, hba⟩
   have SD := shiftDown_any (hT.next hba) (HS.out.below hba) (by omega) s q p HQ.out hp hqn2 H0.out
   rw [HZ.out] at SD
   clear h1
   go_wp2_with fail
   refine SD.mono ?_
   rintro e wb ⟨rfl, hbb, F, R, hv⟩
   obtain ⟨nv, hl⟩ := natv_tl R (by unfold maxLen; omega) hv HL.out
   have BB : Below w.heap.size w wb := hba.trans (hbb.mono hba.size)
   have TT := trim_any (row_sl0 R (by unfold maxLen; omega))
   go_wp2_with fail
   refine TT.mono ?_
   rintro e w4 ⟨rfl, rfl⟩
   go_wp2
   refine bodyPost_ret (v := .tuple #[.slice (some ⟨wa.heap.size, 0, none⟩) (tl F (n - q)) (tl F (n - q)), .bool Z, .nilIface]) (by simp [results, Tryz.results116, go_sem]) rfl ⟨_, rfl, nv, BB⟩
theorem length_eq {f : Nat → Nat} {n : Nat} (hf : Ws f) (t : Top f n) (h0 : 0 < n) : ((n : Int) - 1) * 64 + blen (f (n - 1) : Int) = (bl (V f n) : Int) := by
 obtain ⟨k, rfl⟩ : ∃ k, n = k + 1 := ⟨n - 1, by omega⟩
 have tk : f k ≠ 0 := by
  rcases t with z | z
  · omega
  · simpa using z
 have hw' : f k < 18446744073709551616 := hf k
 obtain ⟨m, e, hm, h1, h2⟩ := blen_bounds (f k : Int) (by omega) (by omega)
 have h1' : 2 ^ m ≤ f k := by exact_mod_cast h1
 have h2' : f k < 2 ^ (m + 1) := by exact_mod_cast h2
 have lo := V_lt hf k
 rw [twoB_pow] at lo
 have ev : V f (k + 1) = V f k + f k * 2 ^ (64 * k) := by rw [V_succ, twoB_pow]
 have hb : bl (V f (k + 1)) = 64 * k + m + 1 := by
  rw [ev]
  refine bl_of ?_ ?_
  · rw [Nat.pow_add, Nat.mul_comm (2 ^ (64 * k))]
    have := Nat.mul_le_mul_right (2 ^ (64 * k)) h1'
    omega
  · rw [Nat.add_assoc, Nat.pow_add, Nat.mul_comm (2 ^ (64 * k))]
    have := Nat.mul_le_mul_right (2 ^ (64 * k)) (Nat.succ_le_of_lt h2')
    rw [Nat.succ_mul] at this
    omega
 rw [show k + 1 - 1 = k by omega, e, hb]
 omega
theorem length_full {w : World} {ao : Option Addr} {n c b o : Nat} {f : Nat → Nat} (S : Sl w ao n c b o f) (t : Top f n) (hn : n ≤ 1000) :
 Calls Tryz.prog 94 #[.slice ao n c] w fun e w' => e = .returned (.int .i64 (bl (V f n) : Int)) ∧ Below w.heap.size w w' := by
 by_cases h0 : n = 0
 · subst h0
   have e : bl (V f 0) = 0 := rfl
   rw [e]
   clear e
   go_enter Tryz.func94, Tryz.ntmps94
   go_wp2
   go_ret
   exact ⟨rfl, Below.refl _ _⟩
 · rw [← length_eq S.ws t (by omega)]
   exact length_any S (by omega) hn
theorem bitsN_any {w : World} {ao : Option Addr} {n c b o : Nat} {f : Nat → Nat} (S : Sl w ao n c b o f) :
 Calls Tryz.prog 133 #[.slice ao n c] w fun e w' => e = .returned (.tuple #[.int .i64 (num2 (verr f n) (bl (V f n)) : Int), errV (verr f n)]) ∧ Below w.heap.size w w' := by
 have h1 := valid_any S
 by_cases q : verr f n = 0
 · obtain ⟨hn, t⟩ := verr_nat q
   rw [q] at h1 ⊢
   rw [num2_zero]
   unfold errV at h1 ⊢
   have HS : Hid (Sl w ao n c b o f ∧ Top f n) := ⟨S, t⟩
   clear S t q
   go_enter Tryz.func133, Tryz.ntmps133
   go_wp2_with fail
   refine h1.mono ?_
   rintro e wa ⟨rfl, hba⟩
   have T := length_full (HS.out.1.below hba) HS.out.2 (by omega)
   go_wp2_with fail
   refine T.mono ?_
   rintro e wb ⟨rfl, hbb⟩
   go_wp2
   refine bodyPost_ret (v := .tuple #[.int .i64 (bl (V f n) : Int), .nilIface]) (by simp [results, Tryz.results133, go_sem]) rfl ⟨rfl, hba.trans (hbb.mono hba.size)⟩
 · rw [num2_bad q]
   rw [errV_succ q] at h1 ⊢
   generalize verr f n = k at *
   go_enter Tryz.func133, Tryz.ntmps133
   go_wp2_with fail
   refine h1.mono ?_
   rintro e wa ⟨rfl, hba⟩
   go_wp2
   refine bodyPost_ret (v := .tuple #[.int .i64 0, .iface 42 (.int .i64 (k : Int))]) (by simp [results, Tryz.results133, go_sem]) rfl ⟨rfl, hba⟩
namespace Big.D
structure Sl (w : World) (ao : Option Addr) (n c : Nat) (b o : Nat) (f : Nat → Nat) : Prop where
 le : n ≤ c
 cap : c ≤ maxLen
 addr : 0 < n → ao = some ⟨b, o, none⟩
 blk : 0 < n → b < w.heap.size
 cell : ∀ i, i < n → w.cell? ⟨b, o + i, none⟩ = some (.int .u64 (f i : Int))
 ws : Ws f
theorem Sl.below {w w' : World} {ao : Option Addr} {n c b o : Nat} {f : Nat → Nat} (S : Sl w ao n c b o f) (hb : Below w.heap.size w w') : Sl w' ao n c b o f :=
 ⟨S.le, S.cap, S.addr, fun h => Nat.lt_of_lt_of_le (S.blk h) hb.size, fun i hi => (hb.cell (p := ⟨b, o + i, none⟩) (S.blk (by omega))).trans (S.cell i hi), S.ws⟩
theorem Sl.shorter {w : World} {ao : Option Addr} {n c b o m : Nat} {f : Nat → Nat} (S : Sl w ao n c b o f) (h : m ≤ n) : Sl w ao m c b o f :=
 ⟨Nat.le_trans h S.le, S.cap, fun q => S.addr (by omega), fun q => S.blk (by omega), fun i hi => S.cell i (by omega), S.ws⟩
theorem own_sl {w : World} {base : Nat} {e : TypeId} {v : Value} {k : Nat} {F : Nat → Nat} (h : w.ownsRow base e 1 v k (dV .u64 F k)) (hF : Ws F) :
 ∃ ao c b, v = .slice ao k c ∧ Sl w ao k c b 0 F ∧ (0 < k → base ≤ b) := by
 obtain ⟨ao, c, b, rfl, h1, h2, h3, h4⟩ := own_cells h
 exact ⟨ao, c, b, rfl, ⟨h1, h2, fun q => (h3 q).1, fun q => (h3 q).2.1, h4, hF⟩, fun q => (h3 q).2.2⟩
def NatV (w : World) (v : Value) (X : Nat) : Prop := ∃ ao n c b o f, v = .slice ao n c ∧ Sl w ao n c b o f ∧ Top f n ∧ V f n = X
theorem NatV.below {w w' : World} {v : Value} {X : Nat} (h : NatV w v X) (hb : Below w.heap.size w w') : NatV w' v X := by
 obtain ⟨ao, n, c, b, o, f, e, S, r⟩ := h
 exact ⟨ao, n, c, b, o, f, e, S.below hb, r⟩
theorem Sl.trimmed {w : World} {ao : Option Addr} {n c b o : Nat} {f : Nat → Nat} (S : Sl w ao n c b o f) : NatV w (.slice ao (tl f n) c) (V f n) :=
 ⟨_, _, _, _, _, f, rfl, S.shorter (tl_le f n), tl_top f n, tl_V f n⟩
def NewV (w : World) (base : Nat) (v : Value) (X : Nat) : Prop := ∃ ao n c b o f, v = .slice ao n c ∧ Sl w ao n c b o f ∧ Top f n ∧ V f n = X ∧ (0 < n → base ≤ b)
theorem NewV.nat {w : World} {base : Nat} {v : Value} {X : Nat} (h : NewV w base v X) : NatV w v X := by
 obtain ⟨ao, n, c, b, o, f, e, S, t, r, _⟩ := h
 exact ⟨ao, n, c, b, o, f, e, S, t, r⟩
theorem Sl.trimmedN {w : World} {ao : Option Addr} {n c b o base : Nat} {f : Nat → Nat} (S : Sl w ao n c b o f) (h : 0 < n → base ≤ b) : NewV w base (.slice ao (tl f n) c) (V f n) :=
 ⟨_, _, _, _, _, f, rfl, S.shorter (tl_le f n), tl_top f n, tl_V f n, fun q => h (by have := tl_le f n; omega)⟩
theorem und_big13 : Tryz.prog.underlying 82 = some (.slice 22) := by kernel_rfl
theorem info_u64 : (Tryz.prog.info? 22).map (fun i => (i.zero, i.size, i.bytes)) = some (some (.int .u64 0), 1, 8) := by kernel_rfl
theorem trim_any {w : World} {ao : Option Addr} {n c b o : Nat} {f : Nat → Nat} (S : Sl w ao n c b o f) :
    Calls Tryz.prog 82 #[.slice ao n c] w fun e w' => e = .returned (.slice ao (tl f n) c) ∧ w' = w := by
  have hn : n ≤ maxLen := Nat.le_trans S.le S.cap
  have hnc := S.le
  have hcm := S.cap
  unfold maxLen at hn hcm
  have HS : Hid (Sl w ao n c b o f) := S
  clear S
  go_enter Tryz.func82, Tryz.ntmps82
  go_wp2
  go_loop [3] (fun i => ∃ k : Nat, i = .int .i64 k ∧ k ≤ n ∧ tl f n = tl f k) (fun i => (intOf i).toNat)
  case atStart => exact ⟨n, rfl, Nat.le_refl _, rfl⟩
  case round =>
    obtain ⟨k, rfl, hk, htl⟩ := hrel
    have HT : Hid (tl f n = tl f k) := htl
    clear htl
    by_cases c1 : 0 < k
    · obtain rfl := HS.out.addr (by omega)
      have hc := HS.out.cell (k - 1) (by omega)
      by_cases c3 : f (k - 1) = 0
      · rw [c3] at hc
        have HT2 : Hid (tl f n = tl f (k - 1)) := by
          have a := tl_zero (f := f) (n := k - 1) c3
          rw [show k - 1 + 1 = k by omega] at a
          exact HT.out.trans a
        clear c3
        go_wp2
        go_round
        case rel => exact ⟨k - 1, by go_num, by omega, HT2.out⟩
        case measure => simp [intOf]; omega
      · have c3' : (((f (k - 1) : Nat) : Int) == 0) = false := beq_eq_false_iff_ne.mpr (by omega)
        have HT2 : Hid (tl f n = k) := by
          have a := tl_stop (f := f) (n := k - 1) c3
          rw [show k - 1 + 1 = k by omega] at a
          exact HT.out.trans a
        clear c3
        go_wp2
        go_ret
        exact ⟨by rw [HT2.out]; rfl, rfl⟩
    · obtain rfl : k = 0 := by omega
      have HT2 : Hid (tl f n = 0) := HT.out
      clear HT c1
      cases ao with
      | none =>
        go_wp2
        go_ret
        exact ⟨by rw [HT2.out]; rfl, rfl⟩
      | some a =>
        go_wp2
        go_ret
        exact ⟨by rw [HT2.out]; rfl, rfl⟩
end Big.D
structure Big.D.Row (w : World) (g N : Nat) (F : Nat → Nat) : Prop where
 row : w.rowIs g 22 N (fun i => .int .u64 (F i : Int))
 ws : Big.Ws F
theorem Big.D.Row.set {w : World} {g N : Nat} {F : Nat → Nat} (R : Big.D.Row w g N F) (i : Nat) {r : Nat} (hr : r < Big.B) : Big.D.Row (w.setCell ⟨g, i, none⟩ (.int .u64 (r : Int))) g N (Big.put F i r) := by
 refine ⟨(R.row.set i (.int .u64 (r : Int))).congr fun j hj => ?_, Big.put_Ws R.ws hr⟩
 unfold Big.put
 by_cases c : j = i
 · rw [if_pos c, if_pos c]
 · rw [if_neg c, if_neg c]
theorem Big.D.Row.drew {w : World} {g N : Nat} {F : Nat → Nat} (R : Big.D.Row w g N F) : Big.D.Row w.drew g N F := ⟨R.row.drew, R.ws⟩
theorem Big.D.Row.sl0 {w : World} {g N : Nat} {F : Nat → Nat} (R : Big.D.Row w g N F) (hN : N ≤ maxLen) : Big.D.Sl w (some ⟨g, 0, none⟩) N N g 0 F :=
 ⟨Nat.le_refl _, hN, fun _ => rfl, fun _ => R.row.lt, fun i hi => by rw [Nat.zero_add]; exact R.row.cell hi, R.ws⟩
theorem Big.D.made_row (w : World) (n : Nat) : Big.D.Row (w.alloc (.cells (madeCells #[.int .u64 0] n) 22)) w.heap.size n (fun _ => 0) := ⟨World.rowIs_made _ _ _ _, fun _ => Big.B_pos⟩
theorem dmul_big {w : World} {ao : Option Addr} {n c ba oa : Nat} {f : Nat → Nat} (S : Big.D.Sl w ao n c ba oa f) {bo : Option Addr} {m cb bb ob : Nat} {g : Nat → Nat} (S' : Big.D.Sl w bo m cb bb ob g) (hn : n ≤ 1000) (hm : m ≤ 1000) :
 Calls Tryz.prog 80 #[.slice ao n c, .slice bo m cb] w fun e w' => ∃ v, e = .returned v ∧ Big.D.NatV w' v (Big.V f n * Big.V g m) ∧ Below w.heap.size w w' := by
 have hmk := run_make_row' (P := Tryz.prog) 82 22 (.int .u64 0) 8 Big.D.und_big13 Big.D.info_u64 rfl .i64 .i64 (n + m) (by omega) (by omega)
 simp only [Int.natCast_add] at hmk
 have HS : Hid (Big.D.Sl w ao n c ba oa f) := S
 have HS' : Hid (Big.D.Sl w bo m cb bb ob g) := S'
 clear S S'
 go_enter Tryz.func80, Tryz.ntmps80
 go_wp2
 go_loopw [6] (fun i wr => ∃ (k : Nat) (F' : Nat → Nat), i = .int .i64 (k : Int) ∧ k ≤ n ∧ Big.D.Row wr w.heap.size (n + m) F' ∧ Below w.heap.size w wr ∧ (∀ j, k + m ≤ j → F' j = 0) ∧ Big.V F' (k + m) = Big.V f k * Big.V g m) (fun i _ => n - (intOf i).toNat)
 case atStart => exact ⟨0, fun _ => 0, rfl, Nat.zero_le _, Big.D.made_row _ _, (Below.refl _ _).alloc (Nat.le_refl _) _, fun _ _ => rfl, by rw [Big.V_nought, Big.V_zero, Nat.zero_mul]⟩
 case round =>
  obtain ⟨k, F', rfl, hk, R', hbl, hz, hv⟩ := hrel
  have HZ : Hid (∀ j, k + m ≤ j → F' j = 0) := hz
  have HV : Hid (Big.V F' (k + m) = Big.V f k * Big.V g m) := hv
  have HB : Hid (Below w.heap.size w wr) := hbl
  have HR : Hid (Big.D.Row wr w.heap.size (n + m) F') := R'
  clear hz hv
  by_cases c1 : k < n
  · obtain rfl := HS.out.addr (by omega)
    have hxB := HS.out.ws k
    unfold Big.B at hxB
    clear hbl R'
    go_wp2
    go_loopw [7, 8] (fun cy i w2 => ∃ (j v : Nat) (F2 : Nat → Nat), cy = .int .u64 (v : Int) ∧ i = .int .i64 (j : Int) ∧ j ≤ m ∧ v < 4294967296 ∧ Big.D.Row w2 w.heap.size (n + m) F2 ∧ Below w.heap.size w w2 ∧ (∀ t, t < k ∨ k + j ≤ t → F2 t = F' t) ∧ Big.V (fun t => F2 (k + t)) j + v * Big.B ^ j = Big.V (fun t => F' (k + t)) j + Big.V g j * f k) (fun _ i _ => m - (intOf i).toNat)
    case atStart => exact ⟨0, 0, F', rfl, rfl, Nat.zero_le _, by omega, HR.out, HB.out, fun _ _ => rfl, by simp [Big.V]⟩
    case round =>
     obtain ⟨j, v, F2, rfl, rfl, hj, hv4, R2, hb2, hfr, hVV⟩ := hrel
     have HF : Hid (∀ t, t < k ∨ k + j ≤ t → F2 t = F' t) := hfr
     have HVV : Hid (Big.V (fun t => F2 (k + t)) j + v * Big.B ^ j = Big.V (fun t => F' (k + t)) j + Big.V g j * f k) := hVV
     have HR2 : Hid (Big.D.Row wr w.heap.size (n + m) F2) := R2
     have HB2 : Hid (Below w.heap.size w wr) := hb2
     clear hfr hVV
     by_cases c2 : j < m
     · obtain rfl := HS'.out.addr (by omega)
       have ca := (HS.out.below hb2).cell k c1
       have cb' := (HS'.out.below hb2).cell j c2
       have cz := R2.row.cell (i := k + j) (by omega)
       have fz := R2.row.frozen (k + j)
       have hyB := HS'.out.ws j
       have hzB := R2.ws (k + j)
       unfold Big.B at hyB hzB
       have pm : ((f k : Nat) : Int) * ((g j : Nat) : Int) = ((f k * g j : Nat) : Int) := by rw [Int.natCast_mul]
       have pl : f k * g j ≤ 18446744065119617025 := Nat.mul_le_mul (show f k ≤ 4294967295 by omega) (show g j ≤ 4294967295 by omega)
       have dm := Nat.div_add_mod (v + F2 (k + j) + f k * g j) Big.B
       have st := times_step (β := Big.B) (y := g j) (z := F2 (k + j)) (l := (v + F2 (k + j) + f k * g j) % Big.B) (d := (v + F2 (k + j) + f k * g j) / Big.B) HVV.out (by rw [Nat.mul_comm _ Big.B]; omega)
       have hr : (v + F2 (k + j) + f k * g j) % Big.B < Big.B := Nat.mod_lt _ Big.B_pos
       have hq : (v + F2 (k + j) + f k * g j) / Big.B < 4294967296 := by unfold Big.B; omega
       have e1 : (((f k * g j : Nat) : Int) + ((F2 (k + j) : Nat) : Int) + (v : Int)) % 4294967296 = (((v + F2 (k + j) + f k * g j) % Big.B : Nat) : Int) := by unfold Big.B; omega
       have e2 : (((f k * g j : Nat) : Int) + ((F2 (k + j) : Nat) : Int) + (v : Int)) / 4294967296 = (((v + F2 (k + j) + f k * g j) / Big.B : Nat) : Int) := by unfold Big.B; omega
       have HFK : Hid (F2 (k + j) = F' (k + j)) := HF.out _ (Or.inr (by omega))
       have HST := (show Hid _ from st)
       clear st dm R2 hb2
       generalize (v + F2 (k + j) + f k * g j) % Big.B = r at *
       generalize (v + F2 (k + j) + f k * g j) / Big.B = q at *
       generalize f k * g j = P at *
       have i1 : (0 : Int) ≤ (k : Int) + (j : Int) := by omega
       have i2 : (k : Int) + (j : Int) < (n : Int) + (m : Int) := by omega
       have i3 : (k : Int) < (n : Int) := by omega
       have i4 : (j : Int) < (m : Int) := by omega
       have i5 : IntKind.i64.wrap ((k : Int) + (j : Int)) = (k : Int) + (j : Int) := by rw [IntWalk.i64_left, IntWalk.wrap64_in _ ⟨by omega, by omega⟩]
       have i6 : ((k : Int) + (j : Int)).toNat = k + j := by omega
       have u5 : IntKind.u64.wrap (P : Int) = (P : Int) := by rw [IntKind.wrap_u64]; omega
       have u2 : IntKind.u64.wrap ((P : Int) + ((F2 (k + j) : Nat) : Int)) = (P : Int) + ((F2 (k + j) : Nat) : Int) := by rw [IntKind.wrap_u64]; omega
       have u6 : IntKind.u64.wrap ((P : Int) + ((F2 (k + j) : Nat) : Int) + (v : Int)) = (P : Int) + ((F2 (k + j) : Nat) : Int) + (v : Int) := by rw [IntKind.wrap_u64]; omega
       go_wp2
       go_region_held3 (fun w' => w'.cell? ⟨w.heap.size, k + j, none⟩ = some (.int .u64 ((F2 (k + j) : Nat) : Int)) ∧ w'.cell? ⟨ba, oa + k, none⟩ = some (.int .u64 ((f k : Nat) : Int)) ∧ w'.cell? ⟨bb, ob + j, none⟩ = some (.int .u64 ((g j : Nat) : Int))) (go_keep) (fail)
       go_wp2
       go_roundw
       case rel =>
        refine ⟨j + 1, q, Big.put F2 (k + j) r, by rw [e2], by go_num, by omega, hq, HR2.out.drew.set (k + j) hr, HB2.out.drew.setCell (Nat.le_refl _) _, ?_, ?_⟩
        · intro t ht
          rw [Big.put_ne (by omega)]
          exact HF.out t (by omega)
        · have e : Big.V (fun t => Big.put F2 (k + j) r (k + t)) (j + 1) = Big.V (fun t => F2 (k + t)) j + r * Big.B ^ j := by
           rw [Big.V_succ, Big.V_congr (f := fun t => Big.put F2 (k + j) r (k + t)) (g := fun t => F2 (k + t)) (fun i hi => Big.put_ne (by omega)), Big.put_at]
          rw [e, Big.V_succ (fun t => F' (k + t)), Big.V_succ g, Nat.pow_succ]
          have s := HST.out
          rw [HFK.out] at s
          exact s
       case measure => simp [intOf]; omega
     · obtain rfl : j = m := by omega
       have cz := R2.row.cell (i := k + j) (by omega)
       have fz := R2.row.frozen (k + j)
       have hvB : v < Big.B := hv4
       clear R2 hb2
       go_wp2
       go_roundw
       case rel =>
        refine ⟨k + 1, Big.put F2 (k + j) v, by go_num, by omega, HR2.out.set (k + j) hvB, HB2.out.setCell (Nat.le_refl _) _, ?_, ?_⟩
        · intro t ht
          rw [Big.put_ne (by omega), HF.out t (by omega)]
          exact HZ.out t (by omega)
        · have e1 : Big.V (Big.put F2 (k + j) v) (k + 1 + j) = Big.V F2 (k + j) + v * Big.B ^ (k + j) := by
           rw [show k + 1 + j = k + j + 1 by omega, Big.V_succ, Big.V_put_low (Nat.le_refl _), Big.put_at]
          have e2 := Big.V_split F2 k j
          have e3 := Big.V_split F' k j
          have e4 : Big.V F2 k = Big.V F' k := Big.V_congr fun i hi => HF.out i (by omega)
          rw [e4] at e2
          rw [e1, e2, Big.V_succ f k, Nat.pow_add]
          have e5 := mult_gen (p := Big.B ^ k) HVV.out (u := Big.V F' k) (a := Big.V f k) (by rw [← e3]; exact HV.out)
          rw [← e5]
          exact split_gen2
       case measure => simp [intOf]; omega
  · obtain rfl : k = n := by omega
    have T := Big.D.trim_any (R'.sl0 (by unfold maxLen; omega))
    have NV := (R'.sl0 (by unfold maxLen; omega)).trimmed
    rw [HV.out] at NV
    clear R'
    go_wp2_with fail
    refine T.mono ?_
    rintro e wa ⟨rfl, rfl⟩
    go_wp2
    go_ret
    exact ⟨_, rfl, NV, hbl⟩
theorem dmul_nat {w : World} {va vb : Value} {X Y : Nat} (ha : Big.D.NatV w va X) (hb : Big.D.NatV w vb Y) (hX : Fits 1000 X) (hY : Fits 1000 Y) :
 Calls Tryz.prog 80 #[va, vb] w fun e w' => ∃ v, e = .returned v ∧ Big.D.NatV w' v (X * Y) ∧ Below w.heap.size w w' := by
 obtain ⟨ao, n, c, b, o, f, rfl, S, t, rfl⟩ := ha
 obtain ⟨bo, m, cb, bb, ob, g, rfl, S', t', rfl⟩ := hb
 exact dmul_big S S' (big_len t hX) (big_len t' hY)
def ldz (h l : Int) : Int := if h = 0 then 128 - blen l else 64 - blen h
theorem wlead_any (h l : Int) (h1 : Word h) (h2 : Word l) (w : World) :
 Calls Tryz.prog 31 #[.agg #[.int .u64 h, .int .u64 l]] w fun e w' => e = .returned (.int .i64 (ldz h l)) ∧ Below w.heap.size w w' := by
 have b1 := blen_01 l h2.1 h2.2
 by_cases c : h = 0
 · have c' : (h == 0) = true := by simpa using c
   have hL : ldz h l = 64 + (64 - blen l) := by unfold ldz; rw [if_pos c]; omega
   clear c
   go_enter Tryz.func31, Tryz.ntmps31
   go_wp2_with (go_at_call 65; refine (lead64_any l h2 _).mono ?_; rintro e w' ⟨rfl, rfl⟩)
   go_ret
   exact ⟨by rw [hL]; rfl, (Below.refl _ _).alloc (Nat.le_refl _) _⟩
 · have c' : (h == 0) = false := by simpa using c
   have hL : ldz h l = 64 - blen h := by unfold ldz; rw [if_neg c]
   go_enter Tryz.func31, Tryz.ntmps31
   go_wp2_with (go_at_call 65; refine (lead64_any h h1 _).mono ?_; rintro e w' ⟨rfl, rfl⟩)
   go_ret
   exact ⟨by rw [hL]; rfl, (Below.refl _ _).alloc (Nat.le_refl _) _⟩
theorem ret_n {x x' y y' : Int} (hx : x = x') (hy : y = y') : Ending.returned (.agg #[.int .u64 x, .int .u64 y]) = .returned (.agg #[.int .u64 x', .int .u64 y']) := by rw [hx, hy]
theorem wleft_any (h l n : Int) (h1 : Word h) (h2 : Word l) (w : World) :
 Calls Tryz.prog 117 #[.agg #[.int .u64 h, .int .u64 l], .int .i64 n] w fun e w' => e = .returned (.agg #[.int .u64 (hiW (shl (val h l) n)), .int .u64 (loW (shl (val h l) n))]) ∧ Below w.heap.size w w' := by
 have l0 := h1.1
 have l1 := h2.1
 rcases (by omega : n ≤ 0 ∨ 128 ≤ n ∨ (64 ≤ n ∧ n < 128) ∨ (0 < n ∧ n < 64)) with c | c | ⟨c, d⟩ | ⟨c, d⟩
 · go_enter Tryz.func117, Tryz.ntmps117
   go_wp2
   have hv := val_lt h1 h2
   have e : shl (val h l) n = val h l := by unfold shl; rw [show n.toNat = 0 by omega, Nat.pow_zero, Nat.mul_one, Nat.mod_eq_of_lt hv]
   refine bodyPost_ret (v := .agg #[.int .u64 h, .int .u64 l]) (by simp [results, Tryz.results117, go_sem]) rfl ⟨ret_n (by rw [e, hiW_val h1 h2]) (by rw [e, loW_val h1 h2]), ((Below.refl _ _).alloc (Nat.le_refl _) _).alloc (by simp) _⟩
 · go_enter Tryz.func117, Tryz.ntmps117
   go_wp2
   have e : shl (val h l) n = 0 := shl_none _ _ (by omega)
   refine bodyPost_ret (v := .agg #[.int .u64 0, .int .u64 0]) (by simp [results, Tryz.results117, go_sem]) rfl ⟨ret_n (by rw [e, hiW_zero]) (by rw [e, loW_zero]), ((Below.refl _ _).alloc (Nat.le_refl _) _).alloc (by simp) _⟩
 · go_enter Tryz.func117, Tryz.ntmps117
   go_wp2
   obtain ⟨e1, e2⟩ := shl_words64 h1 h2 n.toNat (by omega)
   rw [show n.toNat - 64 = (n - 64).toNat by omega] at e1
   refine bodyPost_ret (v := .agg #[.int .u64 (IntKind.u64.wrap (l * 2 ^ (n - 64).toNat)), .int .u64 0]) (by simp [results, Tryz.results117, go_sem]) rfl ⟨ret_n e1 e2, ((Below.refl _ _).alloc (Nat.le_refl _) _).alloc (by simp) _⟩
 · go_enter Tryz.func117, Tryz.ntmps117
   go_wp2
   go_region
   all_goals
    go_wp2
    obtain ⟨e1, e2⟩ := shl_words h1 h2 n.toNat (by omega)
    rw [show 64 - n.toNat = (64 - n).toNat by omega] at e1
    refine bodyPost_ret (v := .agg #[.int .u64 (bits BinOp.or IntKind.u64 (IntKind.u64.wrap (h * 2 ^ n.toNat)) (l / 2 ^ (64 - n).toNat)), .int .u64 (IntKind.u64.wrap (l * 2 ^ n.toNat))]) (by simp [results, Tryz.results117, go_sem]) rfl ⟨ret_n e1 e2, (((Below.refl _ _).alloc (Nat.le_refl _) _).alloc (by simp) _).drew⟩
theorem made_dV64 (q : Nat) : (madeCells #[.int .u64 0] q).toList = dV .u64 (fun _ => 0) q := by
 apply List.ext_getElem?
 intro i
 by_cases h : i < q
 · rw [dV_get h]; simp [madeCells, h, Nat.mod_one]
 · simp [madeCells, dV, h]
theorem wrap_nat64 {t : Nat} (h : t < 18446744073709551616) : IntKind.u64.wrap (t : Int) = (t : Int) := by rw [IntKind.wrap_u64]; omega
theorem dshl_big {w : World} {ao : Option Addr} {n c b o : Nat} {f : Nat → Nat} (S : Big.D.Sl w ao n c b o f) (hn : n ≤ 1000) (s q p : Nat) (hsq : s = 32 * q + p) (hp : p < 32) (hq : q ≤ 1000) :
 Calls Tryz.prog 78 #[.slice ao n c, .int .i64 (s : Int)] w fun e w' => ∃ v, e = .returned v ∧ Big.D.NewV w' w.heap.size v (Big.V f n * 2 ^ s) ∧ Below w.heap.size w w' := by
 obtain ⟨i0, hi, hz0, hz1, hz2⟩ := info_parts Big.D.info_u64
 have hmk := run_make_row' (P := Tryz.prog) 82 22 (.int .u64 0) 8 Big.D.und_big13 Big.D.info_u64 rfl .i64 .i64 q (by omega) (by omega)
 have HS : Hid (Big.D.Sl w ao n c b o f) := S
 have d1 : (s : Int) / 32 = (q : Int) := by omega
 have d2 : (s : Int) % 32 = (p : Int) := by omega
 have d3 : (s : Int).tdiv 32 = (q : Int) := by rw [Int.tdiv_eq_ediv_of_nonneg (by omega)]; exact d1
 have d4 : (s : Int).tmod 32 = (p : Int) := by rw [Int.tmod_eq_emod_of_nonneg (by omega)]; exact d2
 have hs : s ≤ 33000 := by omega
 have hpp : 2 ^ p ≤ 2147483648 := by have : 2 ^ p ≤ 2 ^ 31 := Nat.pow_le_pow_right (by omega) (by omega); omega
 have sh1 : IntKind.u64.wrap (1 * (2 : Int) ^ p) = ((2 ^ p : Nat) : Int) := by rw [Int.one_mul, pow_cast]; exact wrap_nat64 (by omega)
 have sh2 : IntKind.u64.wrap ((2 : Int) ^ p) = ((2 ^ p : Nat) : Int) := by rw [pow_cast]; exact wrap_nat64 (by omega)
 have tpos := Nat.two_pow_pos p
 have HQ : Hid (2 ^ s = Big.B ^ q * 2 ^ p) := by
  show _ = _
  rw [hsq, Nat.pow_add, D_pow]
 generalize 2 ^ p = t at *
 clear S hsq
 go_enter Tryz.func78, Tryz.ntmps78
 go_wp2
 go_loopw [5, 7, 8] (fun v cy i wr => ∃ (k z : Nat) (F : Nat → Nat), cy = .int .u64 (z : Int) ∧ i = .int .i64 (k : Int) ∧ k ≤ n ∧ z < t ∧ Big.Ws F ∧ wr.ownsRow w.heap.size 22 1 v (q + k) (dV .u64 F (q + k)) ∧ Below w.heap.size w wr ∧ Hid (Big.V F (q + k) + z * Big.B ^ (q + k) = Big.V f k * 2 ^ s)) (fun _ _ i _ => n - (intOf i).toNat)
 case atStart =>
  refine ⟨0, 0, fun _ => 0, rfl, rfl, Nat.zero_le _, tpos, fun _ => Big.B_pos, ?_, (Below.refl _ _).alloc (Nat.le_refl _) _, ?_⟩
  · have q1 := World.ownsRow_lit (base := w.heap.size) (e := 22) (size := 1) w (madeCells #[.int .u64 0] q) q (Nat.le_refl _) (by unfold maxLen; omega) (by simp [madeCells])
    rw [made_dV64] at q1
    exact q1
  · show Big.V (fun _ => 0) (q + 0) + 0 * _ = Big.V f 0 * _
    rw [Big.V_nought, Big.V_zero]; omega
 case round =>
  obtain ⟨k, z, F, rfl, rfl, hk, hzt, hF, hown, hbl, HV⟩ := hrel
  have hsz := hbl.size
  by_cases c1 : k < n
  · obtain rfl := HS.out.addr (by omega)
    have hc := (HS.out.below hbl).cell k c1
    have hxB := HS.out.ws k
    have hP : (f k + 1) * t ≤ Big.B * t := Nat.mul_le_mul_right _ hxB
    rw [Nat.add_mul, Nat.one_mul] at hP
    have dm := Nat.div_add_mod (f k * t + z) Big.B
    have HST : Hid (Big.V F (q + k) + (f k * t + z) % Big.B * Big.B ^ (q + k) + (f k * t + z) / Big.B * (Big.B ^ (q + k) * Big.B) = Big.V f (k + 1) * 2 ^ s) := by
     show _ = _
     have g := upB_gen (P := Big.B ^ (q + k)) HV.out dm
     rw [g, Big.V_succ, Nat.add_mul, HQ.out]
     congr 1
     rw [Nat.mul_assoc (f k), Nat.pow_add]
     generalize Big.B ^ q = x
     generalize Big.B ^ k = y
     rw [Nat.mul_comm t (x * y), Nat.mul_comm x y, Nat.mul_assoc]
    have hqz : (f k * t + z) / Big.B < t := by
     rw [Nat.div_lt_iff_lt_mul Big.B_pos, Nat.mul_comm t Big.B]
     omega
    have hr : (f k * t + z) % Big.B < Big.B := Nat.mod_lt _ Big.B_pos
    have pm : ((f k : Nat) : Int) * (t : Int) = ((f k * t : Nat) : Int) := by rw [Int.natCast_mul]
    have e1 : (((f k * t : Nat) : Int) + (z : Int)) % 4294967296 = (((f k * t + z) % Big.B : Nat) : Int) := by unfold Big.B; omega
    have e2 : (((f k * t : Nat) : Int) + (z : Int)) / 4294967296 = (((f k * t + z) / Big.B : Nat) : Int) := by unfold Big.B; omega
    have pl : f k * t + z < 18446744073709551616 := by
     unfold Big.B at hP
     omega
    unfold Big.B at hxB
    generalize (f k * t + z) % Big.B = r at *
    generalize (f k * t + z) / Big.B = q2 at *
    generalize f k * t = y at *
    clear dm hP
    go_wp2_with (first
     | (at_builtin; refine wpList_append_own _ rfl _ _ 82 rfl w.heap.size 22 i0 (.int .u64 0) 1 8 Big.D.und_big13 hi hz0 hz1 hz2 rfl (by decide) _ _ _ rfl (hown.alloc _) ⟨wr.heap.size, 0, none⟩ 1 1 [.int .u64 (r : Int)] rfl rfl (World.news_of_block (cs := #[.int .u64 (r : Int)]) (t := 22) (fr := (0, 0)) (heap_alloc_new wr _)) (by simp [Value.oneCell']) (by unfold maxLen; omega) (by omega) (by rw [World.size_alloc]; omega) ?_)
     | go_in)
    intro v' w3 hown' hgrow hnil
    have hb3 : Below w.heap.size w w3 := (hbl.alloc (by omega) _).grown hgrow (by rw [World.size_alloc]; omega) (fun q hq => (hown.lt q hq).1)
    have HO3 : Hid (w3.ownsRow w.heap.size 22 1 v' (q + (k + 1)) (dV .u64 (Big.put F (q + k) r) (q + (k + 1))) ∧ Below w.heap.size w w3) := ⟨by rw [← Nat.add_assoc, dV_put]; exact hown', hb3⟩
    clear hown' hb3 hgrow hnil hown hbl
    go_wp2
    go_roundw
    case rel =>
     refine ⟨k + 1, q2, Big.put F (q + k) r, by rw [e2], by go_num, by omega, hqz, Big.put_Ws hF hr, HO3.out.1, HO3.out.2, ?_⟩
     show _ = _
     rw [← Nat.add_assoc, V_putB, Nat.pow_succ]
     exact HST.out
    case measure => simp [intOf]; omega
  · obtain rfl : k = n := by omega
    have HE : Hid (Big.V (Big.put F (q + k) z) (q + k + 1) = Big.V f k * 2 ^ s) := by
     show _ = _
     rw [V_putB, HV.out]
    have hw : Big.Ws (Big.put F (q + k) z) := Big.put_Ws hF (by unfold Big.B; omega)
    go_wp2_with (first
     | (at_builtin; refine wpList_append_own _ rfl _ _ 82 rfl w.heap.size 22 i0 (.int .u64 0) 1 8 Big.D.und_big13 hi hz0 hz1 hz2 rfl (by decide) _ _ _ rfl (hown.alloc _) ⟨wr.heap.size, 0, none⟩ 1 1 [.int .u64 (z : Int)] rfl rfl (World.news_of_block (cs := #[.int .u64 (z : Int)]) (t := 22) (fr := (0, 0)) (heap_alloc_new wr _)) (by simp [Value.oneCell']) (by unfold maxLen; omega) (by omega) (by rw [World.size_alloc]; omega) ?_)
     | go_in)
    intro v' w3 hown' hgrow hnil
    have hb3 : Below w.heap.size w w3 := (hbl.alloc (by omega) _).grown hgrow (by rw [World.size_alloc]; omega) (fun q hq => (hown.lt q hq).1)
    rw [← dV_put] at hown'
    obtain ⟨ao', c', b', rfl, S3, hnw⟩ := Big.D.own_sl hown' hw
    have T := Big.D.trim_any S3
    have NV := S3.trimmedN hnw
    clear hnw
    rw [HE.out] at NV
    clear hown' hgrow hnil hown hbl
    go_wp2_with fail
    refine T.mono ?_
    rintro e wa ⟨rfl, rfl⟩
    go_wp2
    go_ret
    exact ⟨_, rfl, NV, hb3⟩
theorem dshl_new {w : World} {va : Value} {X : Nat} (ha : Big.D.NatV w va X) (hX : Fits 1000 X) (s : Nat) (hs : s ≤ 32000) :
 Calls Tryz.prog 78 #[va, .int .i64 (s : Int)] w fun e w' => ∃ v, e = .returned v ∧ Big.D.NewV w' w.heap.size v (X * 2 ^ s) ∧ Below w.heap.size w w' := by
 obtain ⟨ao, n, c, b, o, f, rfl, S, t, rfl⟩ := ha
 exact dshl_big S (big_len t hX) s (s / 32) (s % 32) (by omega) (by omega) (by omega)
end Go.Proofs.YtjagnfddmlkalaaGreatDoor
