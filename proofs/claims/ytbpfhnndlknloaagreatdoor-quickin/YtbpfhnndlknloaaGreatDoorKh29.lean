/-
  Holds: VWide1 QkS QkV.
-/
import Derived.Test.YtbpfhnndlknloaaGreatDoorRows
import Derived.Laws.Externs
import Derived.WalkKit
import Derived.WalkSpells
import Derived.WalkLawsBesides
import Derived.Lib.Mul64
import Derived.Stop.Asserts
import Derived.RowKitTokens
import Derived.Lib.Strings
import Derived.Lib.BufferWrite
import Derived.Deep.OwnRows
import Derived.Deep.RegionHeld3
import Derived.BigQuiet
import Derived.Lib.ConvBytes
import Derived.Laws.CopyOwn
import Derived.Lib.TrailingZeros
import Derived.Lib.ItoaNum
import Derived.Deep.LoopGhost
import Derived.Deep.AppendLies
import Derived.Deep.DeepCutAuto
import Derived.Test.YtbpfhnndlknloaaGreatDoorKh27
set_option maxRecDepth 100000
set_option maxHeartbeats 4000000
namespace Go.Proofs.YtbpfhnndlknloaaGreatDoor
open Go.RowKit
theorem wadd_any (ah al bh bl : Int) (h1 : Word ah) (h2 : Word al) (h3 : Word bh) (h4 : Word bl) (w : World) :
 Calls Tryz.prog 117 #[.agg #[.int .u64 ah, .int .u64 al], .agg #[.int .u64 bh, .int .u64 bl]] w fun e w' =>
  e = .returned (.tuple #[.agg #[.int .u64 (sHi ah al bh bl), .int .u64 (sLo al bl)], .bool (sOv ah al bh bl)]) ∧ Below w.heap.size w w' := by
 have k := a3C_01 h2 h4 (Int.le_refl 0) (by omega : (0:Int) ≤ 1)
 go_enter Tryz.func117, Tryz.ntmps117
 go_wp2_with (first | simp only [add64 al bl 0 h2 h4 (Int.le_refl 0) (by omega : (0:Int) ≤ 1)] | simp only [add64 ah bh _ h1 h3 k.1 k.2])
 exact bodyPost_ret (v := .tuple #[.agg #[.int .u64 (sHi ah al bh bl), .int .u64 (sLo al bl)], .bool (sOv ah al bh bl)]) (by simp [results, Tryz.results117, go_sem, sHi, sLo, sOv]) rfl ⟨rfl, (((Below.refl _ _).alloc (Nat.le_refl _) _).alloc (by simp) _).alloc (by simp; omega) _⟩
def scV (M : Nat) (X : Int) (ex : Bool) (p d : Int) : Value := .agg #[.int .u64 (hiW M), .int .u64 (loW M), .int .i64 X, .bool ex, .int .i64 p, .int .i64 d]
theorem low_small {b : Nat} (h : b < 18446744073709551616) : loW b = (b : Int) := by
 unfold loW
 rw [Nat.mod_eq_of_lt h]
theorem units_is {P d : Nat} (h1 : 120 ≤ d) (h2 : d ≤ 123) (hP : P / 2 ^ d < 18446744073709551616) {mh ml X p : Int} {ex : Bool} (W : World) (hT : Tab W) :
 Calls Tryz.prog 116 #[.agg #[.int .u64 mh, .int .u64 ml, .int .i64 X, .bool ex, .int .i64 p, .int .i64 (d : Int)], .int .u64 (x2 P), .agg #[.int .u64 (x1 P), .int .u64 (x0 P)]] W fun x w' => x = .returned (.tuple #[.int .u64 ((P / 2 ^ d : Nat) : Int), .bool (decide (P % 2 ^ d ≠ 0))]) ∧ Below W.heap.size W w' := by
 obtain ⟨lw, k1, k0⟩ := low_words P
 obtain ⟨_, _, e3⟩ := @units_cut P d (by omega)
 have R := fun V hV => wright_any (x1 P) (x0 P) (d : Int) k1 k0 V hV
 rw [lw] at R
 have s1 : shr (P % 2 ^ 128) (d : Int) = P % 2 ^ 128 / 2 ^ d := by unfold shr; rw [Int.toNat_natCast]
 have s2 : cutB (P % 2 ^ 128) (d : Int) = decide (P % 2 ^ d ≠ 0) := by unfold cutB; rw [Int.toNat_natCast, e3]
 rw [s1, s2] at R
 exact unitsT_ok hT (by omega) (by omega) (units_word h1 h2 hP) R
theorem five_yes {p : Int} (h0 : 0 ≤ p) (h1 : p ≤ 27) (W : World) : Calls Tryz.prog 118 #[.int .i64 p] W fun e w' => e = .returned (.tuple #[.int .u64 ((5 ^ p.toNat : Nat) : Int), .nilIface]) ∧ Below W.heap.size W w' := by
 refine (five_call p W).mono ?_
 rintro e w' ⟨rfl, rfl⟩
 have c : ¬ (p < 0 ∨ ((27 : Nat) : Int) < p) := by omega
 refine ⟨?_, Below.refl _ _⟩
 unfold wpX wpE
 rw [if_neg c, if_neg c]
 rfl
theorem five_no {p : Int} (h : p < 0 ∨ 27 < p) (W : World) : Calls Tryz.prog 118 #[.int .i64 p] W fun e w' => e = .returned (.tuple #[.int .u64 ((0 : Nat) : Int), .iface 42 (.int .i64 1)]) ∧ Below W.heap.size W w' := by
 refine (five_call p W).mono ?_
 rintro e w' ⟨rfl, rfl⟩
 have c : p < 0 ∨ ((27 : Nat) : Int) < p := by omega
 refine ⟨?_, Below.refl _ _⟩
 unfold wpX wpE
 rw [if_pos c, if_pos c]
 rfl
theorem qcount_is {e p : Int} {M : Nat} {X : Int} {g D d F : Nat} (sc : Sc e p M X g D d) (m1 : M < 2 ^ 128) (F0 : 0 < F) (F1 : F ≤ 36028797018963970) (h5 : 0 ≤ p → F % 5 ^ p.toNat = 0 → F * g % D = 0) :
    ∃ (u : Nat) (m s : Bool), (∀ W, Tab W → Calls Tryz.prog 75 #[scV M X (decide (0 ≤ -p ∧ -p ≤ 55)) p (d : Int), .int .u64 (F : Int)] W fun x w' => x = .returned (.tuple #[.agg #[.int .u64 (u : Int), .bool m], .bool s]) ∧ Below W.heap.size W w') ∧
      (s = true → u = F * g / D ∧ m = decide (F * g % D ≠ 0)) ∧ (s = false → ¬ (0 ≤ -p ∧ -p ≤ 55)) := by
  obtain ⟨hd, d1, d2, lo, hi, hex, w1, w2, D0⟩ := sc
  have T0 := Nat.two_pow_pos d
  have FT : F ≤ 2 ^ d := by
    have : 2 ^ 120 ≤ 2 ^ d := Nat.pow_le_pow_right (by decide) d1
    have : 36028797018963970 ≤ 2 ^ 120 := by decide
    omega
  have ub : F * g / D < 9223372036854775808 := by
    rw [Nat.div_lt_iff_lt_mul D0]
    have a : F * g ≤ 36028797018963970 * g := Nat.mul_le_mul_right g F1
    omega
  have le1 : F * M / 2 ^ d ≤ F * g / D := by
    rw [Nat.le_div_iff_mul_le D0]
    refine Nat.le_of_mul_le_mul_right ?_ T0
    have a := Nat.div_mul_le_self (F * M) (2 ^ d)
    have b : F * M / 2 ^ d * D * 2 ^ d = F * M / 2 ^ d * 2 ^ d * D := Nat.mul_right_comm _ _ _
    have c : F * M * D = F * (M * D) := Nat.mul_assoc _ _ _
    have q : F * g * 2 ^ d = F * (g * 2 ^ d) := Nat.mul_assoc _ _ _
    rw [b, q]
    refine Nat.le_trans (Nat.mul_le_mul_right D a) ?_
    rw [c]
    exact Nat.mul_le_mul_left F lo
  have nx : (F * M + F) / 2 ^ d ≤ F * M / 2 ^ d + 1 := by
    have : (F * M + F) / 2 ^ d ≤ (F * M + 2 ^ d) / 2 ^ d := Nat.div_le_div_right (by omega)
    rw [Nat.add_div_right _ T0] at this
    exact this
  have mw := mul_words M F
  rw [Nat.mul_comm M F] at mw
  obtain ⟨e1, e2, e3⟩ := mw
  have P192 : F * M + F < 2 ^ 192 := by
    have a : F * (M + 1) ≤ 36028797018963970 * 2 ^ 128 := Nat.mul_le_mul F1 m1
    have b : F * (M + 1) = F * M + F := by rw [Nat.mul_add, Nat.mul_one]
    have c : 36028797018963970 * 2 ^ 128 < 2 ^ 192 := by decide
    omega
  have m1' : M < 340282366920938463463374607431768211456 := m1
  have HM := fun W => wmulw_any (hiW M) (loW M) (F : Int) (hiW_word m1') (loW_word M) ⟨by omega, by omega⟩ W
  rw [e1, e2, e3] at HM
  have HU := fun ex W hT => units_is (P := F * M) (mh := hiW M) (ml := loW M) (X := X) (p := p) (ex := ex) d1 d2 (by omega) W hT
  by_cases ce : 0 ≤ -p ∧ -p ≤ 55
  · rw [decide_eq_true ce]
    obtain ⟨x, y⟩ := cnt_exact (F := F) (hex.2 ce) T0 D0
    refine ⟨F * M / 2 ^ d, decide (F * M % 2 ^ d ≠ 0), true, fun W hT => qc_ex hT HM (HU true), fun _ => ⟨x.symm, ?_⟩, fun h => by cases h⟩
    exact decide_eq_decide.2 (not_congr y.symm)
  · rw [decide_eq_false ce]
    have lo' : M * D < g * 2 ^ d := Nat.lt_of_le_of_ne lo (fun h => ce (hex.1 h.symm))
    have F128 : F < 2 ^ 128 := by
      have : 36028797018963970 < 2 ^ 128 := by decide
      omega
    have h0 : hiW F = 0 := by
      unfold hiW
      rw [Nat.div_eq_of_lt (by omega)]
      rfl
    have l0 : loW F = (F : Int) := low_small (by omega)
    obtain ⟨s1, s2, s3, s4⟩ := sum_words (X := F * M) (A := F) F128 P192
    rw [h0, l0] at s1 s3 s4
    rw [l0] at s2
    have HA := fun W => wadd_any (x1 (F * M)) (x0 (F * M)) 0 (F : Int) (x1_word _) (x0_word _) ⟨by omega, by omega⟩ ⟨by omega, by omega⟩ W
    rw [s1, s2] at HA
    have hcy : Hid ((sOv (x1 (F * M)) (x0 (F * M)) 0 (F : Int) = false ∧ x2 (F * M) = x2 (F * M + F)) ∨ (sOv (x1 (F * M)) (x0 (F * M)) 0 (F : Int) = true ∧ IntKind.u64.wrap (x2 (F * M) + 1) = x2 (F * M + F))) := by
      cases c : sOv (x1 (F * M)) (x0 (F * M)) 0 (F : Int) with
      | false => exact Or.inl ⟨rfl, s3 c⟩
      | true =>
        obtain ⟨y1, y2⟩ := s4 c
        refine Or.inr ⟨rfl, ?_⟩
        have n0 : 0 ≤ x2 (F * M) := Int.natCast_nonneg _
        rw [IntKind.wrap_u64, ← y1]
        omega
    have HV := fun W hT => units_is (P := F * M + F) (mh := hiW M) (ml := loW M) (X := X) (p := p) (ex := false) d1 d2 (by omega) W hT
    generalize sOv (x1 (F * M)) (x0 (F * M)) 0 (F : Int) = cy at *
    by_cases ne : (F * M + F) / 2 ^ d = F * M / 2 ^ d
    · obtain ⟨x, y⟩ := cnt_same lo' hi F0 T0 ne
      refine ⟨F * M / 2 ^ d, true, true, fun W hT => qc_same hT (by rw [ne]) HM (HU false) HA hcy HV, fun _ => ⟨x.symm, (decide_eq_true y).symm⟩, fun h => by cases h⟩
    · have ne' : (((F * M + F) / 2 ^ d : Nat) : Int) ≠ ((F * M / 2 ^ d : Nat) : Int) := by omega
      by_cases c5 : 0 ≤ p ∧ p ≤ 27
      · have f0 : 0 < 5 ^ p.toNat := Nat.pow_pos (by decide)
        have HF := fun W => five_yes c5.1 c5.2 W
        have cm : ((F : Int) % ((5 ^ p.toNat : Nat) : Int)) = ((F % 5 ^ p.toNat : Nat) : Int) := (Int.natCast_emod _ _).symm
        by_cases dv : F % 5 ^ p.toNat = 0
        · obtain ⟨x, y⟩ := cnt_five lo' hi F0 FT ne (h5 c5.1 dv)
          refine ⟨(F * M + F) / 2 ^ d, false, true, fun W hT => qc_five hT f0 ne' (by rw [cm, dv]; rfl) HM (HU false) HA hcy HV HF, fun _ => ⟨x.symm, ?_⟩, fun h => by cases h⟩
          rw [h5 c5.1 dv]
          rfl
        · refine ⟨0, false, false, fun W hT => qc_no hT f0 ne' ?_ HM (HU false) HA hcy HV HF, fun h => (by cases h), fun _ => ce⟩
          rw [cm]
          exact beq_eq_false_iff_ne.mpr (by omega)
      · exact ⟨0, false, false, fun W hT => qc_err hT ne' HM (HU false) HA hcy HV (fun W => five_no (by omega) W), fun h => (by cases h), fun _ => ce⟩
theorem step_ok {a m v k R : Nat} {e : Bool} (hm : Hid (m < 18446744073709551616)) (k18 : Hid (k ≤ 18)) (hR : Hid (R = 10 ^ k)) (hold : Hid (∀ j, j < k → decide (a ≤ m / 10 ^ (j + 1) * 10 ^ (j + 1)) = true)) (stop : Hid (decide (a ≤ m / 10 ^ (k + 1) * 10 ^ (k + 1)) = false)) (w : World) :
 Calls Tryz.prog 35 #[.agg #[.int .u64 (a : Int), .int .u64 (m : Int), .int .u64 (v : Int), .bool e]] w fun x w' => x = .returned (.tuple #[.int .u64 (R : Int), .int .i64 (k : Int)]) ∧ Below w.heap.size w w' := by
 have F0 : Hid (Bk (w.alloc (.cells #[.int .u64 (a : Int), .int .u64 (m : Int), .int .u64 (v : Int), .bool e] 84)) (w.heap.size) [.int .u64 (a : Int), .int .u64 (m : Int), .int .u64 (v : Int), .bool e] ∧ Below w.heap.size w (w.alloc (.cells #[.int .u64 (a : Int), .int .u64 (m : Int), .int .u64 (v : Int), .bool e] 84))) := ⟨Bk.newL w [.int .u64 (a : Int), .int .u64 (m : Int), .int .u64 (v : Int), .bool e] 84, ((Below.refl w.heap.size w)).alloc (Nat.le_refl _) _⟩
 go_enter Tryz.func35, Tryz.ntmps35
 go_upto_region 1 with fail
 generalize (w.alloc (.cells #[.int .u64 (a : Int), .int .u64 (m : Int), .int .u64 (v : Int), .bool e] 84)) = w1 at *
 have l1_0 := F0.out.1.lt
 have a1_0_0 := F0.out.1.cell 0 _ rfl
 have f1_0_0 := F0.out.1.fz 0
 have a1_0_1 := F0.out.1.cell 1 _ rfl
 have f1_0_1 := F0.out.1.fz 1
 have a1_0_2 := F0.out.1.cell 2 _ rfl
 have f1_0_2 := F0.out.1.fz 2
 have a1_0_3 := F0.out.1.cell 3 _ rfl
 have f1_0_3 := F0.out.1.fz 3
 go_wp2
 have IB : Hid (Bk w1 (w.heap.size) [.int .u64 (a : Int), .int .u64 (m : Int), .int .u64 (v : Int), .bool e] ∧ Below w.heap.size w w1) := F0.out
 clear l1_0 a1_0_0 f1_0_0 a1_0_1 f1_0_1 a1_0_2 f1_0_2 a1_0_3 f1_0_3
 go_loopw [4, 5] (fun sv nv wr => ∃ j q : Nat, sv = .int .u64 (q : Int) ∧ nv = .int .i64 (j : Int) ∧ j ≤ k ∧ q ≤ 1000000000000000000 ∧ 0 < q ∧ Hid (q = 10 ^ j) ∧ Hid (Bk wr (w.heap.size) [.int .u64 (a : Int), .int .u64 (m : Int), .int .u64 (v : Int), .bool e] ∧ Below w.heap.size w wr)) (fun _ nv _ => k - (intOf nv).toNat)
 case atStart => exact ⟨0, 1, rfl, rfl, Nat.zero_le _, by omega, by omega, (by show 1 = 10 ^ 0; rw [Nat.pow_zero]), IB.out⟩
 case round =>
  obtain ⟨j, q, rfl, rfl, hj, hq, q0, HQ, HB⟩ := hrel
  clear IB F0
  have F50 := HB
  clear HB
  have HM := fun W => hm_is (a := a) (m := m) (v := v) (e := e) (s := 10 * q) (by omega) hm.out W
  have ec : ((10 * q : Nat) : Int) = 10 * (q : Int) := by omega
  simp only [ec] at HM
  clear ec
  have j18 : j ≤ 18 := by have := k18.out; omega
  by_cases c : j < k
  · have hb : decide (a ≤ m / (10 * q) * (10 * q)) = true := by rw [HQ.out]; have := hold.out j c; rw [Nat.pow_succ, Nat.mul_comm (10 ^ j) 10] at this; exact this
    rw [hb] at HM
    clear hb
    have HL : Hid (q * 10 ≤ 1000000000000000000 ∧ q * 10 = 10 ^ (j + 1)) := ⟨(by rw [HQ.out, ← Nat.pow_succ]; exact Nat.le_trans (Nat.pow_le_pow_right (by decide) (show j + 1 ≤ 18 by have := k18.out; omega)) (by decide)), (by rw [HQ.out, Nat.pow_succ])⟩
    have l1_0 := F50.out.1.lt
    have a1_0_0 := F50.out.1.cell 0 _ rfl
    have f1_0_0 := F50.out.1.fz 0
    have a1_0_1 := F50.out.1.cell 1 _ rfl
    have f1_0_1 := F50.out.1.fz 1
    have a1_0_2 := F50.out.1.cell 2 _ rfl
    have f1_0_2 := F50.out.1.fz 2
    have a1_0_3 := F50.out.1.cell 3 _ rfl
    have f1_0_3 := F50.out.1.fz 3
    go_wp2_with fail
    refine (HM _).mono ?_
    rintro o21 w21 ⟨rfl, bb⟩
    have F51 : Hid (Bk w21 (w.heap.size) [.int .u64 (a : Int), .int .u64 (m : Int), .int .u64 (v : Int), .bool e] ∧ Below w.heap.size w w21) := ⟨(F50.out.1).step bb, (F50.out.2).trans (bb.mono (F50.out.2).size)⟩
    clear F50
    clear bb
    have hl := HL.out.1
    go_wp2
    go_roundw
    case rel => exact ⟨j + 1, q * 10, by first | rfl | go_num, by first | rfl | go_num, by omega, by omega, by omega, HL.out.2, F51⟩
    case measure => simp [intOf]; omega
  · obtain rfl : j = k := by omega
    have hb : decide (a ≤ m / (10 * q) * (10 * q)) = false := by rw [HQ.out]; have := stop.out; rw [Nat.pow_succ, Nat.mul_comm (10 ^ j) 10] at this; exact this
    rw [hb] at HM
    clear hb
    have HR : Hid (q = R) := HQ.out.trans hR.out.symm
    have l1_0 := F50.out.1.lt
    have a1_0_0 := F50.out.1.cell 0 _ rfl
    have f1_0_0 := F50.out.1.fz 0
    have a1_0_1 := F50.out.1.cell 1 _ rfl
    have f1_0_1 := F50.out.1.fz 1
    have a1_0_2 := F50.out.1.cell 2 _ rfl
    have f1_0_2 := F50.out.1.fz 2
    have a1_0_3 := F50.out.1.cell 3 _ rfl
    have f1_0_3 := F50.out.1.fz 3
    go_wp2_with fail
    refine (HM _).mono ?_
    rintro o21 w21 ⟨rfl, bb⟩
    have F51 : Hid (Bk w21 (w.heap.size) [.int .u64 (a : Int), .int .u64 (m : Int), .int .u64 (v : Int), .bool e] ∧ Below w.heap.size w w21) := ⟨(F50.out.1).step bb, (F50.out.2).trans (bb.mono (F50.out.2).size)⟩
    clear F50
    clear bb
    go_wp2
    go_ret2
    exact ⟨by first | rfl | (rw [HR.out]; rfl), F51.out.2⟩
theorem nr_up {a m v s t ts r h y z y2 : Nat} {e : Bool} (s0 : 0 < s) (q1 : IntKind.u64.wrap ((v : Int) / (s : Int)) = (t : Int)) (q2 : IntKind.u64.wrap ((t : Int) * (s : Int)) = (ts : Int)) (q3 : IntKind.u64.wrap ((v : Int) - (ts : Int)) = (r : Int)) (q4 : IntKind.u64.wrap ((s : Int) / 2) = (h : Int)) (q5 : IntKind.u64.wrap ((t : Int) + 1) = (y : Int)) (q6 : IntKind.u64.wrap ((y : Int) * (s : Int)) = (z : Int)) (q7 : IntKind.u64.wrap ((y : Int) + 1) = (y2 : Int)) (hc : Hid (h < r ∨ (¬ h < r ∧ r = h ∧ (e = true ∨ (e = false ∧ t % 2 = 1))))) (w : World) :
 Calls Tryz.prog 37 #[.agg #[.int .u64 (a : Int), .int .u64 (m : Int), .int .u64 (v : Int), .bool e], .int .u64 (s : Int)] w fun x w' => x = .returned (.int .u64 ((if z < a then y2 else y : Nat) : Int)) ∧ Below w.heap.size w w' := by
 have F0 : Hid (Bk (w.alloc (.cells #[.int .u64 (a : Int), .int .u64 (m : Int), .int .u64 (v : Int), .bool e] 84)) (w.heap.size) [.int .u64 (a : Int), .int .u64 (m : Int), .int .u64 (v : Int), .bool e] ∧ Below w.heap.size w (w.alloc (.cells #[.int .u64 (a : Int), .int .u64 (m : Int), .int .u64 (v : Int), .bool e] 84))) := ⟨Bk.newL w [.int .u64 (a : Int), .int .u64 (m : Int), .int .u64 (v : Int), .bool e] 84, ((Below.refl w.heap.size w)).alloc (Nat.le_refl _) _⟩
 go_enter Tryz.func37, Tryz.ntmps37
 go_upto_region 1 with fail
 generalize (w.alloc (.cells #[.int .u64 (a : Int), .int .u64 (m : Int), .int .u64 (v : Int), .bool e] 84)) = w1 at *
 rcases hc.out with hq | ⟨hq, rfl, hc2⟩
 · skip
   have l1_0 := F0.out.1.lt
   have a1_0_0 := F0.out.1.cell 0 _ rfl
   have f1_0_0 := F0.out.1.fz 0
   have a1_0_1 := F0.out.1.cell 1 _ rfl
   have f1_0_1 := F0.out.1.fz 1
   have a1_0_2 := F0.out.1.cell 2 _ rfl
   have f1_0_2 := F0.out.1.fz 2
   have a1_0_3 := F0.out.1.cell 3 _ rfl
   have f1_0_3 := F0.out.1.fz 3
   by_cases ha : z < a
   · go_wp2
     go_ret
     exact ⟨by first | rfl | (rw [if_pos ha]; rfl) | (rw [if_pos ha]), F0.out.2⟩
   · go_wp2
     go_ret
     exact ⟨by first | rfl | (rw [if_neg ha]; rfl) | (rw [if_neg ha]), F0.out.2⟩
 · rcases hc2 with he | ⟨he, hc2⟩
   · have l1_0 := F0.out.1.lt
     have a1_0_0 := F0.out.1.cell 0 _ rfl
     have f1_0_0 := F0.out.1.fz 0
     have a1_0_1 := F0.out.1.cell 1 _ rfl
     have f1_0_1 := F0.out.1.fz 1
     have a1_0_2 := F0.out.1.cell 2 _ rfl
     have f1_0_2 := F0.out.1.fz 2
     have a1_0_3 := F0.out.1.cell 3 _ rfl
     have f1_0_3 := F0.out.1.fz 3
     by_cases ha : z < a
     · go_wp2
       go_ret
       exact ⟨by first | rfl | (rw [if_pos ha]; rfl) | (rw [if_pos ha]), F0.out.2⟩
     · go_wp2
       go_ret
       exact ⟨by first | rfl | (rw [if_neg ha]; rfl) | (rw [if_neg ha]), F0.out.2⟩
   · have l1_0 := F0.out.1.lt
     have a1_0_0 := F0.out.1.cell 0 _ rfl
     have f1_0_0 := F0.out.1.fz 0
     have a1_0_1 := F0.out.1.cell 1 _ rfl
     have f1_0_1 := F0.out.1.fz 1
     have a1_0_2 := F0.out.1.cell 2 _ rfl
     have f1_0_2 := F0.out.1.fz 2
     have a1_0_3 := F0.out.1.cell 3 _ rfl
     have f1_0_3 := F0.out.1.fz 3
     by_cases ha : z < a
     · go_wp2
       go_ret
       exact ⟨by first | rfl | (rw [if_pos ha]; rfl) | (rw [if_pos ha]), F0.out.2⟩
     · go_wp2
       go_ret
       exact ⟨by first | rfl | (rw [if_neg ha]; rfl) | (rw [if_neg ha]), F0.out.2⟩
theorem nr_dn {a m v s t ts r h y2 : Nat} {e : Bool} (s0 : 0 < s) (q1 : IntKind.u64.wrap ((v : Int) / (s : Int)) = (t : Int)) (q2 : IntKind.u64.wrap ((t : Int) * (s : Int)) = (ts : Int)) (q3 : IntKind.u64.wrap ((v : Int) - (ts : Int)) = (r : Int)) (q4 : IntKind.u64.wrap ((s : Int) / 2) = (h : Int)) (q7 : IntKind.u64.wrap ((t : Int) + 1) = (y2 : Int)) (hc : Hid ((¬ h < r ∧ ¬ r = h) ∨ (¬ h < r ∧ r = h ∧ e = false ∧ ¬ t % 2 = 1))) (w : World) :
 Calls Tryz.prog 37 #[.agg #[.int .u64 (a : Int), .int .u64 (m : Int), .int .u64 (v : Int), .bool e], .int .u64 (s : Int)] w fun x w' => x = .returned (.int .u64 ((if ts < a then y2 else t : Nat) : Int)) ∧ Below w.heap.size w w' := by
 have F0 : Hid (Bk (w.alloc (.cells #[.int .u64 (a : Int), .int .u64 (m : Int), .int .u64 (v : Int), .bool e] 84)) (w.heap.size) [.int .u64 (a : Int), .int .u64 (m : Int), .int .u64 (v : Int), .bool e] ∧ Below w.heap.size w (w.alloc (.cells #[.int .u64 (a : Int), .int .u64 (m : Int), .int .u64 (v : Int), .bool e] 84))) := ⟨Bk.newL w [.int .u64 (a : Int), .int .u64 (m : Int), .int .u64 (v : Int), .bool e] 84, ((Below.refl w.heap.size w)).alloc (Nat.le_refl _) _⟩
 go_enter Tryz.func37, Tryz.ntmps37
 go_upto_region 1 with fail
 generalize (w.alloc (.cells #[.int .u64 (a : Int), .int .u64 (m : Int), .int .u64 (v : Int), .bool e] 84)) = w1 at *
 rcases hc.out with hq | hq
 · obtain ⟨hq, hc2⟩ := hq
   have l1_0 := F0.out.1.lt
   have a1_0_0 := F0.out.1.cell 0 _ rfl
   have f1_0_0 := F0.out.1.fz 0
   have a1_0_1 := F0.out.1.cell 1 _ rfl
   have f1_0_1 := F0.out.1.fz 1
   have a1_0_2 := F0.out.1.cell 2 _ rfl
   have f1_0_2 := F0.out.1.fz 2
   have a1_0_3 := F0.out.1.cell 3 _ rfl
   have f1_0_3 := F0.out.1.fz 3
   by_cases ha : ts < a
   · go_wp2
     go_ret
     exact ⟨by first | rfl | (rw [if_pos ha]; rfl) | (rw [if_pos ha]), F0.out.2⟩
   · go_wp2
     go_ret
     exact ⟨by first | rfl | (rw [if_neg ha]; rfl) | (rw [if_neg ha]), F0.out.2⟩
 · obtain ⟨hq, rfl, he, hc2⟩ := hq
   have l1_0 := F0.out.1.lt
   have a1_0_0 := F0.out.1.cell 0 _ rfl
   have f1_0_0 := F0.out.1.fz 0
   have a1_0_1 := F0.out.1.cell 1 _ rfl
   have f1_0_1 := F0.out.1.fz 1
   have a1_0_2 := F0.out.1.cell 2 _ rfl
   have f1_0_2 := F0.out.1.fz 2
   have a1_0_3 := F0.out.1.cell 3 _ rfl
   have f1_0_3 := F0.out.1.fz 3
   by_cases ha : ts < a
   · go_wp2
     go_ret
     exact ⟨by first | rfl | (rw [if_pos ha]; rfl) | (rw [if_pos ha]), F0.out.2⟩
   · go_wp2
     go_ret
     exact ⟨by first | rfl | (rw [if_neg ha]; rfl) | (rw [if_neg ha]), F0.out.2⟩
end Go.Proofs.YtbpfhnndlknloaaGreatDoor
