/-
  The law FaultThrough: the walk.
-/
import Derived.Test.YtelobjhmbabiaaaDoorFtJ
namespace Go.Proofs.YtelobjhmbabiaaaDoor
open Go.RowKit

set_option maxRecDepth 100000 in
set_option maxHeartbeats 8000000 in
theorem through_law {w : World} {ao : Option Addr} {m c b o : Nat} {p : Nat → Bool} {cl tx : Nat → ByteArray} {ln : Nat → Int} (S : SlL w ao m c b o p cl tx ln) (n other : Int) (hE : ErrT w) (hP : PowB w.heap.size w) :
    Calls Tryd.prog 6 #[.int .i64 n, .int .i64 other, .slice ao m c] w fun x w' => x = .returned (.bool true) ∧ Below w.heap.size w w' := by
  have L1 := laid_ch S n
  have I1 := fun W v (h : Ch W (rowL p cl tx ln (min m 60)) n v) => Is_ch (n := n) n h
  rw [show (n == n) = true by simp] at I1
  obtain ⟨r, hr⟩ : ∃ r, (n == other) = r := ⟨_, rfl⟩
  have I2 := fun W v (h : Ch W (rowL p cl tx ln (min m 60)) n v) => Is_ch (n := n) other h
  rw [hr] at I2
  have Y1 := fun W v (h : Ch W (rowL p cl tx ln (min m 60)) n v) (g : ErrT W) => why_ch h g
  have S1 := fun W (h : PowB W.heap.size W) => sure_any W h
  have qn : ∀ W, (binOp .neq 4 (.bool r) (.bool r)).run Tryd.prog W = .ok (.bool false) W := fun W => by cases r <;> rfl
  have HS : Hid (SlL w ao m c b o p cl tx ln) := S
  have HE : Hid (ErrT w) := hE
  have HP : Hid (PowB w.heap.size w) := hP
  have hm1 : m ≤ 9223372036854775807 := by have a := S.le; have b := S.cap; unfold maxLen at b; omega
  clear S hE hP
  go_enter Tryd.func6, Tryd.ntmps6
  go_wp2_with fail
  refine L1.mono ?_
  rintro x w1 ⟨v, rfl, h1, b1⟩
  obtain ⟨TT, yy, rfl⟩ := h1.iface
  have H1 : Hid (Ch w1 (rowL p cl tx ln (min m 60)) n (.iface TT yy) ∧ Below w.heap.size w w1) := ⟨h1, b1⟩
  clear h1 b1 L1
  go_wp2_with fail
  refine (I1 _ _ H1.out.1).mono ?_
  rintro x w2 ⟨rfl, hw⟩
  subst hw
  go_wp2_with fail
  refine (I2 _ _ H1.out.1).mono ?_
  rintro x w2 ⟨rfl, hw⟩
  subst hw
  go_wp2_with fail
  refine (Y1 _ _ H1.out.1 (HE.out.below H1.out.2 HE.out.pos)).mono ?_
  rintro x w3 ⟨rfl, b3⟩
  have B3 : Hid (Below w.heap.size w w3) := H1.out.2.trans (b3.mono H1.out.2.size)
  clear b3 H1 I1 I2 Y1
  go_wp2
  clear qn hr
  go_loopw [8] (fun i wr => ∃ k : Nat, i = .int .i64 (k : Int) ∧ k ≤ min m 60 ∧ Hid (Below w.heap.size w wr)) (fun i _ => 60 - (intOf i).toNat)
  case atStart => exact ⟨0, rfl, by omega, B3⟩
  case round =>
    clear B3
    obtain ⟨k, rfl, hk, HI⟩ := hrel
    by_cases c1 : k < min m 60
    · have hkm : k < m := by omega
      obtain rfl := HS.out.addr (by omega)
      have S2 := HS.out.step HI.out
      have x1 := S2.cc k hkm
      have x2 := S2.ct k hkm
      have x3 := S2.cn k hkm
      have WN := fun W => wrap_nil (cl k) (tx k) W
      have LN := fun W => line_nil (ln k) W
      have i0 : (0 : Int) ≤ (k : Int) := by omega
      have i1 : (k : Int) < (m : Int) := by omega
      have i2 : (k : Int) < 60 := by omega
      generalize cl k = ck at *
      generalize tx k = tk at *
      generalize ln k = lk at *
      have HBD : Hid (Below w.heap.size w wr.drew) := HI.out.drew
      clear S2 S1
      go_wp2_with fail
      go_region_held3 (fun w' => w'.cell? ⟨b, o + k * 4 + 1, none⟩ = some (.string ck) ∧ w'.cell? ⟨b, o + k * 4 + 2, none⟩ = some (.string tk) ∧ w'.cell? ⟨b, o + k * 4 + 3, none⟩ = some (.int .i64 lk)) (simp [*, go_sem])
        (first
          | (go_at_call 27; refine (WN _).mono ?_; rintro e w3 ⟨rfl, hw⟩; subst hw)
          | (go_at_call 28; refine (LN _).mono ?_; rintro e w3 ⟨rfl, hw⟩; subst hw))
      all_goals
        go_wp2
        go_roundw
        case rel => exact ⟨k + 1, by go_num, by omega, HBD⟩
        case measure => simp [intOf]; omega
    · have C1 := fun W => call_nil W
      have O1 := fun W => lineof_nil W
      have FN := fun W => ferr_nil W
      have PN := fun W => perr_nil W
      have FU := fun W => funw_nil W
      have PU := fun W => punw_nil W
      have YN := fun W => why_nil W
      have i1 : ¬ ((k : Int) < (m : Int) ∧ (k : Int) < 60) := by omega
      by_cases c2 : (k : Int) < (m : Int)
      · have c3 : ¬ (k : Int) < 60 := by omega
        go_wp2_with fail
        refine (C1 _).mono ?_
        rintro x w4 ⟨rfl, b4⟩
        have B4 : Hid (Below w.heap.size w w4) := HI.out.trans (b4.mono HI.out.size)
        clear b4
        go_wp2_with fail
        refine (O1 _).mono ?_
        rintro x w5 ⟨rfl, b5⟩
        have B5 : Hid (Below w.heap.size w w5) := B4.out.trans (b5.mono B4.out.size)
        clear b5
        go_wp2_with fail
        refine (FN _).mono ?_
        rintro x w6 ⟨rfl, hw⟩
        subst hw
        go_wp2_with fail
        refine (FU _).mono ?_
        rintro x w6 ⟨rfl, hw⟩
        subst hw
        go_wp2_with fail
        refine (PN _).mono ?_
        rintro x w6 ⟨rfl, hw⟩
        subst hw
        go_wp2_with fail
        refine (PU _).mono ?_
        rintro x w6 ⟨rfl, hw⟩
        subst hw
        go_wp2_with fail
        refine (YN _).mono ?_
        rintro x w7 ⟨rfl, b7⟩
        have B7 : Hid (Below w.heap.size w w7) := B5.out.trans (b7.mono B5.out.size)
        clear b7
        go_wp2_with fail
        refine (S1 _ (HP.out.step B7.out)).mono ?_
        rintro x w8 ⟨rfl, b8⟩
        have B8 : Hid (Below w.heap.size w w8) := B7.out.trans (b8.mono B7.out.size)
        clear b8
        go_wp2
        go_ret
        exact ⟨rfl, B8.out⟩
      · go_wp2_with fail
        refine (C1 _).mono ?_
        rintro x w4 ⟨rfl, b4⟩
        have B4 : Hid (Below w.heap.size w w4) := HI.out.trans (b4.mono HI.out.size)
        clear b4
        go_wp2_with fail
        refine (O1 _).mono ?_
        rintro x w5 ⟨rfl, b5⟩
        have B5 : Hid (Below w.heap.size w w5) := B4.out.trans (b5.mono B4.out.size)
        clear b5
        go_wp2_with fail
        refine (FN _).mono ?_
        rintro x w6 ⟨rfl, hw⟩
        subst hw
        go_wp2_with fail
        refine (FU _).mono ?_
        rintro x w6 ⟨rfl, hw⟩
        subst hw
        go_wp2_with fail
        refine (PN _).mono ?_
        rintro x w6 ⟨rfl, hw⟩
        subst hw
        go_wp2_with fail
        refine (PU _).mono ?_
        rintro x w6 ⟨rfl, hw⟩
        subst hw
        go_wp2_with fail
        refine (YN _).mono ?_
        rintro x w7 ⟨rfl, b7⟩
        have B7 : Hid (Below w.heap.size w w7) := B5.out.trans (b7.mono B5.out.size)
        clear b7
        go_wp2_with fail
        refine (S1 _ (HP.out.step B7.out)).mono ?_
        rintro x w8 ⟨rfl, b8⟩
        have B8 : Hid (Below w.heap.size w w8) := B7.out.trans (b8.mono B7.out.size)
        clear b8
        go_wp2
        go_ret
        exact ⟨rfl, B8.out⟩
end Go.Proofs.YtelobjhmbabiaaaDoor
