/-
  The document's Narrow of a fine float: the nearest float of 32 bits.
-/
import Derived.Test.YtdejfjlcknfbbaaDoorBtRn
namespace Go.Proofs.YtdejfjlcknfbbaaDoor
open Go.RowKit

set_option maxRecDepth 100000 in
set_option maxHeartbeats 4000000 in
theorem rnarrow_fine {b : Int} {m : Nat} {p : Int} {x0 : Bool} (m0 : m ≠ 0) (hm : m < 9007199254740992) (hp0 : -1074 ≤ p) (hp1 : p ≤ 971) (hc : 4503599627370496 ≤ m ∨ p = -1074) (HU : ∀ W, Calls Tryd.prog 10 #[.int .u64 b, .int .i64 64] W fun e w' => e = .returned (.tuple #[.agg #[.bool x0, .int .i64 2, .int .u64 (m : Int), .int .i64 p], .int .i64 0]) ∧ Below W.heap.size W w') (w : World) :
    Calls Tryd.prog 37 #[.int .u64 b] w fun e w' => e = .returned (.tuple #[.int .u64 ((sgd 2147483648 x0 (nw m p).1 : Nat) : Int), .bool (nw m p).2]) ∧ Below w.heap.size w w' := by
  have HZ := fun W => rsigned_32 (x := 0) (by decide) x0 W
  rw [show ((0 : Nat) : Int) = 0 from rfl] at HZ
  have HI := fun W => rinf_32 W
  have HGI := fun W => rsigned_32 (x := 2139095040) (by decide) x0 W
  rw [show ((2139095040 : Nat) : Int) = 2139095040 from rfl] at HGI
  have M0 : Hid (m ≠ 0) := m0
  have HM : Hid (m < 9007199254740992) := hm
  have HC : Hid (4503599627370496 ≤ m ∨ p = -1074) := hc
  have L53 : Hid (ln m ≤ 53) := (ln_iff m 53).2 hm
  clear m0 hm hc
  go_enter Tryd.func37, Tryd.ntmps37
  go_wp2_with fail
  refine (HU _).mono ?_
  rintro e w1 ⟨rfl, hb⟩
  have B : Hid (Below w.heap.size w w1) := hb
  have l := hb.size
  clear hb
  have F : Hid (FlB (w1.alloc (.cells #[.bool x0, .int .i64 2, .int .u64 (m : Int), .int .i64 p] 24)).drew w1.heap.size _ _ _ _) := (FlB.new w1 _ _ _ _ _).drew
  have C : Hid (Below w.heap.size w (w1.alloc (.cells #[.bool x0, .int .i64 2, .int .u64 (m : Int), .int .i64 p] 24)).drew) := (B.out.alloc l _).drew
  have CL : Hid (w.heap.size ≤ (w1.alloc (.cells #[.bool x0, .int .i64 2, .int .u64 (m : Int), .int .i64 p] 24)).drew.heap.size) := by show w.heap.size ≤ _; simp; omega
  go_wp2
  go_region_held3 (fun w' => w'.cell? ⟨w1.heap.size, 2, none⟩ = some (.int .u64 (m : Int)) ∧ w'.cell? ⟨w1.heap.size, 3, none⟩ = some (.int .i64 p)) (simp [*, go_sem]) (fail)
  go_wp2
  go_loop [8, 9, 10] (fun M X S => ∃ j : Nat, M = .int .u64 ((m / 2 ^ j : Nat) : Int) ∧ X = .int .i64 (p + (j : Int)) ∧ S = .bool (decide (m % 2 ^ j ≠ 0)) ∧ Hid (j = 0 ∨ 2 ^ 25 ≤ m / 2 ^ (j - 1) ∨ (m / 2 ^ (j - 1) ≠ 0 ∧ p + ((j - 1 : Nat) : Int) < -150))) (fun M _ _ => (intOf M).toNat)
  case atStart => exact ⟨0, by rw [Nat.pow_zero, Nat.div_one], by simp, by rw [Nat.pow_zero, Nat.mod_one]; rfl, .inl rfl⟩
  case round =>
    obtain ⟨j, rfl, rfl, rfl, HF⟩ := hrel
    have hE1 : p + (j : Int) ≤ 1100 := by
      have l3 := L53.out
      rcases HF.out with x | x | ⟨x, y⟩
      · omega
      · rw [div_ln_le] at x
        omega
      · omega
    obtain ⟨a, ha⟩ : ∃ a, a = m / 2 ^ j := ⟨_, rfl⟩
    obtain ⟨st, hst⟩ : ∃ st, st = decide (m % 2 ^ j ≠ 0) := ⟨_, rfl⟩
    obtain ⟨E, hE⟩ : ∃ E, E = p + (j : Int) := ⟨_, rfl⟩
    have ha1 : a < 18446744073709551616 := by
      have := Nat.div_le_self m (2 ^ j)
      have := HM.out
      omega
    have hE0 : -1074 ≤ E := by omega
    rw [← ha, ← hst, ← hE]
    rw [← hE] at hE1
    have Ha : Hid (m / 2 ^ j = a) := ha.symm
    have Hst : Hid (decide (m % 2 ^ j ≠ 0) = st) := hst.symm
    have HE : Hid (E = p + (j : Int)) := hE
    clear ha hst hE
    by_cases g : 33554432 ≤ a
    · have e1 : ((a : Int) / 33554432 != 0) = true := by simp; omega
      cases st
      · by_cases o : a % 2 = 1
        · have e2 : bits BinOp.and IntKind.u64 (a : Int) 1 = 1 := by rw [and_one ha1, o]; rfl
          go_wp2
          go_round
          case rel => exact ⟨j + 1, by rw [div_succ_pow, Ha.out]; go_num, by rw [HE.out]; go_num, by rw [decide_eq_true ((stk_succ m j).2 (.inr (by rw [Ha.out]; exact o)))], .inr (.inl (by show 2 ^ 25 ≤ m / 2 ^ j; rw [Ha.out]; exact g))⟩
          case measure => simp [intOf]; omega
        · have e2 : bits BinOp.and IntKind.u64 (a : Int) 1 = 0 := by rw [and_one ha1, show a % 2 = 0 by omega]; rfl
          go_wp2
          go_round
          case rel => exact ⟨j + 1, by rw [div_succ_pow, Ha.out]; go_num, by rw [HE.out]; go_num, by rw [decide_eq_false (fun x => ((stk_succ m j).1 x).elim (fun y => by have := Hst.out; rw [decide_eq_true y] at this; cases this) (fun y => o (by rw [← Ha.out]; exact y)))], .inr (.inl (by show 2 ^ 25 ≤ m / 2 ^ j; rw [Ha.out]; exact g))⟩
          case measure => simp [intOf]; omega
      · go_wp2
        go_round
        case rel => exact ⟨j + 1, by rw [div_succ_pow, Ha.out]; go_num, by rw [HE.out]; go_num, by rw [decide_eq_true ((stk_succ m j).2 (.inl (of_decide_eq_true Hst.out)))], .inr (.inl (by show 2 ^ 25 ≤ m / 2 ^ j; rw [Ha.out]; exact g))⟩
        case measure => simp [intOf]; omega
    · have e1 : ((a : Int) / 33554432 != 0) = false := by simp; omega
      by_cases g0 : a = 0
      · have HV : Hid (nw m p = (0, false)) := nw_zero rfl (End.nought (j := j) ⟨by rw [Ha.out, g0]; decide, .inl (by rw [Ha.out]; exact g0), HF.out⟩ M0.out (by rw [Ha.out]; exact g0))
        have i0 : bits BinOp.and IntKind.u64 0 1 = 0 := by decide
        subst g0
        rw [show ((0 : Nat) : Int) = 0 from rfl]
        clear Ha HF e1 g
        by_cases q : E = -150
        · have q' : (E == -150) = true := by simpa using q
          cases st
          all_goals
            go_wp2_with fail
            refine (HZ _).mono ?_
            rintro e w2 ⟨rfl, hh⟩
            subst hh
            go_wp2
            go_ret2
            exact ⟨by rw [HV.out]; rfl, C.out⟩
        · have q' : (E == -150) = false := by simpa using q
          cases st
          all_goals
            go_wp2_with fail
            refine (HZ _).mono ?_
            rintro e w2 ⟨rfl, hh⟩
            subst hh
            go_wp2
            go_ret2
            exact ⟨by rw [HV.out]; rfl, C.out⟩
      · have e0 : ((a : Int) != 0) = true := by simp; omega
        by_cases g2 : E < -150
        · cases st
          · by_cases o : a % 2 = 1
            · have e2 : bits BinOp.and IntKind.u64 (a : Int) 1 = 1 := by rw [and_one ha1, o]; rfl
              go_wp2
              go_round
              case rel => exact ⟨j + 1, by rw [div_succ_pow, Ha.out]; go_num, by rw [HE.out]; go_num, by rw [decide_eq_true ((stk_succ m j).2 (.inr (by rw [Ha.out]; exact o)))], .inr (.inr ⟨by show m / 2 ^ j ≠ 0; rw [Ha.out]; exact g0, by show p + (j : Int) < -150; rw [← HE.out]; exact g2⟩)⟩
              case measure => simp [intOf]; omega
            · have e2 : bits BinOp.and IntKind.u64 (a : Int) 1 = 0 := by rw [and_one ha1, show a % 2 = 0 by omega]; rfl
              go_wp2
              go_round
              case rel => exact ⟨j + 1, by rw [div_succ_pow, Ha.out]; go_num, by rw [HE.out]; go_num, by rw [decide_eq_false (fun x => ((stk_succ m j).1 x).elim (fun y => by have := Hst.out; rw [decide_eq_true y] at this; cases this) (fun y => o (by rw [← Ha.out]; exact y)))], .inr (.inr ⟨by show m / 2 ^ j ≠ 0; rw [Ha.out]; exact g0, by show p + (j : Int) < -150; rw [← HE.out]; exact g2⟩)⟩
              case measure => simp [intOf]; omega
          · go_wp2
            go_round
            case rel => exact ⟨j + 1, by rw [div_succ_pow, Ha.out]; go_num, by rw [HE.out]; go_num, by rw [decide_eq_true ((stk_succ m j).2 (.inl (of_decide_eq_true Hst.out)))], .inr (.inr ⟨by show m / 2 ^ j ≠ 0; rw [Ha.out]; exact g0, by show p + (j : Int) < -150; rw [← HE.out]; exact g2⟩)⟩
            case measure => simp [intOf]; omega
        · have hend : End m p j := ⟨by rw [Ha.out]; show a < 33554432; omega, .inr (by rw [← HE.out]; omega), HF.out⟩
          have HE1 : Hid (p + ((j + 1 : Nat) : Int) = E + 1) := by have := HE.out; show _ = _; omega
          obtain ⟨h2, hh2⟩ : ∃ h2, h2 = a / 2 := ⟨_, rfl⟩
          have e4 : (a : Int) / 2 = (h2 : Int) := by omega
          have H2 : Hid (a / 2 = h2) := hh2.symm
          have hb2 : h2 < 16777216 := by omega
          clear hh2
          by_cases q : E = -150
          · have q' : (E == -150) = true := by simpa using q
            have HSN : Hid (sN m p = j + 1) := hend.half (by rw [Ha.out]; exact g0) (.inl (by rw [← HE.out]; exact q))
            clear hend HF q
            cases st
            · by_cases o : a % 2 = 1
              · by_cases o2 : h2 % 2 = 1
                · have e3 : bits BinOp.and IntKind.u64 (a : Int) 1 = 1 := by rw [and_one ha1, o]; rfl
                  have e5 : bits BinOp.and IntKind.u64 (h2 : Int) 1 = 1 := by rw [and_one (by omega), o2]; rfl
                  have rb : rB m (j + 1) = true := (rB_succ m j).2 ⟨by rw [Ha.out]; exact o, .inr (by rw [Ha.out, H2.out]; exact o2)⟩
                  have hr : rN m (j + 1) = h2 + 1 := by unfold rN; rw [if_pos rb, div_succ_pow, Ha.out, H2.out]
                  have sm : decide (m % 2 ^ (j + 1) = 0) = false := decide_eq_false (fun x => by
                    have y := (same_succ m j).1 x
                    exact absurd y (fun _ => by have := y.2; rw [Ha.out] at this; omega))
                  have xz : h2 + 1 ≠ 0 := by omega
                  have HPk := fun W => rpk_fine_32 x0 (m := h2 + 1) (p := E + 1) (by omega) xz (by omega) (by omega) W
                  cases hpk : pk 23 255 (-149) (h2 + 1) (E + 1) with
                  | none =>
                    have HV : Hid (nw m p = (2139095040, false)) := nw_none (s := j + 1) HSN.out HE1.out (by rw [hr]; exact xz) (by rw [hr]; exact hpk)
                    rw [hpk] at HPk
                    unfold rpV at HPk
                    rw [show ((h2 + 1 : Nat) : Int) = (h2 : Int) + 1 by omega] at HPk
                    clear hpk HSN xz hr rb
                    go_wp2_with fail
                    refine (HPk _).mono ?_
                    rintro e w2 ⟨rfl, hb⟩
                    have C2 : Hid (Below w.heap.size w w2) := C.out.trans (hb.mono CL.out)
                    have F2 : Hid (FlB w2 w1.heap.size _ _ _ _) := F.out.step hb
                    clear hb
                    obtain ⟨_, y0, _, _, _, _, _, _, _⟩ := F2.out
                    go_wp2
                    go_region_held3 (fun w' => w'.cell? ⟨w1.heap.size, 0, none⟩ = some (.bool x0)) (simp [*, go_sem])
                      (first
                        | (go_at_call 47; refine (HI _).mono ?_; rintro q2 w3 ⟨rfl, hh⟩; subst hh)
                        | (go_at_call 26; refine (HGI _).mono ?_; rintro q2 w3 ⟨rfl, hh⟩; subst hh))
                    go_wp2
                    go_ret2
                    exact ⟨by rw [HV.out]; rfl, C2.out.drew⟩
                  | some y =>
                    have HV : Hid (nw m p = (y, false)) := by
                      show _ = _
                      rw [nw_some (s := j + 1) HSN.out HE1.out (by rw [hr]; exact xz) (by rw [hr]; exact hpk), sm]
                    rw [hpk] at HPk
                    unfold rpV at HPk
                    rw [show ((h2 + 1 : Nat) : Int) = (h2 : Int) + 1 by omega] at HPk
                    clear hpk HSN xz hr rb sm
                    go_wp2_with fail
                    refine (HPk _).mono ?_
                    rintro e w2 ⟨rfl, hb⟩
                    have C2 : Hid (Below w.heap.size w w2) := C.out.trans (hb.mono CL.out)
                    clear hb
                    go_wp2
                    go_ret2
                    exact ⟨by rw [HV.out]; rfl, C2.out⟩
                · have e3 : bits BinOp.and IntKind.u64 (a : Int) 1 = 1 := by rw [and_one ha1, o]; rfl
                  have e5 : bits BinOp.and IntKind.u64 (h2 : Int) 1 = 0 := by rw [and_one (by omega), show h2 % 2 = 0 by omega]; rfl
                  have rb : ¬ rB m (j + 1) = true := fun y => by
                    have x := (rB_succ m j).1 y
                    exact x.2.elim (fun y => by have := Hst.out; rw [decide_eq_true y] at this; cases this) (fun y => o2 (by rw [← H2.out, ← Ha.out]; exact y))
                  have hr : rN m (j + 1) = h2 := by unfold rN; rw [if_neg rb, div_succ_pow, Ha.out, H2.out, Nat.add_zero]
                  have sm : decide (m % 2 ^ (j + 1) = 0) = false := decide_eq_false (fun x => by
                    have y := (same_succ m j).1 x
                    exact absurd y (fun _ => by have := y.2; rw [Ha.out] at this; omega))
                  by_cases zz : h2 = 0
                  · have HV : Hid (nw m p = (0, false)) := nw_zero (s := j + 1) HSN.out (by rw [hr]; exact zz)
                    clear HSN hr rb sm
                    have z0 : ((h2 : Int) == 0) = true := by simp; omega
                    go_wp2_with fail
                    refine (HZ _).mono ?_
                    rintro e w2 ⟨rfl, hh⟩
                    subst hh
                    go_wp2
                    go_ret2
                    exact ⟨by rw [HV.out]; rfl, C.out⟩
                  · have z0 : ((h2 : Int) == 0) = false := by simp; omega
                    have xz : h2 ≠ 0 := by omega
                    have HPk := fun W => rpk_fine_32 x0 (m := h2) (p := E + 1) (by omega) xz (by omega) (by omega) W
                    cases hpk : pk 23 255 (-149) (h2) (E + 1) with
                    | none =>
                      have HV : Hid (nw m p = (2139095040, false)) := nw_none (s := j + 1) HSN.out HE1.out (by rw [hr]; exact xz) (by rw [hr]; exact hpk)
                      rw [hpk] at HPk
                      unfold rpV at HPk
                      clear hpk HSN xz hr rb
                      go_wp2_with fail
                      refine (HPk _).mono ?_
                      rintro e w2 ⟨rfl, hb⟩
                      have C2 : Hid (Below w.heap.size w w2) := C.out.trans (hb.mono CL.out)
                      have F2 : Hid (FlB w2 w1.heap.size _ _ _ _) := F.out.step hb
                      clear hb
                      obtain ⟨_, y0, _, _, _, _, _, _, _⟩ := F2.out
                      go_wp2
                      go_region_held3 (fun w' => w'.cell? ⟨w1.heap.size, 0, none⟩ = some (.bool x0)) (simp [*, go_sem])
                        (first
                          | (go_at_call 47; refine (HI _).mono ?_; rintro q2 w3 ⟨rfl, hh⟩; subst hh)
                          | (go_at_call 26; refine (HGI _).mono ?_; rintro q2 w3 ⟨rfl, hh⟩; subst hh))
                      go_wp2
                      go_ret2
                      exact ⟨by rw [HV.out]; rfl, C2.out.drew⟩
                    | some y =>
                      have HV : Hid (nw m p = (y, false)) := by
                        show _ = _
                        rw [nw_some (s := j + 1) HSN.out HE1.out (by rw [hr]; exact xz) (by rw [hr]; exact hpk), sm]
                      rw [hpk] at HPk
                      unfold rpV at HPk
                      clear hpk HSN xz hr rb sm
                      go_wp2_with fail
                      refine (HPk _).mono ?_
                      rintro e w2 ⟨rfl, hb⟩
                      have C2 : Hid (Below w.heap.size w w2) := C.out.trans (hb.mono CL.out)
                      clear hb
                      go_wp2
                      go_ret2
                      exact ⟨by rw [HV.out]; rfl, C2.out⟩
              · have e3 : bits BinOp.and IntKind.u64 (a : Int) 1 = 0 := by rw [and_one ha1, show a % 2 = 0 by omega]; rfl
                have rb : ¬ rB m (j + 1) = true := fun y => by
                  have x := (rB_succ m j).1 y
                  exact o (by rw [← Ha.out]; exact x.1)
                have hr : rN m (j + 1) = h2 := by unfold rN; rw [if_neg rb, div_succ_pow, Ha.out, H2.out, Nat.add_zero]
                have sm : decide (m % 2 ^ (j + 1) = 0) = true := decide_eq_true ((same_succ m j).2 ⟨by have := of_decide_eq_false Hst.out; omega, by rw [Ha.out]; omega⟩)
                by_cases zz : h2 = 0
                · exfalso; omega
                · have z0 : ((h2 : Int) == 0) = false := by simp; omega
                  have xz : h2 ≠ 0 := by omega
                  have HPk := fun W => rpk_fine_32 x0 (m := h2) (p := E + 1) (by omega) xz (by omega) (by omega) W
                  cases hpk : pk 23 255 (-149) (h2) (E + 1) with
                  | none =>
                    have HV : Hid (nw m p = (2139095040, false)) := nw_none (s := j + 1) HSN.out HE1.out (by rw [hr]; exact xz) (by rw [hr]; exact hpk)
                    rw [hpk] at HPk
                    unfold rpV at HPk
                    clear hpk HSN xz hr rb
                    go_wp2_with fail
                    refine (HPk _).mono ?_
                    rintro e w2 ⟨rfl, hb⟩
                    have C2 : Hid (Below w.heap.size w w2) := C.out.trans (hb.mono CL.out)
                    have F2 : Hid (FlB w2 w1.heap.size _ _ _ _) := F.out.step hb
                    clear hb
                    obtain ⟨_, y0, _, _, _, _, _, _, _⟩ := F2.out
                    go_wp2
                    go_region_held3 (fun w' => w'.cell? ⟨w1.heap.size, 0, none⟩ = some (.bool x0)) (simp [*, go_sem])
                      (first
                        | (go_at_call 47; refine (HI _).mono ?_; rintro q2 w3 ⟨rfl, hh⟩; subst hh)
                        | (go_at_call 26; refine (HGI _).mono ?_; rintro q2 w3 ⟨rfl, hh⟩; subst hh))
                    go_wp2
                    go_ret2
                    exact ⟨by rw [HV.out]; rfl, C2.out.drew⟩
                  | some y =>
                    have HV : Hid (nw m p = (y, true)) := by
                      show _ = _
                      rw [nw_some (s := j + 1) HSN.out HE1.out (by rw [hr]; exact xz) (by rw [hr]; exact hpk), sm]
                    rw [hpk] at HPk
                    unfold rpV at HPk
                    clear hpk HSN xz hr rb sm
                    go_wp2_with fail
                    refine (HPk _).mono ?_
                    rintro e w2 ⟨rfl, hb⟩
                    have C2 : Hid (Below w.heap.size w w2) := C.out.trans (hb.mono CL.out)
                    clear hb
                    go_wp2
                    go_ret2
                    exact ⟨by rw [HV.out]; rfl, C2.out⟩
            · by_cases o : a % 2 = 1
              · have e3 : bits BinOp.and IntKind.u64 (a : Int) 1 = 1 := by rw [and_one ha1, o]; rfl
                have rb : rB m (j + 1) = true := (rB_succ m j).2 ⟨by rw [Ha.out]; exact o, .inl (of_decide_eq_true Hst.out)⟩
                have hr : rN m (j + 1) = h2 + 1 := by unfold rN; rw [if_pos rb, div_succ_pow, Ha.out, H2.out]
                have sm : decide (m % 2 ^ (j + 1) = 0) = false := decide_eq_false (fun x => by
                  have y := (same_succ m j).1 x
                  exact absurd y (fun _ => of_decide_eq_true Hst.out y.1))
                have xz : h2 + 1 ≠ 0 := by omega
                have HPk := fun W => rpk_fine_32 x0 (m := h2 + 1) (p := E + 1) (by omega) xz (by omega) (by omega) W
                cases hpk : pk 23 255 (-149) (h2 + 1) (E + 1) with
                | none =>
                  have HV : Hid (nw m p = (2139095040, false)) := nw_none (s := j + 1) HSN.out HE1.out (by rw [hr]; exact xz) (by rw [hr]; exact hpk)
                  rw [hpk] at HPk
                  unfold rpV at HPk
                  rw [show ((h2 + 1 : Nat) : Int) = (h2 : Int) + 1 by omega] at HPk
                  clear hpk HSN xz hr rb
                  go_wp2_with fail
                  refine (HPk _).mono ?_
                  rintro e w2 ⟨rfl, hb⟩
                  have C2 : Hid (Below w.heap.size w w2) := C.out.trans (hb.mono CL.out)
                  have F2 : Hid (FlB w2 w1.heap.size _ _ _ _) := F.out.step hb
                  clear hb
                  obtain ⟨_, y0, _, _, _, _, _, _, _⟩ := F2.out
                  go_wp2
                  go_region_held3 (fun w' => w'.cell? ⟨w1.heap.size, 0, none⟩ = some (.bool x0)) (simp [*, go_sem])
                    (first
                      | (go_at_call 47; refine (HI _).mono ?_; rintro q2 w3 ⟨rfl, hh⟩; subst hh)
                      | (go_at_call 26; refine (HGI _).mono ?_; rintro q2 w3 ⟨rfl, hh⟩; subst hh))
                  go_wp2
                  go_ret2
                  exact ⟨by rw [HV.out]; rfl, C2.out.drew⟩
                | some y =>
                  have HV : Hid (nw m p = (y, false)) := by
                    show _ = _
                    rw [nw_some (s := j + 1) HSN.out HE1.out (by rw [hr]; exact xz) (by rw [hr]; exact hpk), sm]
                  rw [hpk] at HPk
                  unfold rpV at HPk
                  rw [show ((h2 + 1 : Nat) : Int) = (h2 : Int) + 1 by omega] at HPk
                  clear hpk HSN xz hr rb sm
                  go_wp2_with fail
                  refine (HPk _).mono ?_
                  rintro e w2 ⟨rfl, hb⟩
                  have C2 : Hid (Below w.heap.size w w2) := C.out.trans (hb.mono CL.out)
                  clear hb
                  go_wp2
                  go_ret2
                  exact ⟨by rw [HV.out]; rfl, C2.out⟩
              · have e3 : bits BinOp.and IntKind.u64 (a : Int) 1 = 0 := by rw [and_one ha1, show a % 2 = 0 by omega]; rfl
                have rb : ¬ rB m (j + 1) = true := fun y => by
                  have x := (rB_succ m j).1 y
                  exact o (by rw [← Ha.out]; exact x.1)
                have hr : rN m (j + 1) = h2 := by unfold rN; rw [if_neg rb, div_succ_pow, Ha.out, H2.out, Nat.add_zero]
                have sm : decide (m % 2 ^ (j + 1) = 0) = false := decide_eq_false (fun x => by
                  have y := (same_succ m j).1 x
                  exact absurd y (fun _ => of_decide_eq_true Hst.out y.1))
                by_cases zz : h2 = 0
                · exfalso; omega
                · have z0 : ((h2 : Int) == 0) = false := by simp; omega
                  have xz : h2 ≠ 0 := by omega
                  have HPk := fun W => rpk_fine_32 x0 (m := h2) (p := E + 1) (by omega) xz (by omega) (by omega) W
                  cases hpk : pk 23 255 (-149) (h2) (E + 1) with
                  | none =>
                    have HV : Hid (nw m p = (2139095040, false)) := nw_none (s := j + 1) HSN.out HE1.out (by rw [hr]; exact xz) (by rw [hr]; exact hpk)
                    rw [hpk] at HPk
                    unfold rpV at HPk
                    clear hpk HSN xz hr rb
                    go_wp2_with fail
                    refine (HPk _).mono ?_
                    rintro e w2 ⟨rfl, hb⟩
                    have C2 : Hid (Below w.heap.size w w2) := C.out.trans (hb.mono CL.out)
                    have F2 : Hid (FlB w2 w1.heap.size _ _ _ _) := F.out.step hb
                    clear hb
                    obtain ⟨_, y0, _, _, _, _, _, _, _⟩ := F2.out
                    go_wp2
                    go_region_held3 (fun w' => w'.cell? ⟨w1.heap.size, 0, none⟩ = some (.bool x0)) (simp [*, go_sem])
                      (first
                        | (go_at_call 47; refine (HI _).mono ?_; rintro q2 w3 ⟨rfl, hh⟩; subst hh)
                        | (go_at_call 26; refine (HGI _).mono ?_; rintro q2 w3 ⟨rfl, hh⟩; subst hh))
                    go_wp2
                    go_ret2
                    exact ⟨by rw [HV.out]; rfl, C2.out.drew⟩
                  | some y =>
                    have HV : Hid (nw m p = (y, false)) := by
                      show _ = _
                      rw [nw_some (s := j + 1) HSN.out HE1.out (by rw [hr]; exact xz) (by rw [hr]; exact hpk), sm]
                    rw [hpk] at HPk
                    unfold rpV at HPk
                    clear hpk HSN xz hr rb sm
                    go_wp2_with fail
                    refine (HPk _).mono ?_
                    rintro e w2 ⟨rfl, hb⟩
                    have C2 : Hid (Below w.heap.size w w2) := C.out.trans (hb.mono CL.out)
                    clear hb
                    go_wp2
                    go_ret2
                    exact ⟨by rw [HV.out]; rfl, C2.out⟩
          · have q' : (E == -150) = false := by simpa using q
            by_cases q2 : 16777216 ≤ a
            · have e6 : ((a : Int) / 16777216 != 0) = true := by simp; omega
              have HSN : Hid (sN m p = j + 1) := hend.half (by rw [Ha.out]; exact g0) (.inr (by rw [Ha.out]; exact q2))
              clear hend HF
              cases st
              · by_cases o : a % 2 = 1
                · by_cases o2 : h2 % 2 = 1
                  · have e3 : bits BinOp.and IntKind.u64 (a : Int) 1 = 1 := by rw [and_one ha1, o]; rfl
                    have e5 : bits BinOp.and IntKind.u64 (h2 : Int) 1 = 1 := by rw [and_one (by omega), o2]; rfl
                    have rb : rB m (j + 1) = true := (rB_succ m j).2 ⟨by rw [Ha.out]; exact o, .inr (by rw [Ha.out, H2.out]; exact o2)⟩
                    have hr : rN m (j + 1) = h2 + 1 := by unfold rN; rw [if_pos rb, div_succ_pow, Ha.out, H2.out]
                    have sm : decide (m % 2 ^ (j + 1) = 0) = false := decide_eq_false (fun x => by
                      have y := (same_succ m j).1 x
                      exact absurd y (fun _ => by have := y.2; rw [Ha.out] at this; omega))
                    have xz : h2 + 1 ≠ 0 := by omega
                    have HPk := fun W => rpk_fine_32 x0 (m := h2 + 1) (p := E + 1) (by omega) xz (by omega) (by omega) W
                    cases hpk : pk 23 255 (-149) (h2 + 1) (E + 1) with
                    | none =>
                      have HV : Hid (nw m p = (2139095040, false)) := nw_none (s := j + 1) HSN.out HE1.out (by rw [hr]; exact xz) (by rw [hr]; exact hpk)
                      rw [hpk] at HPk
                      unfold rpV at HPk
                      rw [show ((h2 + 1 : Nat) : Int) = (h2 : Int) + 1 by omega] at HPk
                      clear hpk HSN xz hr rb
                      go_wp2_with fail
                      refine (HPk _).mono ?_
                      rintro e w2 ⟨rfl, hb⟩
                      have C2 : Hid (Below w.heap.size w w2) := C.out.trans (hb.mono CL.out)
                      have F2 : Hid (FlB w2 w1.heap.size _ _ _ _) := F.out.step hb
                      clear hb
                      obtain ⟨_, y0, _, _, _, _, _, _, _⟩ := F2.out
                      go_wp2
                      go_region_held3 (fun w' => w'.cell? ⟨w1.heap.size, 0, none⟩ = some (.bool x0)) (simp [*, go_sem])
                        (first
                          | (go_at_call 47; refine (HI _).mono ?_; rintro q2 w3 ⟨rfl, hh⟩; subst hh)
                          | (go_at_call 26; refine (HGI _).mono ?_; rintro q2 w3 ⟨rfl, hh⟩; subst hh))
                      go_wp2
                      go_ret2
                      exact ⟨by rw [HV.out]; rfl, C2.out.drew⟩
                    | some y =>
                      have HV : Hid (nw m p = (y, false)) := by
                        show _ = _
                        rw [nw_some (s := j + 1) HSN.out HE1.out (by rw [hr]; exact xz) (by rw [hr]; exact hpk), sm]
                      rw [hpk] at HPk
                      unfold rpV at HPk
                      rw [show ((h2 + 1 : Nat) : Int) = (h2 : Int) + 1 by omega] at HPk
                      clear hpk HSN xz hr rb sm
                      go_wp2_with fail
                      refine (HPk _).mono ?_
                      rintro e w2 ⟨rfl, hb⟩
                      have C2 : Hid (Below w.heap.size w w2) := C.out.trans (hb.mono CL.out)
                      clear hb
                      go_wp2
                      go_ret2
                      exact ⟨by rw [HV.out]; rfl, C2.out⟩
                  · have e3 : bits BinOp.and IntKind.u64 (a : Int) 1 = 1 := by rw [and_one ha1, o]; rfl
                    have e5 : bits BinOp.and IntKind.u64 (h2 : Int) 1 = 0 := by rw [and_one (by omega), show h2 % 2 = 0 by omega]; rfl
                    have rb : ¬ rB m (j + 1) = true := fun y => by
                      have x := (rB_succ m j).1 y
                      exact x.2.elim (fun y => by have := Hst.out; rw [decide_eq_true y] at this; cases this) (fun y => o2 (by rw [← H2.out, ← Ha.out]; exact y))
                    have hr : rN m (j + 1) = h2 := by unfold rN; rw [if_neg rb, div_succ_pow, Ha.out, H2.out, Nat.add_zero]
                    have sm : decide (m % 2 ^ (j + 1) = 0) = false := decide_eq_false (fun x => by
                      have y := (same_succ m j).1 x
                      exact absurd y (fun _ => by have := y.2; rw [Ha.out] at this; omega))
                    by_cases zz : h2 = 0
                    · exfalso; omega
                    · have z0 : ((h2 : Int) == 0) = false := by simp; omega
                      have xz : h2 ≠ 0 := by omega
                      have HPk := fun W => rpk_fine_32 x0 (m := h2) (p := E + 1) (by omega) xz (by omega) (by omega) W
                      cases hpk : pk 23 255 (-149) (h2) (E + 1) with
                      | none =>
                        have HV : Hid (nw m p = (2139095040, false)) := nw_none (s := j + 1) HSN.out HE1.out (by rw [hr]; exact xz) (by rw [hr]; exact hpk)
                        rw [hpk] at HPk
                        unfold rpV at HPk
                        clear hpk HSN xz hr rb
                        go_wp2_with fail
                        refine (HPk _).mono ?_
                        rintro e w2 ⟨rfl, hb⟩
                        have C2 : Hid (Below w.heap.size w w2) := C.out.trans (hb.mono CL.out)
                        have F2 : Hid (FlB w2 w1.heap.size _ _ _ _) := F.out.step hb
                        clear hb
                        obtain ⟨_, y0, _, _, _, _, _, _, _⟩ := F2.out
                        go_wp2
                        go_region_held3 (fun w' => w'.cell? ⟨w1.heap.size, 0, none⟩ = some (.bool x0)) (simp [*, go_sem])
                          (first
                            | (go_at_call 47; refine (HI _).mono ?_; rintro q2 w3 ⟨rfl, hh⟩; subst hh)
                            | (go_at_call 26; refine (HGI _).mono ?_; rintro q2 w3 ⟨rfl, hh⟩; subst hh))
                        go_wp2
                        go_ret2
                        exact ⟨by rw [HV.out]; rfl, C2.out.drew⟩
                      | some y =>
                        have HV : Hid (nw m p = (y, false)) := by
                          show _ = _
                          rw [nw_some (s := j + 1) HSN.out HE1.out (by rw [hr]; exact xz) (by rw [hr]; exact hpk), sm]
                        rw [hpk] at HPk
                        unfold rpV at HPk
                        clear hpk HSN xz hr rb sm
                        go_wp2_with fail
                        refine (HPk _).mono ?_
                        rintro e w2 ⟨rfl, hb⟩
                        have C2 : Hid (Below w.heap.size w w2) := C.out.trans (hb.mono CL.out)
                        clear hb
                        go_wp2
                        go_ret2
                        exact ⟨by rw [HV.out]; rfl, C2.out⟩
                · have e3 : bits BinOp.and IntKind.u64 (a : Int) 1 = 0 := by rw [and_one ha1, show a % 2 = 0 by omega]; rfl
                  have rb : ¬ rB m (j + 1) = true := fun y => by
                    have x := (rB_succ m j).1 y
                    exact o (by rw [← Ha.out]; exact x.1)
                  have hr : rN m (j + 1) = h2 := by unfold rN; rw [if_neg rb, div_succ_pow, Ha.out, H2.out, Nat.add_zero]
                  have sm : decide (m % 2 ^ (j + 1) = 0) = true := decide_eq_true ((same_succ m j).2 ⟨by have := of_decide_eq_false Hst.out; omega, by rw [Ha.out]; omega⟩)
                  by_cases zz : h2 = 0
                  · exfalso; omega
                  · have z0 : ((h2 : Int) == 0) = false := by simp; omega
                    have xz : h2 ≠ 0 := by omega
                    have HPk := fun W => rpk_fine_32 x0 (m := h2) (p := E + 1) (by omega) xz (by omega) (by omega) W
                    cases hpk : pk 23 255 (-149) (h2) (E + 1) with
                    | none =>
                      have HV : Hid (nw m p = (2139095040, false)) := nw_none (s := j + 1) HSN.out HE1.out (by rw [hr]; exact xz) (by rw [hr]; exact hpk)
                      rw [hpk] at HPk
                      unfold rpV at HPk
                      clear hpk HSN xz hr rb
                      go_wp2_with fail
                      refine (HPk _).mono ?_
                      rintro e w2 ⟨rfl, hb⟩
                      have C2 : Hid (Below w.heap.size w w2) := C.out.trans (hb.mono CL.out)
                      have F2 : Hid (FlB w2 w1.heap.size _ _ _ _) := F.out.step hb
                      clear hb
                      obtain ⟨_, y0, _, _, _, _, _, _, _⟩ := F2.out
                      go_wp2
                      go_region_held3 (fun w' => w'.cell? ⟨w1.heap.size, 0, none⟩ = some (.bool x0)) (simp [*, go_sem])
                        (first
                          | (go_at_call 47; refine (HI _).mono ?_; rintro q2 w3 ⟨rfl, hh⟩; subst hh)
                          | (go_at_call 26; refine (HGI _).mono ?_; rintro q2 w3 ⟨rfl, hh⟩; subst hh))
                      go_wp2
                      go_ret2
                      exact ⟨by rw [HV.out]; rfl, C2.out.drew⟩
                    | some y =>
                      have HV : Hid (nw m p = (y, true)) := by
                        show _ = _
                        rw [nw_some (s := j + 1) HSN.out HE1.out (by rw [hr]; exact xz) (by rw [hr]; exact hpk), sm]
                      rw [hpk] at HPk
                      unfold rpV at HPk
                      clear hpk HSN xz hr rb sm
                      go_wp2_with fail
                      refine (HPk _).mono ?_
                      rintro e w2 ⟨rfl, hb⟩
                      have C2 : Hid (Below w.heap.size w w2) := C.out.trans (hb.mono CL.out)
                      clear hb
                      go_wp2
                      go_ret2
                      exact ⟨by rw [HV.out]; rfl, C2.out⟩
              · by_cases o : a % 2 = 1
                · have e3 : bits BinOp.and IntKind.u64 (a : Int) 1 = 1 := by rw [and_one ha1, o]; rfl
                  have rb : rB m (j + 1) = true := (rB_succ m j).2 ⟨by rw [Ha.out]; exact o, .inl (of_decide_eq_true Hst.out)⟩
                  have hr : rN m (j + 1) = h2 + 1 := by unfold rN; rw [if_pos rb, div_succ_pow, Ha.out, H2.out]
                  have sm : decide (m % 2 ^ (j + 1) = 0) = false := decide_eq_false (fun x => by
                    have y := (same_succ m j).1 x
                    exact absurd y (fun _ => of_decide_eq_true Hst.out y.1))
                  have xz : h2 + 1 ≠ 0 := by omega
                  have HPk := fun W => rpk_fine_32 x0 (m := h2 + 1) (p := E + 1) (by omega) xz (by omega) (by omega) W
                  cases hpk : pk 23 255 (-149) (h2 + 1) (E + 1) with
                  | none =>
                    have HV : Hid (nw m p = (2139095040, false)) := nw_none (s := j + 1) HSN.out HE1.out (by rw [hr]; exact xz) (by rw [hr]; exact hpk)
                    rw [hpk] at HPk
                    unfold rpV at HPk
                    rw [show ((h2 + 1 : Nat) : Int) = (h2 : Int) + 1 by omega] at HPk
                    clear hpk HSN xz hr rb
                    go_wp2_with fail
                    refine (HPk _).mono ?_
                    rintro e w2 ⟨rfl, hb⟩
                    have C2 : Hid (Below w.heap.size w w2) := C.out.trans (hb.mono CL.out)
                    have F2 : Hid (FlB w2 w1.heap.size _ _ _ _) := F.out.step hb
                    clear hb
                    obtain ⟨_, y0, _, _, _, _, _, _, _⟩ := F2.out
                    go_wp2
                    go_region_held3 (fun w' => w'.cell? ⟨w1.heap.size, 0, none⟩ = some (.bool x0)) (simp [*, go_sem])
                      (first
                        | (go_at_call 47; refine (HI _).mono ?_; rintro q2 w3 ⟨rfl, hh⟩; subst hh)
                        | (go_at_call 26; refine (HGI _).mono ?_; rintro q2 w3 ⟨rfl, hh⟩; subst hh))
                    go_wp2
                    go_ret2
                    exact ⟨by rw [HV.out]; rfl, C2.out.drew⟩
                  | some y =>
                    have HV : Hid (nw m p = (y, false)) := by
                      show _ = _
                      rw [nw_some (s := j + 1) HSN.out HE1.out (by rw [hr]; exact xz) (by rw [hr]; exact hpk), sm]
                    rw [hpk] at HPk
                    unfold rpV at HPk
                    rw [show ((h2 + 1 : Nat) : Int) = (h2 : Int) + 1 by omega] at HPk
                    clear hpk HSN xz hr rb sm
                    go_wp2_with fail
                    refine (HPk _).mono ?_
                    rintro e w2 ⟨rfl, hb⟩
                    have C2 : Hid (Below w.heap.size w w2) := C.out.trans (hb.mono CL.out)
                    clear hb
                    go_wp2
                    go_ret2
                    exact ⟨by rw [HV.out]; rfl, C2.out⟩
                · have e3 : bits BinOp.and IntKind.u64 (a : Int) 1 = 0 := by rw [and_one ha1, show a % 2 = 0 by omega]; rfl
                  have rb : ¬ rB m (j + 1) = true := fun y => by
                    have x := (rB_succ m j).1 y
                    exact o (by rw [← Ha.out]; exact x.1)
                  have hr : rN m (j + 1) = h2 := by unfold rN; rw [if_neg rb, div_succ_pow, Ha.out, H2.out, Nat.add_zero]
                  have sm : decide (m % 2 ^ (j + 1) = 0) = false := decide_eq_false (fun x => by
                    have y := (same_succ m j).1 x
                    exact absurd y (fun _ => of_decide_eq_true Hst.out y.1))
                  by_cases zz : h2 = 0
                  · exfalso; omega
                  · have z0 : ((h2 : Int) == 0) = false := by simp; omega
                    have xz : h2 ≠ 0 := by omega
                    have HPk := fun W => rpk_fine_32 x0 (m := h2) (p := E + 1) (by omega) xz (by omega) (by omega) W
                    cases hpk : pk 23 255 (-149) (h2) (E + 1) with
                    | none =>
                      have HV : Hid (nw m p = (2139095040, false)) := nw_none (s := j + 1) HSN.out HE1.out (by rw [hr]; exact xz) (by rw [hr]; exact hpk)
                      rw [hpk] at HPk
                      unfold rpV at HPk
                      clear hpk HSN xz hr rb
                      go_wp2_with fail
                      refine (HPk _).mono ?_
                      rintro e w2 ⟨rfl, hb⟩
                      have C2 : Hid (Below w.heap.size w w2) := C.out.trans (hb.mono CL.out)
                      have F2 : Hid (FlB w2 w1.heap.size _ _ _ _) := F.out.step hb
                      clear hb
                      obtain ⟨_, y0, _, _, _, _, _, _, _⟩ := F2.out
                      go_wp2
                      go_region_held3 (fun w' => w'.cell? ⟨w1.heap.size, 0, none⟩ = some (.bool x0)) (simp [*, go_sem])
                        (first
                          | (go_at_call 47; refine (HI _).mono ?_; rintro q2 w3 ⟨rfl, hh⟩; subst hh)
                          | (go_at_call 26; refine (HGI _).mono ?_; rintro q2 w3 ⟨rfl, hh⟩; subst hh))
                      go_wp2
                      go_ret2
                      exact ⟨by rw [HV.out]; rfl, C2.out.drew⟩
                    | some y =>
                      have HV : Hid (nw m p = (y, false)) := by
                        show _ = _
                        rw [nw_some (s := j + 1) HSN.out HE1.out (by rw [hr]; exact xz) (by rw [hr]; exact hpk), sm]
                      rw [hpk] at HPk
                      unfold rpV at HPk
                      clear hpk HSN xz hr rb sm
                      go_wp2_with fail
                      refine (HPk _).mono ?_
                      rintro e w2 ⟨rfl, hb⟩
                      have C2 : Hid (Below w.heap.size w w2) := C.out.trans (hb.mono CL.out)
                      clear hb
                      go_wp2
                      go_ret2
                      exact ⟨by rw [HV.out]; rfl, C2.out⟩
            · exfalso
              obtain ⟨j0, _⟩ := hend.none (by rw [Ha.out]; exact g0) (by rw [Ha.out, ← HE.out]; rintro (x | x) <;> first | exact q x | exact q2 x)
              have ea := Ha.out
              have eE := HE.out
              have ec := HC.out
              rw [j0, Nat.pow_zero, Nat.div_one] at ea
              omega
end Go.Proofs.YtdejfjlcknfbbaaDoor
