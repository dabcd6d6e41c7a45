/-
  Older texts, as far as layer 17 asks them: the document's numbers of many digits; floats taken apart and put together.
-/
import Derived.Test.YtkmnkogbafhfdaaDoorHx4
import Derived.Test.YtkmnkogbafhfdaaDoorHx2
namespace Go.Proofs.YtkmnkogbafhfdaaDoor
open Go.RowKit

set_option maxRecDepth 100000 in
set_option maxHeartbeats 1000000 in
theorem rfrac_32 (w : World) : Calls Tryd.prog 47 #[.int .i64 32] w fun e w' => e = .returned (.int .i64 23) ∧ w' = w := by
  go_enter Tryd.func47, Tryd.ntmps47
  go_wp2
  go_ret
  exact ⟨rfl, rfl⟩
set_option maxRecDepth 100000 in
set_option maxHeartbeats 1000000 in
theorem rtop_32 (w : World) : Calls Tryd.prog 64 #[.int .i64 32] w fun e w' => e = .returned (.int .u64 255) ∧ w' = w := by
  go_enter Tryd.func64, Tryd.ntmps64
  go_wp2
  go_ret
  exact ⟨rfl, rfl⟩
set_option maxRecDepth 100000 in
set_option maxHeartbeats 1000000 in
theorem rlow_32 (w : World) : Calls Tryd.prog 49 #[.int .i64 32] w fun e w' => e = .returned (.int .i64 (-149)) ∧ w' = w := by
  go_enter Tryd.func49, Tryd.ntmps49
  go_wp2
  go_ret
  exact ⟨rfl, rfl⟩
set_option maxRecDepth 100000 in
set_option maxHeartbeats 1000000 in
theorem rsign_32 (w : World) : Calls Tryd.prog 38 #[.int .i64 32] w fun e w' => e = .returned (.int .u64 2147483648) ∧ w' = w := by
  go_enter Tryd.func38, Tryd.ntmps38
  go_wp2
  go_ret
  exact ⟨rfl, rfl⟩
set_option maxRecDepth 100000 in
set_option maxHeartbeats 1000000 in
theorem rsize_32 (w : World) : Calls Tryd.prog 11 #[.int .i64 32] w fun e w' => e = .returned (.bool true) ∧ w' = w := by
  go_enter Tryd.func11, Tryd.ntmps11
  go_wp2
  go_ret
  exact ⟨rfl, rfl⟩
set_option maxRecDepth 100000 in
set_option maxHeartbeats 1000000 in
theorem rinf_32 (w : World) : Calls Tryd.prog 62 #[.int .i64 32] w fun e w' => e = .returned (.int .u64 2139095040) ∧ w' = w := by
  have H1 := fun W => rtop_32 W
  have H2 := fun W => rfrac_32 W
  go_enter Tryd.func62, Tryd.ntmps62
  go_wp2_with fail
  refine (H1 _).mono ?_
  rintro e w ⟨rfl, rfl⟩
  go_wp2_with fail
  refine (H2 _).mono ?_
  rintro e w ⟨rfl, rfl⟩
  go_wp2
  go_ret
  exact ⟨rfl, rfl⟩
set_option maxRecDepth 100000 in
set_option maxHeartbeats 1000000 in
theorem rInf_32 (w : World) : Calls Tryd.prog 53 #[.int .i64 32] w fun e w' => e = .returned (.int .u64 2139095040) ∧ w' = w := by
  have H1 := fun W => rinf_32 W
  go_enter Tryd.func53, Tryd.ntmps53
  go_wp2_with fail
  refine (H1 _).mono ?_
  rintro e w ⟨rfl, rfl⟩
  go_wp2
  go_ret
  exact ⟨rfl, rfl⟩
set_option maxRecDepth 100000 in
set_option maxHeartbeats 1000000 in
theorem rsigned_32 {x : Nat} (h : x < 2147483648) (c : Bool) (w : World) : Calls Tryd.prog 22 #[.bool c, .int .u64 (x : Int), .int .i64 32] w fun e w' => e = .returned (.int .u64 ((sgd 2147483648 c x : Nat) : Int)) ∧ w' = w := by
  have hA := or_sign_32 h
  have HS := fun W => rsign_32 W
  clear h
  cases c
  · go_enter Tryd.func22, Tryd.ntmps22
    go_wp2
    go_ret
    exact ⟨rfl, rfl⟩
  · go_enter Tryd.func22, Tryd.ntmps22
    go_wp2_with fail
    refine (HS _).mono ?_
    rintro e w ⟨rfl, rfl⟩
    go_wp2
    go_ret
    exact ⟨rfl, rfl⟩
set_option maxRecDepth 100000 in
set_option maxHeartbeats 1000000 in
theorem rfrac_64 (w : World) : Calls Tryd.prog 47 #[.int .i64 64] w fun e w' => e = .returned (.int .i64 52) ∧ w' = w := by
  go_enter Tryd.func47, Tryd.ntmps47
  go_wp2
  go_ret
  exact ⟨rfl, rfl⟩
set_option maxRecDepth 100000 in
set_option maxHeartbeats 1000000 in
theorem rtop_64 (w : World) : Calls Tryd.prog 64 #[.int .i64 64] w fun e w' => e = .returned (.int .u64 2047) ∧ w' = w := by
  go_enter Tryd.func64, Tryd.ntmps64
  go_wp2
  go_ret
  exact ⟨rfl, rfl⟩
set_option maxRecDepth 100000 in
set_option maxHeartbeats 1000000 in
theorem rlow_64 (w : World) : Calls Tryd.prog 49 #[.int .i64 64] w fun e w' => e = .returned (.int .i64 (-1074)) ∧ w' = w := by
  go_enter Tryd.func49, Tryd.ntmps49
  go_wp2
  go_ret
  exact ⟨rfl, rfl⟩
set_option maxRecDepth 100000 in
set_option maxHeartbeats 1000000 in
theorem rsign_64 (w : World) : Calls Tryd.prog 38 #[.int .i64 64] w fun e w' => e = .returned (.int .u64 9223372036854775808) ∧ w' = w := by
  go_enter Tryd.func38, Tryd.ntmps38
  go_wp2
  go_ret
  exact ⟨rfl, rfl⟩
set_option maxRecDepth 100000 in
set_option maxHeartbeats 1000000 in
theorem rsize_64 (w : World) : Calls Tryd.prog 11 #[.int .i64 64] w fun e w' => e = .returned (.bool true) ∧ w' = w := by
  go_enter Tryd.func11, Tryd.ntmps11
  go_wp2
  go_ret
  exact ⟨rfl, rfl⟩
set_option maxRecDepth 100000 in
set_option maxHeartbeats 1000000 in
theorem rinf_64 (w : World) : Calls Tryd.prog 62 #[.int .i64 64] w fun e w' => e = .returned (.int .u64 9218868437227405312) ∧ w' = w := by
  have H1 := fun W => rtop_64 W
  have H2 := fun W => rfrac_64 W
  go_enter Tryd.func62, Tryd.ntmps62
  go_wp2_with fail
  refine (H1 _).mono ?_
  rintro e w ⟨rfl, rfl⟩
  go_wp2_with fail
  refine (H2 _).mono ?_
  rintro e w ⟨rfl, rfl⟩
  go_wp2
  go_ret
  exact ⟨rfl, rfl⟩
set_option maxRecDepth 100000 in
set_option maxHeartbeats 1000000 in
theorem rInf_64 (w : World) : Calls Tryd.prog 53 #[.int .i64 64] w fun e w' => e = .returned (.int .u64 9218868437227405312) ∧ w' = w := by
  have H1 := fun W => rinf_64 W
  go_enter Tryd.func53, Tryd.ntmps53
  go_wp2_with fail
  refine (H1 _).mono ?_
  rintro e w ⟨rfl, rfl⟩
  go_wp2
  go_ret
  exact ⟨rfl, rfl⟩
set_option maxRecDepth 100000 in
set_option maxHeartbeats 1000000 in
theorem rsigned_64 {x : Nat} (h : x < 9223372036854775808) (c : Bool) (w : World) : Calls Tryd.prog 22 #[.bool c, .int .u64 (x : Int), .int .i64 64] w fun e w' => e = .returned (.int .u64 ((sgd 9223372036854775808 c x : Nat) : Int)) ∧ w' = w := by
  have hA := or_sign_64 h
  have HS := fun W => rsign_64 W
  clear h
  cases c
  · go_enter Tryd.func22, Tryd.ntmps22
    go_wp2
    go_ret
    exact ⟨rfl, rfl⟩
  · go_enter Tryd.func22, Tryd.ntmps22
    go_wp2_with fail
    refine (HS _).mono ?_
    rintro e w ⟨rfl, rfl⟩
    go_wp2
    go_ret
    exact ⟨rfl, rfl⟩
set_option maxRecDepth 100000 in
set_option maxHeartbeats 1000000 in
theorem rsize_no {s : Int} (h : Sn s) (w : World) : Calls Tryd.prog 11 #[.int .i64 s] w fun e w' => e = .returned (.bool false) ∧ w' = w := by
  have p1 : (s == 32) = false := by simpa using h.1
  have p2 : (s == 64) = false := by simpa using h.2
  clear h
  go_enter Tryd.func11, Tryd.ntmps11
  go_wp2
  go_ret
  exact ⟨rfl, rfl⟩
set_option maxRecDepth 100000 in
set_option maxHeartbeats 1000000 in
theorem rpk_far2_32 (c : Bool) {m : Nat} {p : Int} (m0 : ((m : Int) == 0) = false) (q0 : ¬ p < -4000) (q : 4000 < p) (w : World) : Calls Tryd.prog 52 #[.agg #[.bool c, .int .i64 2, .int .u64 (m : Int), .int .i64 p], .int .i64 32] w fun e w' => e = .returned (.tuple #[.int .u64 0, .int .i64 4]) ∧ Below w.heap.size w w' := by
  have HS := fun W => rsize_32 W
  have HF := fun W => rfrac_32 W
  go_enter Tryd.func52, Tryd.ntmps52
  go_wp2_with fail
  refine (HS _).mono ?_
  rintro e w1 ⟨rfl, hh⟩
  subst hh
  go_wp2
  go_region_held3 (fun w' => w'.cell? ⟨w.heap.size, 2, none⟩ = some (.int .u64 (m : Int)) ∧ w'.cell? ⟨w.heap.size, 3, none⟩ = some (.int .i64 p)) (simp [*, go_sem]) (fail)
  go_wp2_with fail
  refine (HF _).mono ?_
  rintro e w1 ⟨rfl, hh⟩
  subst hh
  go_wp2
  go_ret2
  exact ⟨rfl, ((Below.refl _ _).alloc (Nat.le_refl _) _).drew⟩
set_option maxRecDepth 100000 in
set_option maxHeartbeats 1000000 in
theorem rpk_far2_64 (c : Bool) {m : Nat} {p : Int} (m0 : ((m : Int) == 0) = false) (q0 : ¬ p < -4000) (q : 4000 < p) (w : World) : Calls Tryd.prog 52 #[.agg #[.bool c, .int .i64 2, .int .u64 (m : Int), .int .i64 p], .int .i64 64] w fun e w' => e = .returned (.tuple #[.int .u64 0, .int .i64 4]) ∧ Below w.heap.size w w' := by
  have HS := fun W => rsize_64 W
  have HF := fun W => rfrac_64 W
  go_enter Tryd.func52, Tryd.ntmps52
  go_wp2_with fail
  refine (HS _).mono ?_
  rintro e w1 ⟨rfl, hh⟩
  subst hh
  go_wp2
  go_region_held3 (fun w' => w'.cell? ⟨w.heap.size, 2, none⟩ = some (.int .u64 (m : Int)) ∧ w'.cell? ⟨w.heap.size, 3, none⟩ = some (.int .i64 p)) (simp [*, go_sem]) (fail)
  go_wp2_with fail
  refine (HF _).mono ?_
  rintro e w1 ⟨rfl, hh⟩
  subst hh
  go_wp2
  go_ret2
  exact ⟨rfl, ((Below.refl _ _).alloc (Nat.le_refl _) _).drew⟩
theorem or_field_32 {F D : Nat} (hF : F < 255) (hD : D < 8388608) : bits BinOp.or IntKind.u64 ((F : Int) * 8388608) (D : Int) = ((F * 8388608 + D : Nat) : Int) := by
  have e := u64_or_nat (F * 8388608) D (by omega) (by omega)
  have k : (2 : Nat) ^ 23 = 8388608 := by decide
  have j := nat_join 23 (F * 8388608) D (by rw [k]; exact Nat.mul_mod_left F 8388608) (by rw [k]; exact hD)
  rw [j] at e
  rw [show ((F : Int) * 8388608) = ((F * 8388608 : Nat) : Int) by omega]
  exact e
theorem or_field_64 {F D : Nat} (hF : F < 2047) (hD : D < 4503599627370496) : bits BinOp.or IntKind.u64 ((F : Int) * 4503599627370496) (D : Int) = ((F * 4503599627370496 + D : Nat) : Int) := by
  have e := u64_or_nat (F * 4503599627370496) D (by omega) (by omega)
  have k : (2 : Nat) ^ 52 = 4503599627370496 := by decide
  have j := nat_join 52 (F * 4503599627370496) D (by rw [k]; exact Nat.mul_mod_left F 4503599627370496) (by rw [k]; exact hD)
  rw [j] at e
  rw [show ((F : Int) * 4503599627370496) = ((F * 4503599627370496 : Nat) : Int) by omega]
  exact e
/-- What is answered where a float, or none, has a value. -/
def rpV (g : Nat) (c : Bool) : Option Nat → Value
  | none => .tuple #[.int .u64 0, .int .i64 4]
  | some b => .tuple #[.int .u64 ((sgd g c b : Nat) : Int), .int .i64 0]
set_option maxRecDepth 100000 in
set_option maxHeartbeats 1000000 in
theorem rpk_fine_32 (c : Bool) {m : Nat} {p : Int} (hm : m < 18446744073709551616) (m0 : m ≠ 0) (h0 : ¬ p < -4000) (h1 : ¬ 4000 < p) (w : World) : Calls Tryd.prog 52 #[.agg #[.bool c, .int .i64 2, .int .u64 (m : Int), .int .i64 p], .int .i64 32] w fun e w' => e = .returned (rpV 2147483648 c (pk 23 255 (-149) m p)) ∧ Below w.heap.size w w' := by
  have n0 : ((m : Int) == 0) = false := by simp; omega
  have HS := fun W => rsize_32 W
  have HF := fun W => rfrac_32 W
  have HL := fun W => rlow_32 W
  have HT := fun W => rtop_32 W
  have M0 : Hid (m ≠ 0) := m0
  have HM0 : Hid (m < 18446744073709551616) := hm
  clear m0 hm
  go_enter Tryd.func52, Tryd.ntmps52
  go_wp2_with fail
  refine (HS _).mono ?_
  rintro e w1 ⟨rfl, hh⟩
  subst hh
  go_wp2
  go_region_held3 (fun w' => w'.cell? ⟨w.heap.size, 2, none⟩ = some (.int .u64 (m : Int)) ∧ w'.cell? ⟨w.heap.size, 3, none⟩ = some (.int .i64 p)) (simp [*, go_sem]) (fail)
  go_wp2_with fail
  refine (HF _).mono ?_
  rintro e w1 ⟨rfl, hh⟩
  subst hh
  go_wp2
  go_loop [6, 7] (fun M X => ∃ (a k : Nat), M = .int .u64 (a : Int) ∧ X = .int .i64 (p + (k : Int)) ∧ Hid (m = a * 2 ^ k)) (fun M _ => (intOf M).toNat)
  case atStart => exact ⟨m, 0, rfl, by simp, by show m = m * 2 ^ 0; simp⟩
  case round =>
    obtain ⟨a, k, rfl, rfl, HK⟩ := hrel
    have ha0 : a ≠ 0 := by
      rintro rfl
      have := HK.out
      rw [Nat.zero_mul] at this
      exact M0.out this
    have ha1 : a < 18446744073709551616 := by
      have := HK.out
      have := Nat.le_mul_of_pos_right a (Nat.two_pow_pos k)
      have := HM0.out
      omega
    have hk : k < 64 := by
      have e := HK.out
      have l := Nat.le_mul_of_pos_left (2 ^ k) (Nat.pos_of_ne_zero ha0)
      have u := HM0.out
      exact (Nat.pow_lt_pow_iff_right (show 1 < 2 by decide)).1 (show 2 ^ k < 2 ^ 64 by omega)
    obtain ⟨E, hE⟩ : ∃ E, E = p + (k : Int) := ⟨_, rfl⟩
    have hE0 : -4000 ≤ E := by omega
    have hE1 : E ≤ 4100 := by omega
    have HQ : Hid (Eqv m p a E) := by
      refine Eqv.of_dn (by omega) ?_
      rw [show (E - p).toNat = k by omega]
      exact HK.out
    rw [← hE]
    have HE : Hid (E = p + (k : Int)) := hE
    clear hE hk
    by_cases o : a % 2 = 1
    · have e1 : bits BinOp.and IntKind.u64 (a : Int) 1 = 1 := by rw [and_one64 _ ha1, o]; rfl
      have HM : Hid (Mid 23 (-149) a E) := .inl o
      clear HK HE o
      go_wp2
      go_loop [6, 7] (fun M X => ∃ (b : Nat) (G : Int), M = .int .u64 (b : Int) ∧ X = .int .i64 G ∧ Hid (Eqv m p b G) ∧ Hid (Mid 23 (-149) b G) ∧ b ≠ 0 ∧ b < 18446744073709551616 ∧ -5000 ≤ G ∧ G ≤ 5000) (fun _ X => (intOf X + 149).toNat)
      case atStart => exact ⟨a, E, rfl, rfl, HQ.out, HM.out, ha0, ha1, by omega, by omega⟩
      case round =>
        clear ha0 ha1 hE0 hE1 HQ HM
        obtain ⟨b, G, rfl, rfl, HQ2, HM2, hb0, hb1, hG0, hG1⟩ := hrel
        have HPK : (b < 8388608 → (-149) < G → False) → Hid (pk 23 255 (-149) m p = out 23 255 (-149) b G) := fun x => by
          show _ = _
          rw [pk_same M0.out HQ2.out, pk_fin hb0 ⟨fun y => x y.1 y.2, HM2.out⟩]
        by_cases c1 : b < 8388608
        · have d1 : ((b : Int) / 8388608 == 0) = true := by simp; omega
          have d2 : ((b : Int) / 16777216 != 0) = false := by simp; omega
          have d3 : ((b : Int) / 8388608 != 0) = false := by simp; omega
          by_cases c2 : (-149) < G
          · clear HPK
            go_wp2_with fail
            refine (HL _).mono ?_
            rintro e w1 ⟨rfl, hh⟩
            subst hh
            go_wp2
            go_round
            case rel => exact ⟨b * 2, G - 1, by go_num, rfl, HQ2.out.trans (Eqv.twice b G), Mid.step ⟨c1, c2⟩, by omega, by omega, by omega, by omega⟩
            case measure => simp [intOf]; omega
          · have HPK2 := HPK fun x y => c2 y
            clear HPK
            by_cases c3 : G < (-149)
            · have HV : Hid (pk 23 255 (-149) m p = none) := by show _ = _; rw [HPK2.out, out_bad (.inr c3)]
              clear HPK2 HQ2 HM2
              go_wp2_with fail
              refine (HL _).mono ?_
              rintro e w1 ⟨rfl, hh⟩
              subst hh
              go_wp2_with fail
              refine (HL _).mono ?_
              rintro e w1 ⟨rfl, hh⟩
              subst hh
              go_wp2_with fail
              refine (HL _).mono ?_
              rintro e w1 ⟨rfl, hh⟩
              subst hh
              go_wp2
              go_ret2
              exact ⟨by rw [HV.out]; rfl, ((Below.refl _ _).alloc (Nat.le_refl _) _).drew⟩
            · have hG : G = (-149) := by omega
              have HV : Hid (pk 23 255 (-149) m p = some b) := by
                show _ = _
                rw [HPK2.out]
                unfold out
                rw [if_neg (by rintro (x | x | ⟨x, y⟩) <;> omega), if_pos c1]
              have HG := fun W => rsigned_32 (x := b) (by omega) c W
              subst hG
              clear HPK2 HQ2 HM2 c3
              go_wp2_with fail
              refine (HL _).mono ?_
              rintro e w1 ⟨rfl, hh⟩
              subst hh
              go_wp2_with fail
              refine (HL _).mono ?_
              rintro e w1 ⟨rfl, hh⟩
              subst hh
              go_wp2_with fail
              refine (HL _).mono ?_
              rintro e w1 ⟨rfl, hh⟩
              subst hh
              go_wp2_with fail
              refine (HG _).mono ?_
              rintro e w1 ⟨rfl, hh⟩
              subst hh
              go_wp2
              go_ret2
              exact ⟨by rw [HV.out]; rfl, ((Below.refl _ _).alloc (Nat.le_refl _) _).drew⟩
        · have d1 : ((b : Int) / 8388608 == 0) = false := by simp; omega
          have d3 : ((b : Int) / 8388608 != 0) = true := by simp; omega
          have HPK2 := HPK fun x y => c1 x
          clear HPK
          by_cases c2 : 16777216 ≤ b
          · have d2 : ((b : Int) / 16777216 != 0) = true := by simp; omega
            have HV : Hid (pk 23 255 (-149) m p = none) := by show _ = _; rw [HPK2.out, out_bad (.inl c2)]
            clear HPK2 HQ2 HM2
            go_wp2_with fail
            refine (HL _).mono ?_
            rintro e w1 ⟨rfl, hh⟩
            subst hh
            go_wp2
            go_ret2
            exact ⟨by rw [HV.out]; rfl, ((Below.refl _ _).alloc (Nat.le_refl _) _).drew⟩
          · have d2 : ((b : Int) / 16777216 != 0) = false := by simp; omega
            by_cases c3 : G < (-149)
            · have HV : Hid (pk 23 255 (-149) m p = none) := by show _ = _; rw [HPK2.out, out_bad (.inr c3)]
              clear HPK2 HQ2 HM2
              go_wp2_with fail
              refine (HL _).mono ?_
              rintro e w1 ⟨rfl, hh⟩
              subst hh
              go_wp2_with fail
              refine (HL _).mono ?_
              rintro e w1 ⟨rfl, hh⟩
              subst hh
              go_wp2
              go_ret2
              exact ⟨by rw [HV.out]; rfl, ((Below.refl _ _).alloc (Nat.le_refl _) _).drew⟩
            · by_cases c4 : 255 ≤ G + 149 + 1
              · have HV : Hid (pk 23 255 (-149) m p = none) := by
                  show _ = _
                  rw [HPK2.out]
                  unfold out
                  rw [if_pos (.inr (.inr ⟨by show 8388608 ≤ b; omega, by omega⟩))]
                clear HPK2 HQ2 HM2
                go_wp2_with fail
                refine (HL _).mono ?_
                rintro e w1 ⟨rfl, hh⟩
                subst hh
                go_wp2_with fail
                refine (HL _).mono ?_
                rintro e w1 ⟨rfl, hh⟩
                subst hh
                go_wp2_with fail
                refine (HT _).mono ?_
                rintro e w1 ⟨rfl, hh⟩
                subst hh
                go_wp2
                go_ret2
                exact ⟨by rw [HV.out]; rfl, ((Below.refl _ _).alloc (Nat.le_refl _) _).drew⟩
              · obtain ⟨F, hF⟩ : ∃ F : Nat, G + 149 + 1 = (F : Int) := ⟨(G + 149 + 1).toNat, by omega⟩
                have HV : Hid (pk 23 255 (-149) m p = some (F * 8388608 + (b - 8388608))) := by
                  show _ = _
                  rw [HPK2.out]
                  unfold out
                  rw [if_neg (by rintro (x | x | ⟨x, y⟩) <;> omega), if_neg c1, show (G - (-149) + 1).toNat = F by omega]
                have hM := and_mask_32 (m := b) (by omega)
                have hR : b % 8388608 = b - 8388608 := by omega
                rw [hR] at hM
                have hO := or_field_32 (F := F) (D := b - 8388608) (by omega) (by omega)
                have c5 : ¬ 255 ≤ F := by omega
                have HG := fun W => rsigned_32 (x := F * 8388608 + (b - 8388608)) (by omega) c W
                generalize b - 8388608 = D at *
                generalize F * 8388608 + D = Z at *
                clear HPK2 HQ2 HM2 hR
                go_wp2_with fail
                refine (HL _).mono ?_
                rintro e w1 ⟨rfl, hh⟩
                subst hh
                go_wp2_with fail
                refine (HL _).mono ?_
                rintro e w1 ⟨rfl, hh⟩
                subst hh
                go_wp2_with fail
                refine (HT _).mono ?_
                rintro e w1 ⟨rfl, hh⟩
                subst hh
                go_wp2_with fail
                refine (HG _).mono ?_
                rintro e w1 ⟨rfl, hh⟩
                subst hh
                go_wp2
                go_ret2
                exact ⟨by rw [HV.out]; rfl, ((Below.refl _ _).alloc (Nat.le_refl _) _).drew⟩
    · have e1 : bits BinOp.and IntKind.u64 (a : Int) 1 = 0 := by rw [and_one64 _ ha1, show a % 2 = 0 by omega]; rfl
      by_cases g : 16777216 ≤ a
      · have e2 : ((a : Int) / 16777216 != 0) = true := by simp; omega
        go_wp2
        go_round
        case rel => exact ⟨a / 2, k + 1, by go_num, by rw [HE.out]; go_num, by show m = a / 2 * 2 ^ (k + 1); rw [HK.out, Nat.pow_succ, Nat.mul_comm (2 ^ k) 2, ← Nat.mul_assoc, show a / 2 * 2 = a by omega]⟩
        case measure => simp [intOf]; omega
      · have e2 : ((a : Int) / 16777216 != 0) = false := by simp; omega
        by_cases g2 : E < (-149)
        · go_wp2_with fail
          refine (HL _).mono ?_
          rintro e w1 ⟨rfl, hh⟩
          subst hh
          go_wp2
          go_round
          case rel => exact ⟨a / 2, k + 1, by go_num, by rw [HE.out]; go_num, by show m = a / 2 * 2 ^ (k + 1); rw [HK.out, Nat.pow_succ, Nat.mul_comm (2 ^ k) 2, ← Nat.mul_assoc, show a / 2 * 2 = a by omega]⟩
          case measure => simp [intOf]; omega
        · have HM : Hid (Mid 23 (-149) a E) := .inr ⟨by show a < 16777216; omega, by omega⟩
          clear HK HE o
          go_wp2_with fail
          refine (HL _).mono ?_
          rintro e w1 ⟨rfl, hh⟩
          subst hh
          go_wp2
          go_loop [6, 7] (fun M X => ∃ (b : Nat) (G : Int), M = .int .u64 (b : Int) ∧ X = .int .i64 G ∧ Hid (Eqv m p b G) ∧ Hid (Mid 23 (-149) b G) ∧ b ≠ 0 ∧ b < 18446744073709551616 ∧ -5000 ≤ G ∧ G ≤ 5000) (fun _ X => (intOf X + 149).toNat)
          case atStart => exact ⟨a, E, rfl, rfl, HQ.out, HM.out, ha0, ha1, by omega, by omega⟩
          case round =>
            clear ha0 ha1 hE0 hE1 HQ HM
            obtain ⟨b, G, rfl, rfl, HQ2, HM2, hb0, hb1, hG0, hG1⟩ := hrel
            have HPK : (b < 8388608 → (-149) < G → False) → Hid (pk 23 255 (-149) m p = out 23 255 (-149) b G) := fun x => by
              show _ = _
              rw [pk_same M0.out HQ2.out, pk_fin hb0 ⟨fun y => x y.1 y.2, HM2.out⟩]
            by_cases c1 : b < 8388608
            · have d1 : ((b : Int) / 8388608 == 0) = true := by simp; omega
              have d2 : ((b : Int) / 16777216 != 0) = false := by simp; omega
              have d3 : ((b : Int) / 8388608 != 0) = false := by simp; omega
              by_cases c2 : (-149) < G
              · clear HPK
                go_wp2_with fail
                refine (HL _).mono ?_
                rintro e w1 ⟨rfl, hh⟩
                subst hh
                go_wp2
                go_round
                case rel => exact ⟨b * 2, G - 1, by go_num, rfl, HQ2.out.trans (Eqv.twice b G), Mid.step ⟨c1, c2⟩, by omega, by omega, by omega, by omega⟩
                case measure => simp [intOf]; omega
              · have HPK2 := HPK fun x y => c2 y
                clear HPK
                by_cases c3 : G < (-149)
                · have HV : Hid (pk 23 255 (-149) m p = none) := by show _ = _; rw [HPK2.out, out_bad (.inr c3)]
                  clear HPK2 HQ2 HM2
                  go_wp2_with fail
                  refine (HL _).mono ?_
                  rintro e w1 ⟨rfl, hh⟩
                  subst hh
                  go_wp2_with fail
                  refine (HL _).mono ?_
                  rintro e w1 ⟨rfl, hh⟩
                  subst hh
                  go_wp2_with fail
                  refine (HL _).mono ?_
                  rintro e w1 ⟨rfl, hh⟩
                  subst hh
                  go_wp2
                  go_ret2
                  exact ⟨by rw [HV.out]; rfl, ((Below.refl _ _).alloc (Nat.le_refl _) _).drew⟩
                · have hG : G = (-149) := by omega
                  have HV : Hid (pk 23 255 (-149) m p = some b) := by
                    show _ = _
                    rw [HPK2.out]
                    unfold out
                    rw [if_neg (by rintro (x | x | ⟨x, y⟩) <;> omega), if_pos c1]
                  have HG := fun W => rsigned_32 (x := b) (by omega) c W
                  subst hG
                  clear HPK2 HQ2 HM2 c3
                  go_wp2_with fail
                  refine (HL _).mono ?_
                  rintro e w1 ⟨rfl, hh⟩
                  subst hh
                  go_wp2_with fail
                  refine (HL _).mono ?_
                  rintro e w1 ⟨rfl, hh⟩
                  subst hh
                  go_wp2_with fail
                  refine (HL _).mono ?_
                  rintro e w1 ⟨rfl, hh⟩
                  subst hh
                  go_wp2_with fail
                  refine (HG _).mono ?_
                  rintro e w1 ⟨rfl, hh⟩
                  subst hh
                  go_wp2
                  go_ret2
                  exact ⟨by rw [HV.out]; rfl, ((Below.refl _ _).alloc (Nat.le_refl _) _).drew⟩
            · have d1 : ((b : Int) / 8388608 == 0) = false := by simp; omega
              have d3 : ((b : Int) / 8388608 != 0) = true := by simp; omega
              have HPK2 := HPK fun x y => c1 x
              clear HPK
              by_cases c2 : 16777216 ≤ b
              · have d2 : ((b : Int) / 16777216 != 0) = true := by simp; omega
                have HV : Hid (pk 23 255 (-149) m p = none) := by show _ = _; rw [HPK2.out, out_bad (.inl c2)]
                clear HPK2 HQ2 HM2
                go_wp2_with fail
                refine (HL _).mono ?_
                rintro e w1 ⟨rfl, hh⟩
                subst hh
                go_wp2
                go_ret2
                exact ⟨by rw [HV.out]; rfl, ((Below.refl _ _).alloc (Nat.le_refl _) _).drew⟩
              · have d2 : ((b : Int) / 16777216 != 0) = false := by simp; omega
                by_cases c3 : G < (-149)
                · have HV : Hid (pk 23 255 (-149) m p = none) := by show _ = _; rw [HPK2.out, out_bad (.inr c3)]
                  clear HPK2 HQ2 HM2
                  go_wp2_with fail
                  refine (HL _).mono ?_
                  rintro e w1 ⟨rfl, hh⟩
                  subst hh
                  go_wp2_with fail
                  refine (HL _).mono ?_
                  rintro e w1 ⟨rfl, hh⟩
                  subst hh
                  go_wp2
                  go_ret2
                  exact ⟨by rw [HV.out]; rfl, ((Below.refl _ _).alloc (Nat.le_refl _) _).drew⟩
                · by_cases c4 : 255 ≤ G + 149 + 1
                  · have HV : Hid (pk 23 255 (-149) m p = none) := by
                      show _ = _
                      rw [HPK2.out]
                      unfold out
                      rw [if_pos (.inr (.inr ⟨by show 8388608 ≤ b; omega, by omega⟩))]
                    clear HPK2 HQ2 HM2
                    go_wp2_with fail
                    refine (HL _).mono ?_
                    rintro e w1 ⟨rfl, hh⟩
                    subst hh
                    go_wp2_with fail
                    refine (HL _).mono ?_
                    rintro e w1 ⟨rfl, hh⟩
                    subst hh
                    go_wp2_with fail
                    refine (HT _).mono ?_
                    rintro e w1 ⟨rfl, hh⟩
                    subst hh
                    go_wp2
                    go_ret2
                    exact ⟨by rw [HV.out]; rfl, ((Below.refl _ _).alloc (Nat.le_refl _) _).drew⟩
                  · obtain ⟨F, hF⟩ : ∃ F : Nat, G + 149 + 1 = (F : Int) := ⟨(G + 149 + 1).toNat, by omega⟩
                    have HV : Hid (pk 23 255 (-149) m p = some (F * 8388608 + (b - 8388608))) := by
                      show _ = _
                      rw [HPK2.out]
                      unfold out
                      rw [if_neg (by rintro (x | x | ⟨x, y⟩) <;> omega), if_neg c1, show (G - (-149) + 1).toNat = F by omega]
                    have hM := and_mask_32 (m := b) (by omega)
                    have hR : b % 8388608 = b - 8388608 := by omega
                    rw [hR] at hM
                    have hO := or_field_32 (F := F) (D := b - 8388608) (by omega) (by omega)
                    have c5 : ¬ 255 ≤ F := by omega
                    have HG := fun W => rsigned_32 (x := F * 8388608 + (b - 8388608)) (by omega) c W
                    generalize b - 8388608 = D at *
                    generalize F * 8388608 + D = Z at *
                    clear HPK2 HQ2 HM2 hR
                    go_wp2_with fail
                    refine (HL _).mono ?_
                    rintro e w1 ⟨rfl, hh⟩
                    subst hh
                    go_wp2_with fail
                    refine (HL _).mono ?_
                    rintro e w1 ⟨rfl, hh⟩
                    subst hh
                    go_wp2_with fail
                    refine (HT _).mono ?_
                    rintro e w1 ⟨rfl, hh⟩
                    subst hh
                    go_wp2_with fail
                    refine (HG _).mono ?_
                    rintro e w1 ⟨rfl, hh⟩
                    subst hh
                    go_wp2
                    go_ret2
                    exact ⟨by rw [HV.out]; rfl, ((Below.refl _ _).alloc (Nat.le_refl _) _).drew⟩
end Go.Proofs.YtkmnkogbafhfdaaDoor
