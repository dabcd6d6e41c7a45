/-
  Older texts, as far as layer 17 asks them: the document's numbers of many digits; floats taken apart and put together.
-/
import Derived.Test.YtkmnkogbafhfdaaDoorHx6
import Derived.Test.YtkmnkogbafhfdaaDoorHx5
namespace Go.Proofs.YtkmnkogbafhfdaaDoor
open Go.RowKit

set_option maxRecDepth 100000 in
set_option maxHeartbeats 1000000 in
theorem rpk_fine_64 (c : Bool) {m : Nat} {p : Int} (hm : m < 18446744073709551616) (m0 : m ≠ 0) (h0 : ¬ p < -4000) (h1 : ¬ 4000 < p) (w : World) : Calls Tryd.prog 52 #[.agg #[.bool c, .int .i64 2, .int .u64 (m : Int), .int .i64 p], .int .i64 64] w fun e w' => e = .returned (rpV 9223372036854775808 c (pk 52 2047 (-1074) m p)) ∧ Below w.heap.size w w' := by
  have n0 : ((m : Int) == 0) = false := by simp; omega
  have HS := fun W => rsize_64 W
  have HF := fun W => rfrac_64 W
  have HL := fun W => rlow_64 W
  have HT := fun W => rtop_64 W
  have M0 : Hid (m ≠ 0) := m0
  have HM0 : Hid (m < 18446744073709551616) := hm
  clear m0 hm
  go_enter Tryd.func52, Tryd.ntmps52
  go_wp2_with fail
  refine (HS _).mono ?_
  rintro e w1 ⟨rfl, hh⟩
  subst hh
  go_wp2
  go_region_held3 (fun w' => w'.cell? ⟨w.heap.size, 2, none⟩ = some (.int .u64 (m : Int)) ∧ w'.cell? ⟨w.heap.size, 3, none⟩ = some (.int .i64 p)) (simp [*, go_sem]) (fail)
  go_wp2_with fail
  refine (HF _).mono ?_
  rintro e w1 ⟨rfl, hh⟩
  subst hh
  go_wp2
  go_loop [6, 7] (fun M X => ∃ (a k : Nat), M = .int .u64 (a : Int) ∧ X = .int .i64 (p + (k : Int)) ∧ Hid (m = a * 2 ^ k)) (fun M _ => (intOf M).toNat)
  case atStart => exact ⟨m, 0, rfl, by simp, by show m = m * 2 ^ 0; simp⟩
  case round =>
    obtain ⟨a, k, rfl, rfl, HK⟩ := hrel
    have ha0 : a ≠ 0 := by
      rintro rfl
      have := HK.out
      rw [Nat.zero_mul] at this
      exact M0.out this
    have ha1 : a < 18446744073709551616 := by
      have := HK.out
      have := Nat.le_mul_of_pos_right a (Nat.two_pow_pos k)
      have := HM0.out
      omega
    have hk : k < 64 := by
      have e := HK.out
      have l := Nat.le_mul_of_pos_left (2 ^ k) (Nat.pos_of_ne_zero ha0)
      have u := HM0.out
      exact (Nat.pow_lt_pow_iff_right (show 1 < 2 by decide)).1 (show 2 ^ k < 2 ^ 64 by omega)
    obtain ⟨E, hE⟩ : ∃ E, E = p + (k : Int) := ⟨_, rfl⟩
    have hE0 : -4000 ≤ E := by omega
    have hE1 : E ≤ 4100 := by omega
    have HQ : Hid (Eqv m p a E) := by
      refine Eqv.of_dn (by omega) ?_
      rw [show (E - p).toNat = k by omega]
      exact HK.out
    rw [← hE]
    have HE : Hid (E = p + (k : Int)) := hE
    clear hE hk
    by_cases o : a % 2 = 1
    · have e1 : bits BinOp.and IntKind.u64 (a : Int) 1 = 1 := by rw [and_one64 _ ha1, o]; rfl
      have HM : Hid (Mid 52 (-1074) a E) := .inl o
      clear HK HE o
      go_wp2
      go_loop [6, 7] (fun M X => ∃ (b : Nat) (G : Int), M = .int .u64 (b : Int) ∧ X = .int .i64 G ∧ Hid (Eqv m p b G) ∧ Hid (Mid 52 (-1074) b G) ∧ b ≠ 0 ∧ b < 18446744073709551616 ∧ -5000 ≤ G ∧ G ≤ 5000) (fun _ X => (intOf X + 1074).toNat)
      case atStart => exact ⟨a, E, rfl, rfl, HQ.out, HM.out, ha0, ha1, by omega, by omega⟩
      case round =>
        clear ha0 ha1 hE0 hE1 HQ HM
        obtain ⟨b, G, rfl, rfl, HQ2, HM2, hb0, hb1, hG0, hG1⟩ := hrel
        have HPK : (b < 4503599627370496 → (-1074) < G → False) → Hid (pk 52 2047 (-1074) m p = out 52 2047 (-1074) b G) := fun x => by
          show _ = _
          rw [pk_same M0.out HQ2.out, pk_fin hb0 ⟨fun y => x y.1 y.2, HM2.out⟩]
        by_cases c1 : b < 4503599627370496
        · have d1 : ((b : Int) / 4503599627370496 == 0) = true := by simp; omega
          have d2 : ((b : Int) / 9007199254740992 != 0) = false := by simp; omega
          have d3 : ((b : Int) / 4503599627370496 != 0) = false := by simp; omega
          by_cases c2 : (-1074) < G
          · clear HPK
            go_wp2_with fail
            refine (HL _).mono ?_
            rintro e w1 ⟨rfl, hh⟩
            subst hh
            go_wp2
            go_round
            case rel => exact ⟨b * 2, G - 1, by go_num, rfl, HQ2.out.trans (Eqv.twice b G), Mid.step ⟨c1, c2⟩, by omega, by omega, by omega, by omega⟩
            case measure => simp [intOf]; omega
          · have HPK2 := HPK fun x y => c2 y
            clear HPK
            by_cases c3 : G < (-1074)
            · have HV : Hid (pk 52 2047 (-1074) m p = none) := by show _ = _; rw [HPK2.out, out_bad (.inr c3)]
              clear HPK2 HQ2 HM2
              go_wp2_with fail
              refine (HL _).mono ?_
              rintro e w1 ⟨rfl, hh⟩
              subst hh
              go_wp2_with fail
              refine (HL _).mono ?_
              rintro e w1 ⟨rfl, hh⟩
              subst hh
              go_wp2_with fail
              refine (HL _).mono ?_
              rintro e w1 ⟨rfl, hh⟩
              subst hh
              go_wp2
              go_ret2
              exact ⟨by rw [HV.out]; rfl, ((Below.refl _ _).alloc (Nat.le_refl _) _).drew⟩
            · have hG : G = (-1074) := by omega
              have HV : Hid (pk 52 2047 (-1074) m p = some b) := by
                show _ = _
                rw [HPK2.out]
                unfold out
                rw [if_neg (by rintro (x | x | ⟨x, y⟩) <;> omega), if_pos c1]
              have HG := fun W => rsigned_64 (x := b) (by omega) c W
              subst hG
              clear HPK2 HQ2 HM2 c3
              go_wp2_with fail
              refine (HL _).mono ?_
              rintro e w1 ⟨rfl, hh⟩
              subst hh
              go_wp2_with fail
              refine (HL _).mono ?_
              rintro e w1 ⟨rfl, hh⟩
              subst hh
              go_wp2_with fail
              refine (HL _).mono ?_
              rintro e w1 ⟨rfl, hh⟩
              subst hh
              go_wp2_with fail
              refine (HG _).mono ?_
              rintro e w1 ⟨rfl, hh⟩
              subst hh
              go_wp2
              go_ret2
              exact ⟨by rw [HV.out]; rfl, ((Below.refl _ _).alloc (Nat.le_refl _) _).drew⟩
        · have d1 : ((b : Int) / 4503599627370496 == 0) = false := by simp; omega
          have d3 : ((b : Int) / 4503599627370496 != 0) = true := by simp; omega
          have HPK2 := HPK fun x y => c1 x
          clear HPK
          by_cases c2 : 9007199254740992 ≤ b
          · have d2 : ((b : Int) / 9007199254740992 != 0) = true := by simp; omega
            have HV : Hid (pk 52 2047 (-1074) m p = none) := by show _ = _; rw [HPK2.out, out_bad (.inl c2)]
            clear HPK2 HQ2 HM2
            go_wp2_with fail
            refine (HL _).mono ?_
            rintro e w1 ⟨rfl, hh⟩
            subst hh
            go_wp2
            go_ret2
            exact ⟨by rw [HV.out]; rfl, ((Below.refl _ _).alloc (Nat.le_refl _) _).drew⟩
          · have d2 : ((b : Int) / 9007199254740992 != 0) = false := by simp; omega
            by_cases c3 : G < (-1074)
            · have HV : Hid (pk 52 2047 (-1074) m p = none) := by show _ = _; rw [HPK2.out, out_bad (.inr c3)]
              clear HPK2 HQ2 HM2
              go_wp2_with fail
              refine (HL _).mono ?_
              rintro e w1 ⟨rfl, hh⟩
              subst hh
              go_wp2_with fail
              refine (HL _).mono ?_
              rintro e w1 ⟨rfl, hh⟩
              subst hh
              go_wp2
              go_ret2
              exact ⟨by rw [HV.out]; rfl, ((Below.refl _ _).alloc (Nat.le_refl _) _).drew⟩
            · by_cases c4 : 2047 ≤ G + 1074 + 1
              · have HV : Hid (pk 52 2047 (-1074) m p = none) := by
                  show _ = _
                  rw [HPK2.out]
                  unfold out
                  rw [if_pos (.inr (.inr ⟨by show 4503599627370496 ≤ b; omega, by omega⟩))]
                clear HPK2 HQ2 HM2
                go_wp2_with fail
                refine (HL _).mono ?_
                rintro e w1 ⟨rfl, hh⟩
                subst hh
                go_wp2_with fail
                refine (HL _).mono ?_
                rintro e w1 ⟨rfl, hh⟩
                subst hh
                go_wp2_with fail
                refine (HT _).mono ?_
                rintro e w1 ⟨rfl, hh⟩
                subst hh
                go_wp2
                go_ret2
                exact ⟨by rw [HV.out]; rfl, ((Below.refl _ _).alloc (Nat.le_refl _) _).drew⟩
              · obtain ⟨F, hF⟩ : ∃ F : Nat, G + 1074 + 1 = (F : Int) := ⟨(G + 1074 + 1).toNat, by omega⟩
                have HV : Hid (pk 52 2047 (-1074) m p = some (F * 4503599627370496 + (b - 4503599627370496))) := by
                  show _ = _
                  rw [HPK2.out]
                  unfold out
                  rw [if_neg (by rintro (x | x | ⟨x, y⟩) <;> omega), if_neg c1, show (G - (-1074) + 1).toNat = F by omega]
                have hM := and_mask_64 (m := b) (by omega)
                have hR : b % 4503599627370496 = b - 4503599627370496 := by omega
                rw [hR] at hM
                have hO := or_field_64 (F := F) (D := b - 4503599627370496) (by omega) (by omega)
                have c5 : ¬ 2047 ≤ F := by omega
                have HG := fun W => rsigned_64 (x := F * 4503599627370496 + (b - 4503599627370496)) (by omega) c W
                generalize b - 4503599627370496 = D at *
                generalize F * 4503599627370496 + D = Z at *
                clear HPK2 HQ2 HM2 hR
                go_wp2_with fail
                refine (HL _).mono ?_
                rintro e w1 ⟨rfl, hh⟩
                subst hh
                go_wp2_with fail
                refine (HL _).mono ?_
                rintro e w1 ⟨rfl, hh⟩
                subst hh
                go_wp2_with fail
                refine (HT _).mono ?_
                rintro e w1 ⟨rfl, hh⟩
                subst hh
                go_wp2_with fail
                refine (HG _).mono ?_
                rintro e w1 ⟨rfl, hh⟩
                subst hh
                go_wp2
                go_ret2
                exact ⟨by rw [HV.out]; rfl, ((Below.refl _ _).alloc (Nat.le_refl _) _).drew⟩
    · have e1 : bits BinOp.and IntKind.u64 (a : Int) 1 = 0 := by rw [and_one64 _ ha1, show a % 2 = 0 by omega]; rfl
      by_cases g : 9007199254740992 ≤ a
      · have e2 : ((a : Int) / 9007199254740992 != 0) = true := by simp; omega
        go_wp2
        go_round
        case rel => exact ⟨a / 2, k + 1, by go_num, by rw [HE.out]; go_num, by show m = a / 2 * 2 ^ (k + 1); rw [HK.out, Nat.pow_succ, Nat.mul_comm (2 ^ k) 2, ← Nat.mul_assoc, show a / 2 * 2 = a by omega]⟩
        case measure => simp [intOf]; omega
      · have e2 : ((a : Int) / 9007199254740992 != 0) = false := by simp; omega
        by_cases g2 : E < (-1074)
        · go_wp2_with fail
          refine (HL _).mono ?_
          rintro e w1 ⟨rfl, hh⟩
          subst hh
          go_wp2
          go_round
          case rel => exact ⟨a / 2, k + 1, by go_num, by rw [HE.out]; go_num, by show m = a / 2 * 2 ^ (k + 1); rw [HK.out, Nat.pow_succ, Nat.mul_comm (2 ^ k) 2, ← Nat.mul_assoc, show a / 2 * 2 = a by omega]⟩
          case measure => simp [intOf]; omega
        · have HM : Hid (Mid 52 (-1074) a E) := .inr ⟨by show a < 9007199254740992; omega, by omega⟩
          clear HK HE o
          go_wp2_with fail
          refine (HL _).mono ?_
          rintro e w1 ⟨rfl, hh⟩
          subst hh
          go_wp2
          go_loop [6, 7] (fun M X => ∃ (b : Nat) (G : Int), M = .int .u64 (b : Int) ∧ X = .int .i64 G ∧ Hid (Eqv m p b G) ∧ Hid (Mid 52 (-1074) b G) ∧ b ≠ 0 ∧ b < 18446744073709551616 ∧ -5000 ≤ G ∧ G ≤ 5000) (fun _ X => (intOf X + 1074).toNat)
          case atStart => exact ⟨a, E, rfl, rfl, HQ.out, HM.out, ha0, ha1, by omega, by omega⟩
          case round =>
            clear ha0 ha1 hE0 hE1 HQ HM
            obtain ⟨b, G, rfl, rfl, HQ2, HM2, hb0, hb1, hG0, hG1⟩ := hrel
            have HPK : (b < 4503599627370496 → (-1074) < G → False) → Hid (pk 52 2047 (-1074) m p = out 52 2047 (-1074) b G) := fun x => by
              show _ = _
              rw [pk_same M0.out HQ2.out, pk_fin hb0 ⟨fun y => x y.1 y.2, HM2.out⟩]
            by_cases c1 : b < 4503599627370496
            · have d1 : ((b : Int) / 4503599627370496 == 0) = true := by simp; omega
              have d2 : ((b : Int) / 9007199254740992 != 0) = false := by simp; omega
              have d3 : ((b : Int) / 4503599627370496 != 0) = false := by simp; omega
              by_cases c2 : (-1074) < G
              · clear HPK
                go_wp2_with fail
                refine (HL _).mono ?_
                rintro e w1 ⟨rfl, hh⟩
                subst hh
                go_wp2
                go_round
                case rel => exact ⟨b * 2, G - 1, by go_num, rfl, HQ2.out.trans (Eqv.twice b G), Mid.step ⟨c1, c2⟩, by omega, by omega, by omega, by omega⟩
                case measure => simp [intOf]; omega
              · have HPK2 := HPK fun x y => c2 y
                clear HPK
                by_cases c3 : G < (-1074)
                · have HV : Hid (pk 52 2047 (-1074) m p = none) := by show _ = _; rw [HPK2.out, out_bad (.inr c3)]
                  clear HPK2 HQ2 HM2
                  go_wp2_with fail
                  refine (HL _).mono ?_
                  rintro e w1 ⟨rfl, hh⟩
                  subst hh
                  go_wp2_with fail
                  refine (HL _).mono ?_
                  rintro e w1 ⟨rfl, hh⟩
                  subst hh
                  go_wp2_with fail
                  refine (HL _).mono ?_
                  rintro e w1 ⟨rfl, hh⟩
                  subst hh
                  go_wp2
                  go_ret2
                  exact ⟨by rw [HV.out]; rfl, ((Below.refl _ _).alloc (Nat.le_refl _) _).drew⟩
                · have hG : G = (-1074) := by omega
                  have HV : Hid (pk 52 2047 (-1074) m p = some b) := by
                    show _ = _
                    rw [HPK2.out]
                    unfold out
                    rw [if_neg (by rintro (x | x | ⟨x, y⟩) <;> omega), if_pos c1]
                  have HG := fun W => rsigned_64 (x := b) (by omega) c W
                  subst hG
                  clear HPK2 HQ2 HM2 c3
                  go_wp2_with fail
                  refine (HL _).mono ?_
                  rintro e w1 ⟨rfl, hh⟩
                  subst hh
                  go_wp2_with fail
                  refine (HL _).mono ?_
                  rintro e w1 ⟨rfl, hh⟩
                  subst hh
                  go_wp2_with fail
                  refine (HL _).mono ?_
                  rintro e w1 ⟨rfl, hh⟩
                  subst hh
                  go_wp2_with fail
                  refine (HG _).mono ?_
                  rintro e w1 ⟨rfl, hh⟩
                  subst hh
                  go_wp2
                  go_ret2
                  exact ⟨by rw [HV.out]; rfl, ((Below.refl _ _).alloc (Nat.le_refl _) _).drew⟩
            · have d1 : ((b : Int) / 4503599627370496 == 0) = false := by simp; omega
              have d3 : ((b : Int) / 4503599627370496 != 0) = true := by simp; omega
              have HPK2 := HPK fun x y => c1 x
              clear HPK
              by_cases c2 : 9007199254740992 ≤ b
              · have d2 : ((b : Int) / 9007199254740992 != 0) = true := by simp; omega
                have HV : Hid (pk 52 2047 (-1074) m p = none) := by show _ = _; rw [HPK2.out, out_bad (.inl c2)]
                clear HPK2 HQ2 HM2
                go_wp2_with fail
                refine (HL _).mono ?_
                rintro e w1 ⟨rfl, hh⟩
                subst hh
                go_wp2
                go_ret2
                exact ⟨by rw [HV.out]; rfl, ((Below.refl _ _).alloc (Nat.le_refl _) _).drew⟩
              · have d2 : ((b : Int) / 9007199254740992 != 0) = false := by simp; omega
                by_cases c3 : G < (-1074)
                · have HV : Hid (pk 52 2047 (-1074) m p = none) := by show _ = _; rw [HPK2.out, out_bad (.inr c3)]
                  clear HPK2 HQ2 HM2
                  go_wp2_with fail
                  refine (HL _).mono ?_
                  rintro e w1 ⟨rfl, hh⟩
                  subst hh
                  go_wp2_with fail
                  refine (HL _).mono ?_
                  rintro e w1 ⟨rfl, hh⟩
                  subst hh
                  go_wp2
                  go_ret2
                  exact ⟨by rw [HV.out]; rfl, ((Below.refl _ _).alloc (Nat.le_refl _) _).drew⟩
                · by_cases c4 : 2047 ≤ G + 1074 + 1
                  · have HV : Hid (pk 52 2047 (-1074) m p = none) := by
                      show _ = _
                      rw [HPK2.out]
                      unfold out
                      rw [if_pos (.inr (.inr ⟨by show 4503599627370496 ≤ b; omega, by omega⟩))]
                    clear HPK2 HQ2 HM2
                    go_wp2_with fail
                    refine (HL _).mono ?_
                    rintro e w1 ⟨rfl, hh⟩
                    subst hh
                    go_wp2_with fail
                    refine (HL _).mono ?_
                    rintro e w1 ⟨rfl, hh⟩
                    subst hh
                    go_wp2_with fail
                    refine (HT _).mono ?_
                    rintro e w1 ⟨rfl, hh⟩
                    subst hh
                    go_wp2
                    go_ret2
                    exact ⟨by rw [HV.out]; rfl, ((Below.refl _ _).alloc (Nat.le_refl _) _).drew⟩
                  · obtain ⟨F, hF⟩ : ∃ F : Nat, G + 1074 + 1 = (F : Int) := ⟨(G + 1074 + 1).toNat, by omega⟩
                    have HV : Hid (pk 52 2047 (-1074) m p = some (F * 4503599627370496 + (b - 4503599627370496))) := by
                      show _ = _
                      rw [HPK2.out]
                      unfold out
                      rw [if_neg (by rintro (x | x | ⟨x, y⟩) <;> omega), if_neg c1, show (G - (-1074) + 1).toNat = F by omega]
                    have hM := and_mask_64 (m := b) (by omega)
                    have hR : b % 4503599627370496 = b - 4503599627370496 := by omega
                    rw [hR] at hM
                    have hO := or_field_64 (F := F) (D := b - 4503599627370496) (by omega) (by omega)
                    have c5 : ¬ 2047 ≤ F := by omega
                    have HG := fun W => rsigned_64 (x := F * 4503599627370496 + (b - 4503599627370496)) (by omega) c W
                    generalize b - 4503599627370496 = D at *
                    generalize F * 4503599627370496 + D = Z at *
                    clear HPK2 HQ2 HM2 hR
                    go_wp2_with fail
                    refine (HL _).mono ?_
                    rintro e w1 ⟨rfl, hh⟩
                    subst hh
                    go_wp2_with fail
                    refine (HL _).mono ?_
                    rintro e w1 ⟨rfl, hh⟩
                    subst hh
                    go_wp2_with fail
                    refine (HT _).mono ?_
                    rintro e w1 ⟨rfl, hh⟩
                    subst hh
                    go_wp2_with fail
                    refine (HG _).mono ?_
                    rintro e w1 ⟨rfl, hh⟩
                    subst hh
                    go_wp2
                    go_ret2
                    exact ⟨by rw [HV.out]; rfl, ((Below.refl _ _).alloc (Nat.le_refl _) _).drew⟩
/-- Bits and an error, by the answer. -/
def anV (g : Nat) (c : Bool) (p : Nat × Bool) : Value := .tuple #[.int .u64 ((sgd g c p.1 : Nat) : Int), if p.2 then .iface 42 (.int .i64 4) else .nilIface]
theorem zero_z {s : Int} {g n f T : Nat} {L : Int} (h : Fz s g n f T L) (c : Bool) (w : World) : Calls Tryd.prog 31 #[.bool c, .int .i64 s] w fun e w' => e = .returned (.tuple #[.int .u64 ((sgd g c 0 : Nat) : Int), .nilIface]) ∧ Below w.heap.size w w' := by
  rcases h with ⟨rfl, rfl, rfl, rfl, rfl, rfl⟩ | ⟨rfl, rfl, rfl, rfl, rfl, rfl⟩
  · exact bzero_32 c w
  · exact bzero_64 c w
theorem inf_z {s : Int} {g n f T : Nat} {L : Int} (h : Fz s g n f T L) (c : Bool) (w : World) : Calls Tryd.prog 33 #[.bool c, .int .i64 s] w fun e w' => e = .returned (.tuple #[.int .u64 ((sgd g c (T * 2 ^ f) : Nat) : Int), .nilIface]) ∧ Below w.heap.size w w' := by
  rcases h with ⟨rfl, rfl, rfl, rfl, rfl, rfl⟩ | ⟨rfl, rfl, rfl, rfl, rfl, rfl⟩
  · exact binf_32 c w
  · exact binf_64 c w
theorem pack_z {s : Int} {g n f T : Nat} {L : Int} (h : Fz s g n f T L) (c : Bool) {m : Nat} {p : Int} (hm : m < 18446744073709551616) (m0 : m ≠ 0) (hp0 : -9223372036854775808 ≤ p) (w : World) (hT : Tab w) : Calls Tryd.prog 32 #[.agg #[.bool c, .int .i64 2, .int .u64 (m : Int), .int .i64 p], .int .i64 s] w fun e w' => e = .returned (match pk f (T : Int) L m p with | some b => .tuple #[.int .u64 ((sgd g c b : Nat) : Int), .nilIface] | none => .tuple #[.int .u64 0, .iface 42 (.int .i64 4)]) ∧ Below w.heap.size w w' := by
  rcases h with ⟨rfl, rfl, rfl, rfl, rfl, rfl⟩ | ⟨rfl, rfl, rfl, rfl, rfl, rfl⟩
  · rw [show (((255 : Nat) : Int)) = 255 from rfl]
    cases h : pk 23 255 (-149) m p with
    | none => exact pk_of_32 w hT fun W hW => pack_none_32 c hm m0 hp0 h W hW
    | some b => exact pk_of_32 w hT fun W hW => pack_some_32 c hm m0 hp0 h W hW
  · rw [show (((2047 : Nat) : Int)) = 2047 from rfl]
    cases h : pk 52 2047 (-1074) m p with
    | none => exact pk_of_64 w hT fun W hW => pack_none_64 c hm m0 hp0 h W hW
    | some b => exact pk_of_64 w hT fun W hW => pack_some_64 c hm m0 hp0 h W hW
theorem dpK_lt {m D : Nat} {more : Bool} (hm : m < 18446744073709551616) : dpK m D more < 18446744073709551616 := by
  unfold dpK
  by_cases h : D = 0
  · subst h
    unfold dpU
    simpa using hm
  · have a : m / 2 ^ D ≤ m / 2 := Nat.div_le_div_left (by rw [show D = D - 1 + 1 from by omega, Nat.pow_succ]; have := Nat.two_pow_pos (D - 1); omega) (by omega)
    split <;> omega
theorem rinf_z {s : Int} {g n f T : Nat} {L : Int} (h : Fz s g n f T L) (w : World) : Calls Tryd.prog 53 #[.int .i64 s] w fun e w' => e = .returned (.int .u64 ((T * 2 ^ f : Nat) : Int)) ∧ w' = w := by
  rcases h with ⟨rfl, rfl, rfl, rfl, rfl, rfl⟩ | ⟨rfl, rfl, rfl, rfl, rfl, rfl⟩
  · exact rInf_32 w
  · exact rInf_64 w
theorem rpack_z {s : Int} {g n f T : Nat} {L : Int} (h : Fz s g n f T L) (c : Bool) {m : Nat} {p : Int} (hm : m < 18446744073709551616) (m0 : m ≠ 0) (hp : -4000 ≤ p) (w : World) : Calls Tryd.prog 52 #[.agg #[.bool c, .int .i64 2, .int .u64 (m : Int), .int .i64 p], .int .i64 s] w fun e w' => e = .returned (rpV g c (pk f (T : Int) L m p)) ∧ Below w.heap.size w w' := by
  have n0 : ((m : Int) == 0) = false := by simp; omega
  rcases h with ⟨rfl, rfl, rfl, rfl, rfl, rfl⟩ | ⟨rfl, rfl, rfl, rfl, rfl, rfl⟩
  · by_cases q : 4000 < p
    · rw [show (((255 : Nat) : Int)) = 255 from rfl, pk_high (f := 23) (t := 255) (L := (-149)) (by decide) m0 (by omega)]
      exact rpk_far2_32 c n0 (by omega) q w
    · exact rpk_fine_32 c hm m0 (by omega) q w
  · by_cases q : 4000 < p
    · rw [show (((2047 : Nat) : Int)) = 2047 from rfl, pk_high (f := 52) (t := 2047) (L := (-1074)) (by decide) m0 (by omega)]
      exact rpk_far2_64 c n0 (by omega) q w
    · exact rpk_fine_64 c hm m0 (by omega) q w
end Go.Proofs.YtkmnkogbafhfdaaDoor
