/-
  Holds: VBtB VBtC VBtD VPgC.
-/
import Derived.Laws.BitsAllLaws
import Derived.Test.YtjagnfddmlkalaaGreatDoorRows
import Derived.WalkKit
import Derived.BigQuiet
import Derived.Deep.RegionHeld3
import Derived.Deep.DeepCutAuto
import Derived.WalkSpells
import Derived.WalkLawsBesides
import Derived.Lib.Mul64
import Derived.Lib.TrailingZeros
import Derived.Lib.ItoaNum
import Derived.Deep.OwnRows
import Derived.Laws.CopyOwn
import Derived.Deep.AppendLies
import Derived.Test.YtjagnfddmlkalaaGreatDoorKj23
import Derived.Test.YtjagnfddmlkalaaGreatDoorKj24
set_option maxRecDepth 100000
set_option maxHeartbeats 4000000
namespace Go.Proofs.YtjagnfddmlkalaaGreatDoor
open Go.RowKit
theorem unpack_32 {b : Nat} (h : b < 4294967296) (w : World) : Calls Tryz.prog 30 #[.agg #[.int .u64 2147483648, .int .u64 2139095040, .int .i64 23, .int .i64 (-149)], .int .u64 (b : Int)] w fun e w' => e = .returned (.agg #[.bool (uN 2147483648 2139095040 b), .int .i64 (cl 2139095040 (mg 2147483648 b)), .int .u64 ((uM 2139095040 23 (mg 2147483648 b) : Nat) : Int), .int .i64 (uE 2139095040 23 (-149) (mg 2147483648 b))]) ∧ Below w.heap.size w w' := by
 have HN := fun W => negative_32 h W
 have HC := fun W => class_32 h W
 have HM := fun W => magnitude_32 h W
 have hl := mg_lt (g := 2147483648) (by decide) b
 have HF := fun W => fine_32 hl W
 unfold uN uM uE
 generalize mg 2147483648 b = x at *
 generalize ng 2147483648 b = c at *
 generalize mt 23 x = M at *
 generalize xp 23 (-149) x = X at *
 have HQ : Hid (cl 2139095040 x = 1 ∨ cl 2139095040 x = 2 ∨ cl 2139095040 x = 3 ∨ cl 2139095040 x = 4) := by
  rcases cl_cases 2139095040 x with ⟨_, q⟩ | ⟨_, _, q⟩ | ⟨_, _, q⟩ | ⟨_, q⟩
  · exact .inl q
  · exact .inr (.inl q)
  · exact .inr (.inr (.inl q))
  · exact .inr (.inr (.inr q))
 generalize cl 2139095040 x = C at *
 have H1 : Hid (FlB ((w.alloc (.cells #[.int .u64 2147483648, .int .u64 2139095040, .int .i64 23, .int .i64 (-149)] 66)).alloc (.cells #[.bool false, .int .i64 0, .int .u64 0, .int .i64 0] 39)) w.heap.size _ _ _ _) := (FlB.new w _ _ _ _ _).al _
 have H2 : Hid (FlB ((w.alloc (.cells #[.int .u64 2147483648, .int .u64 2139095040, .int .i64 23, .int .i64 (-149)] 66)).alloc (.cells #[.bool false, .int .i64 0, .int .u64 0, .int .i64 0] 39)) (w.heap.size + 1) _ _ _ _) := FlB.newAt _ _ _ _ _ _ (by simp)
 have HB : Hid (Below w.heap.size w ((w.alloc (.cells #[.int .u64 2147483648, .int .u64 2139095040, .int .i64 23, .int .i64 (-149)] 66)).alloc (.cells #[.bool false, .int .i64 0, .int .u64 0, .int .i64 0] 39))) := ((Below.refl _ _).alloc (Nat.le_refl _) _).alloc (by simp) _
 go_enter Tryz.func30, Tryz.ntmps30
 go_upto_region 1 with fail
 go_cut [5] (fun p wx => ∃ K, p = .pointer (some ⟨K, 0, none⟩) ∧ w.heap.size + 2 ≤ K ∧ Below w.heap.size w wx ∧ FlB wx w.heap.size (.int .u64 2147483648) (.int .u64 2139095040) (.int .i64 23) (.int .i64 (-149)) ∧ FlB wx (w.heap.size + 1) (.bool false) (.int .i64 0) (.int .u64 0) (.int .i64 0) ∧ FlB wx K (.bool c) (.int .i64 C) (.int .u64 0) (.int .i64 0))
 case first =>
  go_region_held3 (fun w' => w'.cell? ⟨w.heap.size, 0, none⟩ = some (.int .u64 2147483648) ∧ w'.cell? ⟨w.heap.size, 1, none⟩ = some (.int .u64 2139095040) ∧ w'.cell? ⟨w.heap.size, 2, none⟩ = some (.int .i64 23) ∧ w'.cell? ⟨w.heap.size, 3, none⟩ = some (.int .i64 (-149))) (simp [*, go_sem, World.cell?_alloc_lt])
   (first
    | (go_at_call 61; refine (HN _).mono ?_; rintro x1 w2 ⟨rfl, hb2⟩; obtain ⟨hc2, hf2⟩ := bcell hb2; have hz2 := hb2.size; (try simp at hz2); have y2 : w.heap.size < w2.heap.size := (by omega); have v2 : w.heap.size + 1 < w2.heap.size := (by omega); (first | (have u2 : w.heap.size + 1 + 1 < w2.heap.size := (by omega)) | skip); have HB2 : Hid (Below _ _ _) := hb2; clear hb2)
    | (go_at_call 62; refine (HC _).mono ?_; rintro x2 w3 ⟨rfl, hb3⟩; obtain ⟨hc3, hf3⟩ := bcell hb3; have hz3 := hb3.size; (try simp at hz3); have y3 : w.heap.size < w3.heap.size := (by omega); have v3 : w.heap.size + 1 < w3.heap.size := (by omega); have HB3 : Hid (Below _ _ _) := hb3; clear hb3))
  all_goals
   go_wp2_with fail
   go_meet
   first
    | exact ⟨w3.heap.size, rfl, by omega, (HB.out.drew.trans (HB2.out.mono (by simp; omega))).trans (HB3.out.mono (by omega)) |>.alloc (by omega) _, ((H1.out.drew.step HB2.out).step HB3.out).al _, ((H2.out.drew.step HB2.out).step HB3.out).al _, FlB.new _ _ _ _ _ _⟩
    | exact ⟨w2.heap.size, rfl, by omega, ((((((HB.out.drew.trans (HB2.out.mono (by simp; omega))).alloc (by omega) _).trans (HB3.out.mono (by simp; omega))).setCell (by show w.heap.size ≤ w2.heap.size; omega) _).setCell (by show w.heap.size ≤ w2.heap.size; omega) _).setCell (by show w.heap.size ≤ w2.heap.size; omega) _).setCell (by show w.heap.size ≤ w2.heap.size; omega) _, (((((H1.out.drew.step HB2.out).al _).step HB3.out).far _ _ (by show w.heap.size ≠ w2.heap.size; omega)).far _ _ (by show w.heap.size ≠ w2.heap.size; omega)).far _ _ (by show w.heap.size ≠ w2.heap.size; omega) |>.far _ _ (by show w.heap.size ≠ w2.heap.size; omega), (((((H2.out.drew.step HB2.out).al _).step HB3.out).far _ _ (by show w.heap.size + 1 ≠ w2.heap.size; omega)).far _ _ (by show w.heap.size + 1 ≠ w2.heap.size; omega)).far _ _ (by show w.heap.size + 1 ≠ w2.heap.size; omega) |>.far _ _ (by show w.heap.size + 1 ≠ w2.heap.size; omega), (((((FlB.new _ _ _ _ _ _).step HB3.out).set0 _).set1 _).set2 _).set3 _⟩
    | exact ⟨w.heap.size + 1 + 1, rfl, by omega, (((((HB.out.alloc (by simp; omega) _).drew.trans (HB2.out.mono (by simp; omega))).trans (HB3.out.mono (by omega))).setCell (by show w.heap.size ≤ w.heap.size + 1 + 1; omega) _).setCell (by show w.heap.size ≤ w.heap.size + 1 + 1; omega) _).setCell (by show w.heap.size ≤ w.heap.size + 1 + 1; omega) _ |>.setCell (by show w.heap.size ≤ w.heap.size + 1 + 1; omega) _, (((((H1.out.al _).drew.step HB2.out).step HB3.out).far _ _ (by show w.heap.size ≠ w.heap.size + 1 + 1; omega)).far _ _ (by show w.heap.size ≠ w.heap.size + 1 + 1; omega)).far _ _ (by show w.heap.size ≠ w.heap.size + 1 + 1; omega) |>.far _ _ (by show w.heap.size ≠ w.heap.size + 1 + 1; omega), (((((H2.out.al _).drew.step HB2.out).step HB3.out).far _ _ (by show w.heap.size + 1 ≠ w.heap.size + 1 + 1; omega)).far _ _ (by show w.heap.size + 1 ≠ w.heap.size + 1 + 1; omega)).far _ _ (by show w.heap.size + 1 ≠ w.heap.size + 1 + 1; omega) |>.far _ _ (by show w.heap.size + 1 ≠ w.heap.size + 1 + 1; omega), ((((((FlB.newAt _ _ _ _ _ _ (by simp)).drew.step HB2.out).step HB3.out).set0 _).set1 _).set2 _).set3 _⟩
 case rest =>
  clear H1 H2 HB HN HC
  obtain ⟨K, rfl, hK, bl, h1, h2, h3⟩ := hcut
  have BL : Hid (Below w.heap.size w wc) := bl
  have H1 : Hid (FlB _ _ _ _ _ _) := h1
  have H2 : Hid (FlB _ _ _ _ _ _) := h2
  have H3 : Hid (FlB _ _ _ _ _ _) := h3
  obtain ⟨l1, a0, a1, a2, a3, _, _, _, _⟩ := h1
  obtain ⟨l2, b0, b1, b2, b3, e0, e1, e2, e3⟩ := h2
  obtain ⟨l3, c0, c1, c2, c3, g0, g1, g2, g3⟩ := h3
  have n1 : ¬ K = w.heap.size + 1 := by omega
  have n2 : ¬ w.heap.size + 1 = K := by omega
  have n3 : ¬ K = w.heap.size := by omega
  have n4 : ¬ w.heap.size = K := by omega
  clear bl
  rcases HQ.out with q | q | q | q
  · subst q
    go_wp2
    refine bodyPost_ret (v := .agg #[.bool c, .int .i64 1, .int .u64 0, .int .i64 0]) (by simp [results, Tryz.results30, go_sem, World.cell?_setCell_same, World.cell?_setCell_other, *]) rfl ⟨rfl, ?_⟩
    exact (((BL.out.setCell (by show w.heap.size ≤ w.heap.size + 1; omega) _).setCell (by show w.heap.size ≤ w.heap.size + 1; omega) _).setCell (by show w.heap.size ≤ w.heap.size + 1; omega) _).setCell (by show w.heap.size ≤ w.heap.size + 1; omega) _
  · subst q
    go_wp2
    go_region_held3 (fun w' => w'.cell? ⟨w.heap.size, 0, none⟩ = some (.int .u64 2147483648) ∧ w'.cell? ⟨w.heap.size, 1, none⟩ = some (.int .u64 2139095040) ∧ w'.cell? ⟨w.heap.size, 2, none⟩ = some (.int .i64 23) ∧ w'.cell? ⟨w.heap.size, 3, none⟩ = some (.int .i64 (-149))) (simp [*, go_sem])
     (first
      | (go_at_call 64; refine (HM _).mono ?_; rintro x1 w4 ⟨rfl, hb4⟩; have H14 : Hid (FlB _ _ _ _ _ _) := H1.out.drew.step hb4; have H24 : Hid (FlB _ _ _ _ _ _) := H2.out.drew.step hb4; have H34 : Hid (FlB _ _ _ _ _ _) := H3.out.drew.step hb4; have B4 : Hid (Below w.heap.size w w4) := BL.out.drew.trans (hb4.mono (Nat.le_of_lt l1)); clear hb4; obtain ⟨l14, a04, a14, a24, a34, _, _, _, _⟩ := H14.out)
      | (go_at_call 63; refine (HF _).mono ?_; rintro x2 w5 ⟨rfl, hb5⟩; have H15 : Hid (FlB _ _ _ _ _ _) := H14.out.step hb5; have H25 : Hid (FlB _ _ _ _ _ _) := H24.out.step hb5; have H35 : Hid (FlB _ _ _ _ _ _) := H34.out.step hb5; have B5 : Hid (Below w.heap.size w w5) := B4.out.trans (hb5.mono (Nat.le_of_lt l14)); clear hb5; obtain ⟨l15, a05, a15, a25, a35, _, _, _, _⟩ := H15.out; obtain ⟨l25, b05, b15, b25, b35, e05, e15, e25, e35⟩ := H25.out; obtain ⟨l35, c05, c15, c25, c35, g05, g15, g25, g35⟩ := H35.out))
    all_goals
     go_wp2
     refine bodyPost_ret (v := .agg #[.bool c, .int .i64 2, .int .u64 (M : Int), .int .i64 X]) (by simp [results, Tryz.results30, go_sem, World.cell?_setCell_same, World.cell?_setCell_other, *]) rfl ⟨rfl, ?_⟩
     exact ((((((((((((B5.out).setCell (by show w.heap.size ≤ K; omega) _)).setCell (by show w.heap.size ≤ K; omega) _)).setCell (by show w.heap.size ≤ w.heap.size + 1; omega) _)).setCell (by show w.heap.size ≤ w.heap.size + 1; omega) _)).setCell (by show w.heap.size ≤ w.heap.size + 1; omega) _)).setCell (by show w.heap.size ≤ w.heap.size + 1; omega) _)
  · subst q
    go_wp2
    refine bodyPost_ret (v := .agg #[.bool c, .int .i64 3, .int .u64 0, .int .i64 0]) (by simp [results, Tryz.results30, go_sem, World.cell?_setCell_same, World.cell?_setCell_other, *]) rfl ⟨rfl, ?_⟩
    exact ((((((((BL.out).setCell (by show w.heap.size ≤ w.heap.size + 1; omega) _)).setCell (by show w.heap.size ≤ w.heap.size + 1; omega) _)).setCell (by show w.heap.size ≤ w.heap.size + 1; omega) _)).setCell (by show w.heap.size ≤ w.heap.size + 1; omega) _)
  · subst q
    go_wp2
    refine bodyPost_ret (v := .agg #[.bool false, .int .i64 4, .int .u64 0, .int .i64 0]) (by simp [results, Tryz.results30, go_sem, World.cell?_setCell_same, World.cell?_setCell_other, *]) rfl ⟨rfl, ?_⟩
    exact ((((((((((BL.out).setCell (by show w.heap.size ≤ K; omega) _)).setCell (by show w.heap.size ≤ w.heap.size + 1; omega) _)).setCell (by show w.heap.size ≤ w.heap.size + 1; omega) _)).setCell (by show w.heap.size ≤ w.heap.size + 1; omega) _)).setCell (by show w.heap.size ≤ w.heap.size + 1; omega) _)
theorem unpack_64 {b : Nat} (h : b < 18446744073709551616) (w : World) : Calls Tryz.prog 30 #[.agg #[.int .u64 9223372036854775808, .int .u64 9218868437227405312, .int .i64 52, .int .i64 (-1074)], .int .u64 (b : Int)] w fun e w' => e = .returned (.agg #[.bool (uN 9223372036854775808 9218868437227405312 b), .int .i64 (cl 9218868437227405312 (mg 9223372036854775808 b)), .int .u64 ((uM 9218868437227405312 52 (mg 9223372036854775808 b) : Nat) : Int), .int .i64 (uE 9218868437227405312 52 (-1074) (mg 9223372036854775808 b))]) ∧ Below w.heap.size w w' := by
 have HN := fun W => negative_64 h W
 have HC := fun W => class_64 h W
 have HM := fun W => magnitude_64 h W
 have hl := mg_lt (g := 9223372036854775808) (by decide) b
 have HF := fun W => fine_64 hl W
 unfold uN uM uE
 generalize mg 9223372036854775808 b = x at *
 generalize ng 9223372036854775808 b = c at *
 generalize mt 52 x = M at *
 generalize xp 52 (-1074) x = X at *
 have HQ : Hid (cl 9218868437227405312 x = 1 ∨ cl 9218868437227405312 x = 2 ∨ cl 9218868437227405312 x = 3 ∨ cl 9218868437227405312 x = 4) := by
  rcases cl_cases 9218868437227405312 x with ⟨_, q⟩ | ⟨_, _, q⟩ | ⟨_, _, q⟩ | ⟨_, q⟩
  · exact .inl q
  · exact .inr (.inl q)
  · exact .inr (.inr (.inl q))
  · exact .inr (.inr (.inr q))
 generalize cl 9218868437227405312 x = C at *
 have H1 : Hid (FlB ((w.alloc (.cells #[.int .u64 9223372036854775808, .int .u64 9218868437227405312, .int .i64 52, .int .i64 (-1074)] 66)).alloc (.cells #[.bool false, .int .i64 0, .int .u64 0, .int .i64 0] 39)) w.heap.size _ _ _ _) := (FlB.new w _ _ _ _ _).al _
 have H2 : Hid (FlB ((w.alloc (.cells #[.int .u64 9223372036854775808, .int .u64 9218868437227405312, .int .i64 52, .int .i64 (-1074)] 66)).alloc (.cells #[.bool false, .int .i64 0, .int .u64 0, .int .i64 0] 39)) (w.heap.size + 1) _ _ _ _) := FlB.newAt _ _ _ _ _ _ (by simp)
 have HB : Hid (Below w.heap.size w ((w.alloc (.cells #[.int .u64 9223372036854775808, .int .u64 9218868437227405312, .int .i64 52, .int .i64 (-1074)] 66)).alloc (.cells #[.bool false, .int .i64 0, .int .u64 0, .int .i64 0] 39))) := ((Below.refl _ _).alloc (Nat.le_refl _) _).alloc (by simp) _
 go_enter Tryz.func30, Tryz.ntmps30
 go_upto_region 1 with fail
 go_cut [5] (fun p wx => ∃ K, p = .pointer (some ⟨K, 0, none⟩) ∧ w.heap.size + 2 ≤ K ∧ Below w.heap.size w wx ∧ FlB wx w.heap.size (.int .u64 9223372036854775808) (.int .u64 9218868437227405312) (.int .i64 52) (.int .i64 (-1074)) ∧ FlB wx (w.heap.size + 1) (.bool false) (.int .i64 0) (.int .u64 0) (.int .i64 0) ∧ FlB wx K (.bool c) (.int .i64 C) (.int .u64 0) (.int .i64 0))
 case first =>
  go_region_held3 (fun w' => w'.cell? ⟨w.heap.size, 0, none⟩ = some (.int .u64 9223372036854775808) ∧ w'.cell? ⟨w.heap.size, 1, none⟩ = some (.int .u64 9218868437227405312) ∧ w'.cell? ⟨w.heap.size, 2, none⟩ = some (.int .i64 52) ∧ w'.cell? ⟨w.heap.size, 3, none⟩ = some (.int .i64 (-1074))) (simp [*, go_sem, World.cell?_alloc_lt])
   (first
    | (go_at_call 61; refine (HN _).mono ?_; rintro x1 w2 ⟨rfl, hb2⟩; obtain ⟨hc2, hf2⟩ := bcell hb2; have hz2 := hb2.size; (try simp at hz2); have y2 : w.heap.size < w2.heap.size := (by omega); have v2 : w.heap.size + 1 < w2.heap.size := (by omega); (first | (have u2 : w.heap.size + 1 + 1 < w2.heap.size := (by omega)) | skip); have HB2 : Hid (Below _ _ _) := hb2; clear hb2)
    | (go_at_call 62; refine (HC _).mono ?_; rintro x2 w3 ⟨rfl, hb3⟩; obtain ⟨hc3, hf3⟩ := bcell hb3; have hz3 := hb3.size; (try simp at hz3); have y3 : w.heap.size < w3.heap.size := (by omega); have v3 : w.heap.size + 1 < w3.heap.size := (by omega); have HB3 : Hid (Below _ _ _) := hb3; clear hb3))
  all_goals
   go_wp2_with fail
   go_meet
   first
    | exact ⟨w3.heap.size, rfl, by omega, (HB.out.drew.trans (HB2.out.mono (by simp; omega))).trans (HB3.out.mono (by omega)) |>.alloc (by omega) _, ((H1.out.drew.step HB2.out).step HB3.out).al _, ((H2.out.drew.step HB2.out).step HB3.out).al _, FlB.new _ _ _ _ _ _⟩
    | exact ⟨w2.heap.size, rfl, by omega, ((((((HB.out.drew.trans (HB2.out.mono (by simp; omega))).alloc (by omega) _).trans (HB3.out.mono (by simp; omega))).setCell (by show w.heap.size ≤ w2.heap.size; omega) _).setCell (by show w.heap.size ≤ w2.heap.size; omega) _).setCell (by show w.heap.size ≤ w2.heap.size; omega) _).setCell (by show w.heap.size ≤ w2.heap.size; omega) _, (((((H1.out.drew.step HB2.out).al _).step HB3.out).far _ _ (by show w.heap.size ≠ w2.heap.size; omega)).far _ _ (by show w.heap.size ≠ w2.heap.size; omega)).far _ _ (by show w.heap.size ≠ w2.heap.size; omega) |>.far _ _ (by show w.heap.size ≠ w2.heap.size; omega), (((((H2.out.drew.step HB2.out).al _).step HB3.out).far _ _ (by show w.heap.size + 1 ≠ w2.heap.size; omega)).far _ _ (by show w.heap.size + 1 ≠ w2.heap.size; omega)).far _ _ (by show w.heap.size + 1 ≠ w2.heap.size; omega) |>.far _ _ (by show w.heap.size + 1 ≠ w2.heap.size; omega), (((((FlB.new _ _ _ _ _ _).step HB3.out).set0 _).set1 _).set2 _).set3 _⟩
    | exact ⟨w.heap.size + 1 + 1, rfl, by omega, (((((HB.out.alloc (by simp; omega) _).drew.trans (HB2.out.mono (by simp; omega))).trans (HB3.out.mono (by omega))).setCell (by show w.heap.size ≤ w.heap.size + 1 + 1; omega) _).setCell (by show w.heap.size ≤ w.heap.size + 1 + 1; omega) _).setCell (by show w.heap.size ≤ w.heap.size + 1 + 1; omega) _ |>.setCell (by show w.heap.size ≤ w.heap.size + 1 + 1; omega) _, (((((H1.out.al _).drew.step HB2.out).step HB3.out).far _ _ (by show w.heap.size ≠ w.heap.size + 1 + 1; omega)).far _ _ (by show w.heap.size ≠ w.heap.size + 1 + 1; omega)).far _ _ (by show w.heap.size ≠ w.heap.size + 1 + 1; omega) |>.far _ _ (by show w.heap.size ≠ w.heap.size + 1 + 1; omega), (((((H2.out.al _).drew.step HB2.out).step HB3.out).far _ _ (by show w.heap.size + 1 ≠ w.heap.size + 1 + 1; omega)).far _ _ (by show w.heap.size + 1 ≠ w.heap.size + 1 + 1; omega)).far _ _ (by show w.heap.size + 1 ≠ w.heap.size + 1 + 1; omega) |>.far _ _ (by show w.heap.size + 1 ≠ w.heap.size + 1 + 1; omega), ((((((FlB.newAt _ _ _ _ _ _ (by simp)).drew.step HB2.out).step HB3.out).set0 _).set1 _).set2 _).set3 _⟩
 case rest =>
  clear H1 H2 HB HN HC
  obtain ⟨K, rfl, hK, bl, h1, h2, h3⟩ := hcut
  have BL : Hid (Below w.heap.size w wc) := bl
  have H1 : Hid (FlB _ _ _ _ _ _) := h1
  have H2 : Hid (FlB _ _ _ _ _ _) := h2
  have H3 : Hid (FlB _ _ _ _ _ _) := h3
  obtain ⟨l1, a0, a1, a2, a3, _, _, _, _⟩ := h1
  obtain ⟨l2, b0, b1, b2, b3, e0, e1, e2, e3⟩ := h2
  obtain ⟨l3, c0, c1, c2, c3, g0, g1, g2, g3⟩ := h3
  have n1 : ¬ K = w.heap.size + 1 := by omega
  have n2 : ¬ w.heap.size + 1 = K := by omega
  have n3 : ¬ K = w.heap.size := by omega
  have n4 : ¬ w.heap.size = K := by omega
  clear bl
  rcases HQ.out with q | q | q | q
  · subst q
    go_wp2
    refine bodyPost_ret (v := .agg #[.bool c, .int .i64 1, .int .u64 0, .int .i64 0]) (by simp [results, Tryz.results30, go_sem, World.cell?_setCell_same, World.cell?_setCell_other, *]) rfl ⟨rfl, ?_⟩
    exact (((BL.out.setCell (by show w.heap.size ≤ w.heap.size + 1; omega) _).setCell (by show w.heap.size ≤ w.heap.size + 1; omega) _).setCell (by show w.heap.size ≤ w.heap.size + 1; omega) _).setCell (by show w.heap.size ≤ w.heap.size + 1; omega) _
  · subst q
    go_wp2
    go_region_held3 (fun w' => w'.cell? ⟨w.heap.size, 0, none⟩ = some (.int .u64 9223372036854775808) ∧ w'.cell? ⟨w.heap.size, 1, none⟩ = some (.int .u64 9218868437227405312) ∧ w'.cell? ⟨w.heap.size, 2, none⟩ = some (.int .i64 52) ∧ w'.cell? ⟨w.heap.size, 3, none⟩ = some (.int .i64 (-1074))) (simp [*, go_sem])
     (first
      | (go_at_call 64; refine (HM _).mono ?_; rintro x1 w4 ⟨rfl, hb4⟩; have H14 : Hid (FlB _ _ _ _ _ _) := H1.out.drew.step hb4; have H24 : Hid (FlB _ _ _ _ _ _) := H2.out.drew.step hb4; have H34 : Hid (FlB _ _ _ _ _ _) := H3.out.drew.step hb4; have B4 : Hid (Below w.heap.size w w4) := BL.out.drew.trans (hb4.mono (Nat.le_of_lt l1)); clear hb4; obtain ⟨l14, a04, a14, a24, a34, _, _, _, _⟩ := H14.out)
      | (go_at_call 63; refine (HF _).mono ?_; rintro x2 w5 ⟨rfl, hb5⟩; have H15 : Hid (FlB _ _ _ _ _ _) := H14.out.step hb5; have H25 : Hid (FlB _ _ _ _ _ _) := H24.out.step hb5; have H35 : Hid (FlB _ _ _ _ _ _) := H34.out.step hb5; have B5 : Hid (Below w.heap.size w w5) := B4.out.trans (hb5.mono (Nat.le_of_lt l14)); clear hb5; obtain ⟨l15, a05, a15, a25, a35, _, _, _, _⟩ := H15.out; obtain ⟨l25, b05, b15, b25, b35, e05, e15, e25, e35⟩ := H25.out; obtain ⟨l35, c05, c15, c25, c35, g05, g15, g25, g35⟩ := H35.out))
    all_goals
     go_wp2
     refine bodyPost_ret (v := .agg #[.bool c, .int .i64 2, .int .u64 (M : Int), .int .i64 X]) (by simp [results, Tryz.results30, go_sem, World.cell?_setCell_same, World.cell?_setCell_other, *]) rfl ⟨rfl, ?_⟩
     exact ((((((((((((B5.out).setCell (by show w.heap.size ≤ K; omega) _)).setCell (by show w.heap.size ≤ K; omega) _)).setCell (by show w.heap.size ≤ w.heap.size + 1; omega) _)).setCell (by show w.heap.size ≤ w.heap.size + 1; omega) _)).setCell (by show w.heap.size ≤ w.heap.size + 1; omega) _)).setCell (by show w.heap.size ≤ w.heap.size + 1; omega) _)
  · subst q
    go_wp2
    refine bodyPost_ret (v := .agg #[.bool c, .int .i64 3, .int .u64 0, .int .i64 0]) (by simp [results, Tryz.results30, go_sem, World.cell?_setCell_same, World.cell?_setCell_other, *]) rfl ⟨rfl, ?_⟩
    exact ((((((((BL.out).setCell (by show w.heap.size ≤ w.heap.size + 1; omega) _)).setCell (by show w.heap.size ≤ w.heap.size + 1; omega) _)).setCell (by show w.heap.size ≤ w.heap.size + 1; omega) _)).setCell (by show w.heap.size ≤ w.heap.size + 1; omega) _)
  · subst q
    go_wp2
    refine bodyPost_ret (v := .agg #[.bool false, .int .i64 4, .int .u64 0, .int .i64 0]) (by simp [results, Tryz.results30, go_sem, World.cell?_setCell_same, World.cell?_setCell_other, *]) rfl ⟨rfl, ?_⟩
    exact ((((((((((BL.out).setCell (by show w.heap.size ≤ K; omega) _)).setCell (by show w.heap.size ≤ w.heap.size + 1; omega) _)).setCell (by show w.heap.size ≤ w.heap.size + 1; omega) _)).setCell (by show w.heap.size ≤ w.heap.size + 1; omega) _)).setCell (by show w.heap.size ≤ w.heap.size + 1; omega) _)
theorem shapeOf_no {s : Int} (h : Sn s) (w : World) : Calls Tryz.prog 60 #[.int .i64 s] w fun e w' => e = .returned (.tuple #[.agg #[.int .u64 0, .int .u64 0, .int .i64 0, .int .i64 0], .iface 42 (.int .i64 5)]) ∧ Below w.heap.size w w' := by
 have p1 : (s == 32) = false := by simpa using h.1
 have p2 : (s == 64) = false := by simpa using h.2
 clear h
 go_enter Tryz.func60, Tryz.ntmps60
 go_wp2
 exact bodyPost_ret (v := .tuple #[.agg #[.int .u64 0, .int .u64 0, .int .i64 0, .int .i64 0], .iface 42 (.int .i64 5)]) (by simp [results, Tryz.results60, go_sem]) rfl ⟨rfl, (Below.refl _ _).alloc (Nat.le_refl _) _⟩
theorem shapeOf_32 (w : World) : Calls Tryz.prog 60 #[.int .i64 32] w fun e w' => e = .returned (.tuple #[.agg #[.int .u64 2147483648, .int .u64 2139095040, .int .i64 23, .int .i64 (-149)], .nilIface]) ∧ Below w.heap.size w w' := by
 have H := fun W => single_any W
 go_enter Tryz.func60, Tryz.ntmps60
 go_wp2_with fail
 refine (H _).mono ?_
 rintro e w1 ⟨rfl, hb⟩
 have T : Hid (FlB w1 w.heap.size _ _ _ _) := (FlB.new w (.int .u64 0) (.int .u64 0) (.int .i64 0) (.int .i64 0) 66).step hb
 have B : Hid (Below w.heap.size w w1) := ((Below.refl _ _).alloc (Nat.le_refl _) _).trans (hb.mono (by simp))
 clear hb
 obtain ⟨l, a0, a1, a2, a3, f0, f1, f2, f3⟩ := T.out
 go_wp2
 exact bodyPost_ret (v := .tuple #[.agg #[.int .u64 2147483648, .int .u64 2139095040, .int .i64 23, .int .i64 (-149)], .nilIface]) (by simp [results, Tryz.results60, go_sem, World.cell?_setCell_same, World.cell?_setCell_other, *]) rfl ⟨rfl, (((B.out.setCell (Nat.le_refl _) _).setCell (Nat.le_refl _) _).setCell (Nat.le_refl _) _).setCell (Nat.le_refl _) _⟩
theorem shapeOf_64 (w : World) : Calls Tryz.prog 60 #[.int .i64 64] w fun e w' => e = .returned (.tuple #[.agg #[.int .u64 9223372036854775808, .int .u64 9218868437227405312, .int .i64 52, .int .i64 (-1074)], .nilIface]) ∧ Below w.heap.size w w' := by
 have H := fun W => double_any W
 go_enter Tryz.func60, Tryz.ntmps60
 go_wp2_with fail
 refine (H _).mono ?_
 rintro e w1 ⟨rfl, hb⟩
 have T : Hid (FlB w1 w.heap.size _ _ _ _) := (FlB.new w (.int .u64 0) (.int .u64 0) (.int .i64 0) (.int .i64 0) 66).step hb
 have B : Hid (Below w.heap.size w w1) := ((Below.refl _ _).alloc (Nat.le_refl _) _).trans (hb.mono (by simp))
 clear hb
 obtain ⟨l, a0, a1, a2, a3, f0, f1, f2, f3⟩ := T.out
 go_wp2
 exact bodyPost_ret (v := .tuple #[.agg #[.int .u64 9223372036854775808, .int .u64 9218868437227405312, .int .i64 52, .int .i64 (-1074)], .nilIface]) (by simp [results, Tryz.results60, go_sem, World.cell?_setCell_same, World.cell?_setCell_other, *]) rfl ⟨rfl, (((B.out.setCell (Nat.le_refl _) _).setCell (Nat.le_refl _) _).setCell (Nat.le_refl _) _).setCell (Nat.le_refl _) _⟩
theorem shapeFor_no {s : Int} (h : Sn s) (b : Int) (w : World) : Calls Tryz.prog 29 #[.int .u64 b, .int .i64 s] w fun e w' => e = .returned (.tuple #[.agg #[.int .u64 0, .int .u64 0, .int .i64 0, .int .i64 0], .iface 42 (.int .i64 5)]) ∧ Below w.heap.size w w' := by
 have H := fun W => shapeOf_no h W
 go_enter Tryz.func29, Tryz.ntmps29
 go_wp2_with fail
 refine (H _).mono ?_
 rintro e w1 ⟨rfl, hb⟩
 have T : Hid (FlB w1 w.heap.size _ _ _ _) := (FlB.new w (.int .u64 0) (.int .u64 0) (.int .i64 0) (.int .i64 0) 66).step hb
 have B : Hid (Below w.heap.size w w1) := ((Below.refl _ _).alloc (Nat.le_refl _) _).trans (hb.mono (by simp))
 clear hb
 obtain ⟨l, a0, a1, a2, a3, f0, f1, f2, f3⟩ := T.out
 go_wp2
 exact bodyPost_ret (v := .tuple #[.agg #[.int .u64 0, .int .u64 0, .int .i64 0, .int .i64 0], .iface 42 (.int .i64 5)]) (by simp [results, Tryz.results29, go_sem, World.cell?_setCell_same, World.cell?_setCell_other, World.cell?_alloc_lt, *]) rfl ⟨rfl, (((((B.out).setCell (Nat.le_refl _) _).setCell (Nat.le_refl _) _).setCell (Nat.le_refl _) _).setCell (Nat.le_refl _) _).alloc (by simp; omega) _⟩
theorem shapeFor_big {b : Nat} (h : 4294967296 ≤ b) (w : World) : Calls Tryz.prog 29 #[.int .u64 (b : Int), .int .i64 32] w fun e w' => e = .returned (.tuple #[.agg #[.int .u64 0, .int .u64 0, .int .i64 0, .int .i64 0], .iface 42 (.int .i64 1)]) ∧ Below w.heap.size w w' := by
 have H := fun W => shapeOf_32 W
 have hor : bits BinOp.or IntKind.u64 2147483648 2147483647 = 4294967295 := by decide
 have q : (4294967295 : Int) < (b : Int) := by omega
 go_enter Tryz.func29, Tryz.ntmps29
 go_wp2_with fail
 refine (H _).mono ?_
 rintro e w1 ⟨rfl, hb⟩
 have T : Hid (FlB w1 w.heap.size _ _ _ _) := (FlB.new w (.int .u64 0) (.int .u64 0) (.int .i64 0) (.int .i64 0) 66).step hb
 have B : Hid (Below w.heap.size w w1) := ((Below.refl _ _).alloc (Nat.le_refl _) _).trans (hb.mono (by simp))
 clear hb
 obtain ⟨l, a0, a1, a2, a3, f0, f1, f2, f3⟩ := T.out
 go_wp2
 exact bodyPost_ret (v := .tuple #[.agg #[.int .u64 0, .int .u64 0, .int .i64 0, .int .i64 0], .iface 42 (.int .i64 1)]) (by simp [results, Tryz.results29, go_sem, World.cell?_setCell_same, World.cell?_setCell_other, World.cell?_alloc_lt, *]) rfl ⟨rfl, (((((B.out).setCell (Nat.le_refl _) _).setCell (Nat.le_refl _) _).setCell (Nat.le_refl _) _).setCell (Nat.le_refl _) _).alloc (by simp; omega) _⟩
theorem shapeFor_32 {b : Nat} (h : b < 4294967296) (w : World) : Calls Tryz.prog 29 #[.int .u64 (b : Int), .int .i64 32] w fun e w' => e = .returned (.tuple #[.agg #[.int .u64 2147483648, .int .u64 2139095040, .int .i64 23, .int .i64 (-149)], .nilIface]) ∧ Below w.heap.size w w' := by
 have H := fun W => shapeOf_32 W
 have hor : bits BinOp.or IntKind.u64 2147483648 2147483647 = 4294967295 := by decide
 have q : ¬ (4294967295 : Int) < (b : Int) := by omega
 go_enter Tryz.func29, Tryz.ntmps29
 go_wp2_with fail
 refine (H _).mono ?_
 rintro e w1 ⟨rfl, hb⟩
 have T : Hid (FlB w1 w.heap.size _ _ _ _) := (FlB.new w (.int .u64 0) (.int .u64 0) (.int .i64 0) (.int .i64 0) 66).step hb
 have B : Hid (Below w.heap.size w w1) := ((Below.refl _ _).alloc (Nat.le_refl _) _).trans (hb.mono (by simp))
 clear hb
 obtain ⟨l, a0, a1, a2, a3, f0, f1, f2, f3⟩ := T.out
 go_wp2
 exact bodyPost_ret (v := .tuple #[.agg #[.int .u64 2147483648, .int .u64 2139095040, .int .i64 23, .int .i64 (-149)], .nilIface]) (by simp [results, Tryz.results29, go_sem, World.cell?_setCell_same, World.cell?_setCell_other, World.cell?_alloc_lt, *]) rfl ⟨rfl, (((((B.out).setCell (Nat.le_refl _) _).setCell (Nat.le_refl _) _).setCell (Nat.le_refl _) _).setCell (Nat.le_refl _) _).alloc (by simp; omega) _⟩
theorem shapeFor_64 {b : Nat} (h : b < 18446744073709551616) (w : World) : Calls Tryz.prog 29 #[.int .u64 (b : Int), .int .i64 64] w fun e w' => e = .returned (.tuple #[.agg #[.int .u64 9223372036854775808, .int .u64 9218868437227405312, .int .i64 52, .int .i64 (-1074)], .nilIface]) ∧ Below w.heap.size w w' := by
 have H := fun W => shapeOf_64 W
 have hor : bits BinOp.or IntKind.u64 9223372036854775808 9223372036854775807 = 18446744073709551615 := by decide
 have q : ¬ (18446744073709551615 : Int) < (b : Int) := by omega
 go_enter Tryz.func29, Tryz.ntmps29
 go_wp2_with fail
 refine (H _).mono ?_
 rintro e w1 ⟨rfl, hb⟩
 have T : Hid (FlB w1 w.heap.size _ _ _ _) := (FlB.new w (.int .u64 0) (.int .u64 0) (.int .i64 0) (.int .i64 0) 66).step hb
 have B : Hid (Below w.heap.size w w1) := ((Below.refl _ _).alloc (Nat.le_refl _) _).trans (hb.mono (by simp))
 clear hb
 obtain ⟨l, a0, a1, a2, a3, f0, f1, f2, f3⟩ := T.out
 go_wp2
 exact bodyPost_ret (v := .tuple #[.agg #[.int .u64 9223372036854775808, .int .u64 9218868437227405312, .int .i64 52, .int .i64 (-1074)], .nilIface]) (by simp [results, Tryz.results29, go_sem, World.cell?_setCell_same, World.cell?_setCell_other, World.cell?_alloc_lt, *]) rfl ⟨rfl, (((((B.out).setCell (Nat.le_refl _) _).setCell (Nat.le_refl _) _).setCell (Nat.le_refl _) _).setCell (Nat.le_refl _) _).alloc (by simp; omega) _⟩
theorem unp_no {s : Int} (h : Sn s) (b : Int) (w : World) : Calls Tryz.prog 14 #[.int .u64 b, .int .i64 s] w fun e w' => e = .returned (.tuple #[.agg #[.bool false, .int .i64 0, .int .u64 0, .int .i64 0], .iface 42 (.int .i64 5)]) ∧ Below w.heap.size w w' := by
 have H := fun W => shapeFor_no h b W
 clear h
 go_enter Tryz.func14, Tryz.ntmps14
 go_wp2_with fail
 refine (H _).mono ?_
 rintro e w1 ⟨rfl, hb⟩
 have T : Hid (FlB w1 w.heap.size _ _ _ _) := (FlB.new w (.bool false) (.int .i64 0) (.int .u64 0) (.int .i64 0) 39).step hb
 have B : Hid (Below w.heap.size w w1) := ((Below.refl _ _).alloc (Nat.le_refl _) _).trans (hb.mono (by simp))
 clear hb
 obtain ⟨l, a0, a1, a2, a3, f0, f1, f2, f3⟩ := T.out
 go_wp2
 exact bodyPost_ret (v := .tuple #[.agg #[.bool false, .int .i64 0, .int .u64 0, .int .i64 0], .iface 42 (.int .i64 5)]) (by simp [results, Tryz.results14, go_sem, World.cell?_setCell_same, World.cell?_setCell_other, World.cell?_alloc_lt, *]) rfl ⟨rfl, (((((B.out).setCell (Nat.le_refl _) _).setCell (Nat.le_refl _) _).setCell (Nat.le_refl _) _).setCell (Nat.le_refl _) _).alloc (by simp; omega) _⟩
theorem unp_big {b : Nat} (h : 4294967296 ≤ b) (w : World) : Calls Tryz.prog 14 #[.int .u64 (b : Int), .int .i64 32] w fun e w' => e = .returned (.tuple #[.agg #[.bool false, .int .i64 0, .int .u64 0, .int .i64 0], .iface 42 (.int .i64 1)]) ∧ Below w.heap.size w w' := by
 have H := fun W => shapeFor_big h W
 clear h
 go_enter Tryz.func14, Tryz.ntmps14
 go_wp2_with fail
 refine (H _).mono ?_
 rintro e w1 ⟨rfl, hb⟩
 have T : Hid (FlB w1 w.heap.size _ _ _ _) := (FlB.new w (.bool false) (.int .i64 0) (.int .u64 0) (.int .i64 0) 39).step hb
 have B : Hid (Below w.heap.size w w1) := ((Below.refl _ _).alloc (Nat.le_refl _) _).trans (hb.mono (by simp))
 clear hb
 obtain ⟨l, a0, a1, a2, a3, f0, f1, f2, f3⟩ := T.out
 go_wp2
 exact bodyPost_ret (v := .tuple #[.agg #[.bool false, .int .i64 0, .int .u64 0, .int .i64 0], .iface 42 (.int .i64 1)]) (by simp [results, Tryz.results14, go_sem, World.cell?_setCell_same, World.cell?_setCell_other, World.cell?_alloc_lt, *]) rfl ⟨rfl, (((((B.out).setCell (Nat.le_refl _) _).setCell (Nat.le_refl _) _).setCell (Nat.le_refl _) _).setCell (Nat.le_refl _) _).alloc (by simp; omega) _⟩
theorem unp_32 {b : Nat} (h : b < 4294967296) (w : World) : Calls Tryz.prog 14 #[.int .u64 (b : Int), .int .i64 32] w fun e w' => e = .returned (.tuple #[.agg #[.bool (uN 2147483648 2139095040 b), .int .i64 (cl 2139095040 (mg 2147483648 b)), .int .u64 ((uM 2139095040 23 (mg 2147483648 b) : Nat) : Int), .int .i64 (uE 2139095040 23 (-149) (mg 2147483648 b))], .nilIface]) ∧ Below w.heap.size w w' := by
 have H := fun W => shapeFor_32 h W
 have HU := fun W => unpack_32 h W
 generalize uN 2147483648 2139095040 b = x0 at *
 generalize uM 2139095040 23 (mg 2147483648 b) = x2 at *
 generalize uE 2139095040 23 (-149) (mg 2147483648 b) = x3 at *
 generalize cl 2139095040 (mg 2147483648 b) = x1 at *
 clear h
 go_enter Tryz.func14, Tryz.ntmps14
 go_wp2_with fail
 refine (H _).mono ?_
 rintro e w1 ⟨rfl, hb⟩
 have T : Hid (FlB w1 w.heap.size _ _ _ _) := (FlB.new w (.bool false) (.int .i64 0) (.int .u64 0) (.int .i64 0) 39).step hb
 have B : Hid (Below w.heap.size w w1) := ((Below.refl _ _).alloc (Nat.le_refl _) _).trans (hb.mono (by simp))
 clear hb
 obtain ⟨l, a0, a1, a2, a3, f0, f1, f2, f3⟩ := T.out
 go_wp2_with fail
 refine (HU _).mono ?_
 rintro e w2 ⟨rfl, hb⟩
 have T2 : Hid (FlB w2 w.heap.size _ _ _ _) := (T.out.al _).step hb
 have B2 : Hid (Below w.heap.size w w2) := (B.out.alloc (Nat.le_of_lt l) _).trans (hb.mono (by simp; omega))
 clear hb
 obtain ⟨l2, b0, b1, b2, b3, g0, g1, g2, g3⟩ := T2.out
 go_wp2
 exact bodyPost_ret (v := .tuple #[.agg #[.bool x0, .int .i64 x1, .int .u64 (x2 : Int), .int .i64 x3], .nilIface]) (by simp [results, Tryz.results14, go_sem, World.cell?_setCell_same, World.cell?_setCell_other, *]) rfl ⟨rfl, ((((B2.out).setCell (Nat.le_refl _) _).setCell (Nat.le_refl _) _).setCell (Nat.le_refl _) _).setCell (Nat.le_refl _) _⟩
theorem unp_64 {b : Nat} (h : b < 18446744073709551616) (w : World) : Calls Tryz.prog 14 #[.int .u64 (b : Int), .int .i64 64] w fun e w' => e = .returned (.tuple #[.agg #[.bool (uN 9223372036854775808 9218868437227405312 b), .int .i64 (cl 9218868437227405312 (mg 9223372036854775808 b)), .int .u64 ((uM 9218868437227405312 52 (mg 9223372036854775808 b) : Nat) : Int), .int .i64 (uE 9218868437227405312 52 (-1074) (mg 9223372036854775808 b))], .nilIface]) ∧ Below w.heap.size w w' := by
 have H := fun W => shapeFor_64 h W
 have HU := fun W => unpack_64 h W
 generalize uN 9223372036854775808 9218868437227405312 b = x0 at *
 generalize uM 9218868437227405312 52 (mg 9223372036854775808 b) = x2 at *
 generalize uE 9218868437227405312 52 (-1074) (mg 9223372036854775808 b) = x3 at *
 generalize cl 9218868437227405312 (mg 9223372036854775808 b) = x1 at *
 clear h
 go_enter Tryz.func14, Tryz.ntmps14
 go_wp2_with fail
 refine (H _).mono ?_
 rintro e w1 ⟨rfl, hb⟩
 have T : Hid (FlB w1 w.heap.size _ _ _ _) := (FlB.new w (.bool false) (.int .i64 0) (.int .u64 0) (.int .i64 0) 39).step hb
 have B : Hid (Below w.heap.size w w1) := ((Below.refl _ _).alloc (Nat.le_refl _) _).trans (hb.mono (by simp))
 clear hb
 obtain ⟨l, a0, a1, a2, a3, f0, f1, f2, f3⟩ := T.out
 go_wp2_with fail
 refine (HU _).mono ?_
 rintro e w2 ⟨rfl, hb⟩
 have T2 : Hid (FlB w2 w.heap.size _ _ _ _) := (T.out.al _).step hb
 have B2 : Hid (Below w.heap.size w w2) := (B.out.alloc (Nat.le_of_lt l) _).trans (hb.mono (by simp; omega))
 clear hb
 obtain ⟨l2, b0, b1, b2, b3, g0, g1, g2, g3⟩ := T2.out
 go_wp2
 exact bodyPost_ret (v := .tuple #[.agg #[.bool x0, .int .i64 x1, .int .u64 (x2 : Int), .int .i64 x3], .nilIface]) (by simp [results, Tryz.results14, go_sem, World.cell?_setCell_same, World.cell?_setCell_other, *]) rfl ⟨rfl, ((((B2.out).setCell (Nat.le_refl _) _).setCell (Nat.le_refl _) _).setCell (Nat.le_refl _) _).setCell (Nat.le_refl _) _⟩
theorem bleast_32  (w : World) : Calls Tryz.prog 50 #[.int .i64 32] w fun e w' => e = .returned (.tuple #[.int .u64 1, .nilIface]) ∧ Below w.heap.size w w' := by
 have H := fun W => shapeOf_32 W
 go_enter Tryz.func50, Tryz.ntmps50
 go_wp2_with fail
 refine (H _).mono ?_
 rintro e w1 ⟨rfl, hb⟩
 have B : Hid (Below w.heap.size w w1) := hb
 have l := hb.size
 clear hb
 go_wp2
 go_ret2
 exact ⟨rfl, B.out.alloc l _⟩
theorem bleast_64  (w : World) : Calls Tryz.prog 50 #[.int .i64 64] w fun e w' => e = .returned (.tuple #[.int .u64 1, .nilIface]) ∧ Below w.heap.size w w' := by
 have H := fun W => shapeOf_64 W
 go_enter Tryz.func50, Tryz.ntmps50
 go_wp2_with fail
 refine (H _).mono ?_
 rintro e w1 ⟨rfl, hb⟩
 have B : Hid (Below w.heap.size w w1) := hb
 have l := hb.size
 clear hb
 go_wp2
 go_ret2
 exact ⟨rfl, B.out.alloc l _⟩
def pwV (M : Nat) (E : Int) (X : Bool) : Value := .agg #[.int .u64 (hiW M), .int .u64 (loW M), .int .i64 E, .bool X]
theorem whole_ok (n : Nat) (hn : n ≤ 400) (w : World) (hT : Tab w) :
 Calls Tryz.prog 69 #[.int .i64 (n : Int)] w fun e w' => ∃ M E, e = .returned (pwV M E (decide ((0 : Int) ≤ n ∧ (n : Int) ≤ 55))) ∧ Pw (n : Int) M E ∧ Below w.heap.size w w' := by
 obtain ⟨ov, ho⟩ : ∃ ov, ov = bl (5 ^ n) - 128 := ⟨_, rfl⟩
 obtain ⟨top, ht⟩ : ∃ top, top = 5 ^ n / 2 ^ ov := ⟨_, rfl⟩
 obtain ⟨room, hr⟩ : ∃ room, room = 128 - bl top := ⟨_, rfl⟩
 obtain ⟨t0, t1, t2, m2, pw, ex⟩ := whole_pw ho ht hr
 have hld := ldz_nat t0 t1
 obtain ⟨M, hM⟩ : ∃ M, M = top * 2 ^ room := ⟨_, rfl⟩
 rw [← hM] at m2 pw
 have hsh := shl_of hM m2 (ldz (hiW top) (loW top)) (by rw [hld, hr]; omega)
 have hl := five_bl (n := n)
 have PF := fun W => pof_ok n hn W
 obtain ⟨X, hX⟩ : ∃ X, X = 5 ^ n := ⟨_, rfl⟩
 obtain ⟨L, hL⟩ : ∃ L, L = bl X := ⟨_, rfl⟩
 rw [← hX] at ht ex
 rw [← hX, ← hL] at ho hl
 simp only [← hX, ← hL] at PF
 have HM : Hid (Pw (n : Int) M ((n : Int) + ov - room) ∧ (X % 2 ^ ov = 0 ↔ ((0 : Int) ≤ n ∧ (n : Int) ≤ 55)) ∧ shl (val (hiW top) (loW top)) (ldz (hiW top) (loW top)) = M ∧ top < 2 ^ 128 ∧ top = X / 2 ^ ov) := ⟨pw, ex, hsh, t1, ht⟩
 have hroom : ldz (hiW top) (loW top) = (room : Int) := by rw [hld, hr]; omega
 have HR : Hid (ldz (hiW top) (loW top) = (room : Int)) := hroom
 have hr2 : room ≤ 128 := by omega
 have w1 : Word (hiW top) := hiW_word t1
 have w2 : Word (loW top) := loW_word top
 clear t0 t1 t2 m2 pw ex hld hM hsh ht hr hX hL hroom
 have HO : Hid (ov = L - 128) := ho
 have hov : ov ≤ 2000 := by omega
 clear ho
 have hT0 : Tab (w.alloc (.cells #[.int .u64 0, .int .u64 0, .int .i64 0, .bool false] 46)) := hT.next ((Below.refl _ _).alloc (Nat.le_refl _) _)
 obtain ⟨CB, hCB⟩ : ∃ CB, CB = decide (X % 2 ^ ov ≠ 0) := ⟨_, rfl⟩
 have HC : Hid (CB = decide (X % 2 ^ ov ≠ 0)) := hCB
 clear hCB
 go_enter Tryz.func69, Tryz.ntmps69
 go_wp2_with fail
 refine (PF _).mono ?_
 rintro e wa ⟨va, rfl, na, ba⟩
 have F1 : Hid (FlB wa w.heap.size _ _ _ _) := (FlB.new w (.int .u64 0) (.int .u64 0) (.int .i64 0) (.bool false) 46).step ba
 have B1 : Hid (Below w.heap.size w wa) := ((Below.refl _ _).alloc (Nat.le_refl _) _).trans (ba.mono (by simp))
 have SH := shr_ok (hT0.next ba) na ov (by omega)
 rw [← HC.out, ← HM.out.2.2.2.2] at SH
 clear ba na PF hT0 hT
 go_upto_region 2 with fail
 go_cut [5] (fun s wx => wx = wa ∧ s = .int .i64 (ov : Int))
 case first =>
  by_cases c : 128 < (L : Int)
  · have e : (L : Int) - 128 = (ov : Int) := by have := HO.out; omega
    go_wp2
    all_goals first | (exfalso; omega) | skip
    go_meet
    exact ⟨rfl, rfl⟩
  · go_wp2
    all_goals first | (exfalso; omega) | skip
    go_meet
    exact ⟨rfl, by have := HO.out; rw [show ov = 0 by omega]; rfl⟩
 case rest =>
 obtain ⟨hcw, rfl⟩ := hcut
 subst hcw
 go_wp2_with fail
 refine SH.mono ?_
 rintro e wb ⟨vb, rfl, nb, bb⟩
 have F2 : Hid (FlB wb w.heap.size _ _ _ _) := F1.out.step bb
 have B2 : Hid (Below w.heap.size w wb) := B1.out.trans (bb.mono B1.out.size)
 have NM := number_ok nb HM.out.2.2.2.1
 clear SH F1 B1 nb bb
 go_wp2_with fail
 refine NM.mono ?_
 rintro e wd ⟨rfl, bd⟩
 have F3 : Hid (FlB wd w.heap.size _ _ _ _) := F2.out.step bd
 have B3 : Hid (Below w.heap.size w wd) := B2.out.trans (bd.mono B2.out.size)
 clear NM F2 B2 bd
 have Q3 : Hid (TwB (wd.alloc (.cells #[.int .u64 (hiW top), .int .u64 (loW top)] 44)) wd.heap.size _ _) := TwB.new wd _ _ _
 have LD := fun W => wlead_any (hiW top) (loW top) w1 w2 W
 simp only [HR.out] at LD
 have LF := fun W => wleft_any (hiW top) (loW top) (room : Int) w1 w2 W
 have hsh := HM.out.2.2.1
 rw [HR.out] at hsh
 simp only [hsh] at LF
 clear hsh w1 w2
 generalize hiW top = h at *
 generalize loW top = l at *
 have HX : Hid ((!CB) = decide ((0 : Int) ≤ n ∧ (n : Int) ≤ 55)) := by
  show _ = _
  rw [HC.out]
  by_cases z : X % 2 ^ ov = 0
  · rw [decide_eq_false (by simpa using z), decide_eq_true (HM.out.2.1.1 z)]; rfl
  · rw [decide_eq_true z, decide_eq_false (fun q => z (HM.out.2.1.2 q))]; rfl
 generalize hEX : decide ((0 : Int) ≤ n ∧ (n : Int) ≤ 55) = EX at *
 have l3 : w.heap.size < wd.heap.size := F3.out.lt
 go_wp2_with fail
 refine (LD _).mono ?_
 rintro e we ⟨rfl, be⟩
 have F4 : Hid (FlB we w.heap.size _ _ _ _) := (F3.out.al _).step be
 have Q4 : Hid (TwB we wd.heap.size _ _) := Q3.out.step be
 have B4 : Hid (Below w.heap.size w we) := (B3.out.alloc B3.out.size _).trans (be.mono (by have := B3.out.size; simp; omega))
 clear be F3 Q3 B3 LD
 obtain ⟨_, q0, q1, _, _⟩ := Q4.out
 go_wp2_with fail
 refine (LF _).mono ?_
 rintro e wf ⟨rfl, bf⟩
 have F5 : Hid (FlB wf w.heap.size _ _ _ _) := F4.out.step bf
 have B5 : Hid (Below w.heap.size w wf) := B4.out.trans (bf.mono B4.out.size)
 clear bf F4 Q4 B4 LF q0 q1
 obtain ⟨_, a0, a1, a2, a3, f0, f1, f2, f3⟩ := F5.out
 have HP : Hid (Pw (n : Int) M ((n : Int) + ov - room)) := HM.out.1
 clear HM HR
 go_wp2
 refine bodyPost_ret (v := .agg #[.int .u64 (hiW M), .int .u64 (loW M), .int .i64 ((n : Int) + ov - room), .bool (!CB)]) (by simp [results, Tryz.results69, go_sem, World.cell?_setCell_same, World.cell?_setCell_other, a0, a1, a2, a3]) rfl ⟨M, (n : Int) + ov - room, by rw [hEX, ← HX.out]; rfl, HP.out, (((B5.out.setCell (Nat.le_refl _) _).setCell (Nat.le_refl _) _).setCell (Nat.le_refl _) _).setCell (Nat.le_refl _) _⟩
theorem two_lt {s K : Nat} (h : s < 64 * K) : 1 * 2 ^ s < B ^ K := by
 rw [Nat.one_mul, twoB_pow]
 exact Nat.pow_lt_pow_right (by omega) h
theorem fraction_ok (n : Nat) (n0 : 0 < n) (hn : n ≤ 400) (w : World) (hT : Tab w) :
 Calls Tryz.prog 68 #[.int .i64 (n : Int)] w fun e w' => ∃ M E, e = .returned (pwV M E false) ∧ Pw (-(n : Int)) M E ∧ Below w.heap.size w w' := by
 obtain ⟨sh, hs⟩ : ∃ sh, sh = 127 + bl (5 ^ n) := ⟨_, rfl⟩
 obtain ⟨m2, pw⟩ := fraction_pw n0 hs
 have hl := five_bl (n := n)
 have PF := fun W => pof_ok n hn W
 have x0 : 5 ^ n ≠ 0 := Nat.ne_of_gt (Nat.pow_pos (by omega))
 obtain ⟨X, hX⟩ : ∃ X, X = 5 ^ n := ⟨_, rfl⟩
 obtain ⟨L, hL⟩ : ∃ L, L = bl X := ⟨_, rfl⟩
 rw [← hX, ← hL] at hs hl
 rw [← hX] at x0 m2 pw
 simp only [← hX, ← hL] at PF
 have hs3 : sh < 64 * 128 := by omega
 have O1 := fun W => of_any 1 (by decide) W
 have SL := fun (W : World) (v : Value) (h : NatV W v 1) => shl_ok h sh (two_lt hs3) (by omega)
 simp only [Nat.one_mul] at SL
 have HS : Hid (X ≠ 0 ∧ 2 ^ sh / X < 2 ^ 128 ∧ Pw (-(n : Int)) (2 ^ sh / X) (-(n : Int) - sh)) := ⟨x0, m2, pw⟩
 have HL : Hid (127 + (L : Int) = (sh : Int)) := (by omega : 127 + (L : Int) = (sh : Int))
 have hl2 : L ≤ 1300 := by omega
 have hT0 : Tab (w.alloc (.cells #[.int .u64 0, .int .u64 0, .int .i64 0, .bool false] 46)) := hT.next ((Below.refl _ _).alloc (Nat.le_refl _) _)
 have hsh2 := HL.out
 clear hs hX hL x0 m2 pw hl
 go_enter Tryz.func68, Tryz.ntmps68
 go_wp2_with fail
 refine (PF _).mono ?_
 rintro e wa ⟨va, rfl, na, ba⟩
 have F1 : Hid (FlB wa w.heap.size _ _ _ _) := (FlB.new w (.int .u64 0) (.int .u64 0) (.int .i64 0) (.bool false) 46).step ba
 have B1 : Hid (Below w.heap.size w wa) := ((Below.refl _ _).alloc (Nat.le_refl _) _).trans (ba.mono (by simp))
 have T1 : Hid (Tab wa ∧ NatV wa va X) := ⟨hT0.next ba, na⟩
 clear ba na PF hT0 hT
 go_wp2_with fail
 refine (O1 _).mono ?_
 rintro e wb ⟨vb, rfl, nb, bb⟩
 have F2 : Hid (FlB wb w.heap.size _ _ _ _) := F1.out.step bb
 have B2 : Hid (Below w.heap.size w wb) := B1.out.trans (bb.mono B1.out.size)
 have T2 : Hid (Tab wb ∧ NatV wb va X) := ⟨T1.out.1.next bb, T1.out.2.below bb⟩
 have S2 := SL wb vb nb
 clear SL O1 F1 B1 T1 nb bb
 go_wp2_with fail
 refine S2.mono ?_
 rintro e wc ⟨vc, rfl, nc, bc⟩
 have F3 : Hid (FlB wc w.heap.size _ _ _ _) := F2.out.step bc
 have B3 : Hid (Below w.heap.size w wc) := B2.out.trans (bc.mono B2.out.size)
 have DV := div_ok (T2.out.1.next bc) nc (T2.out.2.below bc) HS.out.1
 clear S2 F2 B2 T2 nc bc
 go_wp2_with fail
 refine DV.mono ?_
 rintro e wd ⟨v1, v2, rfl, n1, n2, bd⟩
 have F4 : Hid (FlB wd w.heap.size _ _ _ _) := F3.out.step bd
 have B4 : Hid (Below w.heap.size w wd) := B3.out.trans (bd.mono B3.out.size)
 have NM := number_ok n1 HS.out.2.1
 have HP : Hid (Pw (-(n : Int)) (2 ^ sh / X) (-(n : Int) - sh)) := HS.out.2.2
 clear DV F3 B3 n1 n2 bd HS
 generalize 2 ^ sh / X = M at *
 go_wp2_with fail
 refine NM.mono ?_
 rintro e we ⟨rfl, be⟩
 have F5 : Hid (FlB we w.heap.size _ _ _ _) := F4.out.step be
 have B5 : Hid (Below w.heap.size w we) := B4.out.trans (be.mono B4.out.size)
 clear NM F4 B4 be
 obtain ⟨_, a0, a1, a2, a3, f0, f1, f2, f3⟩ := F5.out
 go_wp2
 refine bodyPost_ret (v := .agg #[.int .u64 (hiW M), .int .u64 (loW M), .int .i64 (-(n : Int) - sh), .bool false]) (by simp [results, Tryz.results68, go_sem, World.cell?_setCell_same, World.cell?_setCell_other, a0, a1, a2, a3]) rfl ⟨M, -(n : Int) - sh, rfl, HP.out, (((B5.out.setCell (Nat.le_refl _) _).setCell (Nat.le_refl _) _).setCell (Nat.le_refl _) _).setCell (Nat.le_refl _) _⟩
theorem of_yes (x : Int) (h1 : -400 ≤ x) (h2 : x ≤ 400) (w : World) (hT : Tab w) :
 Calls Tryz.prog 33 #[.int .i64 x] w fun e w' => ∃ M E, e = .returned (.tuple #[pwV M E (decide (0 ≤ x ∧ x ≤ 55)), .nilIface]) ∧ Pw x M E ∧ Below w.heap.size w w' := by
 have W := fun y => within_yes x (-400) 400 h1 h2 y
 have hT0 : Tab (w.alloc (.cells #[.int .u64 0, .int .u64 0, .int .i64 0, .bool false] 46)) := hT.next ((Below.refl _ _).alloc (Nat.le_refl _) _)
 by_cases c : x < 0
 · obtain ⟨n, hn⟩ : ∃ n : Nat, -x = (n : Int) := ⟨(-x).toNat, by omega⟩
   have FR := fraction_ok n (by omega) (by omega) _ hT0
   rw [show decide (0 ≤ x ∧ x ≤ 55) = false from decide_eq_false (by omega)]
   have HN : Hid (-(n : Int) = x) := (by omega : -(n : Int) = x)
   rw [HN.out] at FR
   go_enter Tryz.func33, Tryz.ntmps33
   go_wp2_with fail
   refine (W _).mono ?_
   rintro e w1 ⟨rfl, hw1⟩
   subst hw1
   go_wp2_with fail
   refine FR.mono ?_
   rintro e w2 ⟨M, E, rfl, pw, b2⟩
   have F2 : Hid (FlB w2 w.heap.size _ _ _ _) := (FlB.new w (.int .u64 0) (.int .u64 0) (.int .i64 0) (.bool false) 46).step b2
   have B2 : Hid (Below w.heap.size w w2) := ((Below.refl _ _).alloc (Nat.le_refl _) _).trans (b2.mono (by simp))
   have HP : Hid (Pw x M E) := pw
   clear pw b2 FR W hT hT0
   obtain ⟨_, a0, a1, a2, a3, f0, f1, f2, f3⟩ := F2.out
   unfold pwV
   go_wp2
   refine bodyPost_ret (v := .tuple #[.agg #[.int .u64 (hiW M), .int .u64 (loW M), .int .i64 E, .bool false], .nilIface]) (by simp [results, Tryz.results33, go_sem, World.cell?_setCell_same, World.cell?_setCell_other, a0, a1, a2, a3]) rfl ⟨M, E, rfl, HP.out, (((B2.out.setCell (Nat.le_refl _) _).setCell (Nat.le_refl _) _).setCell (Nat.le_refl _) _).setCell (Nat.le_refl _) _⟩
 · obtain ⟨n, hn⟩ : ∃ n : Nat, x = (n : Int) := ⟨x.toNat, by omega⟩
   subst hn
   have WH := whole_ok n (by omega) _ hT0
   obtain ⟨EX, hEX⟩ : ∃ EX, EX = decide ((0 : Int) ≤ n ∧ (n : Int) ≤ 55) := ⟨_, rfl⟩
   rw [← hEX] at WH ⊢
   clear hEX
   go_enter Tryz.func33, Tryz.ntmps33
   go_wp2_with fail
   refine (W _).mono ?_
   rintro e w1 ⟨rfl, hw1⟩
   subst hw1
   go_wp2_with fail
   refine WH.mono ?_
   rintro e w2 ⟨M, E, rfl, pw, b2⟩
   have F2 : Hid (FlB w2 w.heap.size _ _ _ _) := (FlB.new w (.int .u64 0) (.int .u64 0) (.int .i64 0) (.bool false) 46).step b2
   have B2 : Hid (Below w.heap.size w w2) := ((Below.refl _ _).alloc (Nat.le_refl _) _).trans (b2.mono (by simp))
   have HP : Hid (Pw (n : Int) M E) := pw
   clear pw b2 WH W hT hT0
   obtain ⟨_, a0, a1, a2, a3, f0, f1, f2, f3⟩ := F2.out
   unfold pwV
   go_wp2
   refine bodyPost_ret (v := .tuple #[.agg #[.int .u64 (hiW M), .int .u64 (loW M), .int .i64 E, .bool EX], .nilIface]) (by simp [results, Tryz.results33, go_sem, World.cell?_setCell_same, World.cell?_setCell_other, a0, a1, a2, a3]) rfl ⟨M, E, rfl, HP.out, (((B2.out.setCell (Nat.le_refl _) _).setCell (Nat.le_refl _) _).setCell (Nat.le_refl _) _).setCell (Nat.le_refl _) _⟩
end Go.Proofs.YtjagnfddmlkalaaGreatDoor
