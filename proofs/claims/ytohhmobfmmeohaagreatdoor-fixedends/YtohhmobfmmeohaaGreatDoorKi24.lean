/-
  Holds: VBtB VBtC VBtD.
-/
import Derived.Laws.BitsAllLaws
import Derived.Test.YtohhmobfmmeohaaGreatDoorRows
import Derived.WalkKit
import Derived.BigQuiet
import Derived.Deep.RegionHeld3
import Derived.Deep.DeepCutAuto
import Derived.WalkSpells
import Derived.WalkLawsBesides
import Derived.Lib.Mul64
import Derived.Test.YtohhmobfmmeohaaGreatDoorKi4
import Derived.Test.YtohhmobfmmeohaaGreatDoorKi23
set_option maxRecDepth 100000
set_option maxHeartbeats 4000000
namespace Go.Proofs.YtohhmobfmmeohaaGreatDoor
open Go.RowKit
structure FlB (W : World) (K : Nat) (a b c d : Value) : Prop where
 lt : K < W.heap.size
 a0 : W.cell? ⟨K, 0, none⟩ = some a
 a1 : W.cell? ⟨K, 1, none⟩ = some b
 a2 : W.cell? ⟨K, 2, none⟩ = some c
 a3 : W.cell? ⟨K, 3, none⟩ = some d
 f0 : W.frozen? ⟨K, 0, none⟩ = false
 f1 : W.frozen? ⟨K, 1, none⟩ = false
 f2 : W.frozen? ⟨K, 2, none⟩ = false
 f3 : W.frozen? ⟨K, 3, none⟩ = false
theorem FlB.step {W W' : World} {K : Nat} {a b c d : Value} (h : FlB W K a b c d) (hb : Below W.heap.size W W') : FlB W' K a b c d := by
 have k := fun o => hb.cell (p := ⟨K, o, none⟩) h.lt
 have j := fun o => hb.frozen (p := ⟨K, o, none⟩) h.lt
 exact ⟨Nat.lt_of_lt_of_le h.lt hb.size, (k 0).trans h.a0, (k 1).trans h.a1, (k 2).trans h.a2, (k 3).trans h.a3, (j 0).trans h.f0, (j 1).trans h.f1, (j 2).trans h.f2, (j 3).trans h.f3⟩
theorem FlB.new (W : World) (a b c d : Value) (T : TypeId) : FlB (W.alloc (.cells #[a, b, c, d] T)) W.heap.size a b c d :=
 ⟨by simp, by simp, by simp, by simp, by simp, World.frozen?_alloc_new _ _ _ _, World.frozen?_alloc_new _ _ _ _, World.frozen?_alloc_new _ _ _ _, World.frozen?_alloc_new _ _ _ _⟩
theorem FlB.newAt (W : World) (a b c d : Value) (T : TypeId) {K : Nat} (h : K = W.heap.size) : FlB (W.alloc (.cells #[a, b, c, d] T)) K a b c d := by
 subst h; exact FlB.new W a b c d T
theorem FlB.drew {W : World} {K : Nat} {a b c d : Value} (h : FlB W K a b c d) : FlB W.drew K a b c d := h.step (Below.refl _ _).drew
theorem FlB.al {W : World} {K : Nat} {a b c d : Value} (h : FlB W K a b c d) (o : Obj) : FlB (W.alloc o) K a b c d := h.step ((Below.refl _ _).alloc (Nat.le_refl _) _)
theorem FlB.far {W : World} {K : Nat} {a b c d : Value} (h : FlB W K a b c d) (p : Addr) (v : Value) (n : K ≠ p.block) : FlB (W.setCell p v) K a b c d := by
 have e : (W.setCell p v).heap[K]? = W.heap[K]? := Below.heap_setCell W p v K n
 have k := fun o => World.cell?_of_block (w := W) (w' := W.setCell p v) (a := ⟨K, o, none⟩) e
 have j := fun o => World.frozen?_of_block (w := W) (w' := W.setCell p v) (a := ⟨K, o, none⟩) e
 have z : K < (W.setCell p v).heap.size := by simpa using h.lt
 exact ⟨z, (k 0).trans h.a0, (k 1).trans h.a1, (k 2).trans h.a2, (k 3).trans h.a3, (j 0).trans h.f0, (j 1).trans h.f1, (j 2).trans h.f2, (j 3).trans h.f3⟩
theorem FlB.set0 {W : World} {K : Nat} {a b c d : Value} (h : FlB W K a b c d) (v : Value) : FlB (W.setCell ⟨K, 0, none⟩ v) K v b c d := by
 obtain ⟨z, a0, a1, a2, a3, f0, f1, f2, f3⟩ := h
 exact ⟨by simpa using z, World.cell?_setCell_same _ _ _ a0, (World.cell?_setCell_other _ ⟨K, 0, none⟩ ⟨K, 1, none⟩ v (by intro e; cases e)).trans a1, (World.cell?_setCell_other _ ⟨K, 0, none⟩ ⟨K, 2, none⟩ v (by intro e; cases e)).trans a2, (World.cell?_setCell_other _ ⟨K, 0, none⟩ ⟨K, 3, none⟩ v (by intro e; cases e)).trans a3, (World.frozen?_setCell ..).trans f0, (World.frozen?_setCell ..).trans f1, (World.frozen?_setCell ..).trans f2, (World.frozen?_setCell ..).trans f3⟩
theorem FlB.set1 {W : World} {K : Nat} {a b c d : Value} (h : FlB W K a b c d) (v : Value) : FlB (W.setCell ⟨K, 1, none⟩ v) K a v c d := by
 obtain ⟨z, a0, a1, a2, a3, f0, f1, f2, f3⟩ := h
 exact ⟨by simpa using z, (World.cell?_setCell_other _ ⟨K, 1, none⟩ ⟨K, 0, none⟩ v (by intro e; cases e)).trans a0, World.cell?_setCell_same _ _ _ a1, (World.cell?_setCell_other _ ⟨K, 1, none⟩ ⟨K, 2, none⟩ v (by intro e; cases e)).trans a2, (World.cell?_setCell_other _ ⟨K, 1, none⟩ ⟨K, 3, none⟩ v (by intro e; cases e)).trans a3, (World.frozen?_setCell ..).trans f0, (World.frozen?_setCell ..).trans f1, (World.frozen?_setCell ..).trans f2, (World.frozen?_setCell ..).trans f3⟩
theorem FlB.set2 {W : World} {K : Nat} {a b c d : Value} (h : FlB W K a b c d) (v : Value) : FlB (W.setCell ⟨K, 2, none⟩ v) K a b v d := by
 obtain ⟨z, a0, a1, a2, a3, f0, f1, f2, f3⟩ := h
 exact ⟨by simpa using z, (World.cell?_setCell_other _ ⟨K, 2, none⟩ ⟨K, 0, none⟩ v (by intro e; cases e)).trans a0, (World.cell?_setCell_other _ ⟨K, 2, none⟩ ⟨K, 1, none⟩ v (by intro e; cases e)).trans a1, World.cell?_setCell_same _ _ _ a2, (World.cell?_setCell_other _ ⟨K, 2, none⟩ ⟨K, 3, none⟩ v (by intro e; cases e)).trans a3, (World.frozen?_setCell ..).trans f0, (World.frozen?_setCell ..).trans f1, (World.frozen?_setCell ..).trans f2, (World.frozen?_setCell ..).trans f3⟩
theorem FlB.set3 {W : World} {K : Nat} {a b c d : Value} (h : FlB W K a b c d) (v : Value) : FlB (W.setCell ⟨K, 3, none⟩ v) K a b c v := by
 obtain ⟨z, a0, a1, a2, a3, f0, f1, f2, f3⟩ := h
 exact ⟨by simpa using z, (World.cell?_setCell_other _ ⟨K, 3, none⟩ ⟨K, 0, none⟩ v (by intro e; cases e)).trans a0, (World.cell?_setCell_other _ ⟨K, 3, none⟩ ⟨K, 1, none⟩ v (by intro e; cases e)).trans a1, (World.cell?_setCell_other _ ⟨K, 3, none⟩ ⟨K, 2, none⟩ v (by intro e; cases e)).trans a2, World.cell?_setCell_same _ _ _ a3, (World.frozen?_setCell ..).trans f0, (World.frozen?_setCell ..).trans f1, (World.frozen?_setCell ..).trans f2, (World.frozen?_setCell ..).trans f3⟩
theorem unpack_32 {b : Nat} (h : b < 4294967296) (w : World) : Calls Tryz.prog 80 #[.agg #[.int .u64 2147483648, .int .u64 2139095040, .int .i64 23, .int .i64 (-149)], .int .u64 (b : Int)] w fun e w' => e = .returned (.agg #[.bool (uN 2147483648 2139095040 b), .int .i64 (cl 2139095040 (mg 2147483648 b)), .int .u64 ((uM 2139095040 23 (mg 2147483648 b) : Nat) : Int), .int .i64 (uE 2139095040 23 (-149) (mg 2147483648 b))]) ∧ Below w.heap.size w w' := by
 have HN := fun W => negative_32 h W
 have HC := fun W => class_32 h W
 have HM := fun W => magnitude_32 h W
 have hl := mg_lt (g := 2147483648) (by decide) b
 have HF := fun W => fine_32 hl W
 unfold uN uM uE
 generalize mg 2147483648 b = x at *
 generalize ng 2147483648 b = c at *
 generalize mt 23 x = M at *
 generalize xp 23 (-149) x = X at *
 have HQ : Hid (cl 2139095040 x = 1 ∨ cl 2139095040 x = 2 ∨ cl 2139095040 x = 3 ∨ cl 2139095040 x = 4) := by
  rcases cl_cases 2139095040 x with ⟨_, q⟩ | ⟨_, _, q⟩ | ⟨_, _, q⟩ | ⟨_, q⟩
  · exact .inl q
  · exact .inr (.inl q)
  · exact .inr (.inr (.inl q))
  · exact .inr (.inr (.inr q))
 generalize cl 2139095040 x = C at *
 have H1 : Hid (FlB ((w.alloc (.cells #[.int .u64 2147483648, .int .u64 2139095040, .int .i64 23, .int .i64 (-149)] 113)).alloc (.cells #[.bool false, .int .i64 0, .int .u64 0, .int .i64 0] 63)) w.heap.size _ _ _ _) := (FlB.new w _ _ _ _ _).al _
 have H2 : Hid (FlB ((w.alloc (.cells #[.int .u64 2147483648, .int .u64 2139095040, .int .i64 23, .int .i64 (-149)] 113)).alloc (.cells #[.bool false, .int .i64 0, .int .u64 0, .int .i64 0] 63)) (w.heap.size + 1) _ _ _ _) := FlB.newAt _ _ _ _ _ _ (by simp)
 have HB : Hid (Below w.heap.size w ((w.alloc (.cells #[.int .u64 2147483648, .int .u64 2139095040, .int .i64 23, .int .i64 (-149)] 113)).alloc (.cells #[.bool false, .int .i64 0, .int .u64 0, .int .i64 0] 63))) := ((Below.refl _ _).alloc (Nat.le_refl _) _).alloc (by simp) _
 go_enter Tryz.func80, Tryz.ntmps80
 go_upto_region 1 with fail
 go_cut [5] (fun p wx => ∃ K, p = .pointer (some ⟨K, 0, none⟩) ∧ w.heap.size + 2 ≤ K ∧ Below w.heap.size w wx ∧ FlB wx w.heap.size (.int .u64 2147483648) (.int .u64 2139095040) (.int .i64 23) (.int .i64 (-149)) ∧ FlB wx (w.heap.size + 1) (.bool false) (.int .i64 0) (.int .u64 0) (.int .i64 0) ∧ FlB wx K (.bool c) (.int .i64 C) (.int .u64 0) (.int .i64 0))
 case first =>
  go_region_held3 (fun w' => w'.cell? ⟨w.heap.size, 0, none⟩ = some (.int .u64 2147483648) ∧ w'.cell? ⟨w.heap.size, 1, none⟩ = some (.int .u64 2139095040) ∧ w'.cell? ⟨w.heap.size, 2, none⟩ = some (.int .i64 23) ∧ w'.cell? ⟨w.heap.size, 3, none⟩ = some (.int .i64 (-149))) (simp [*, go_sem, World.cell?_alloc_lt])
   (first
    | (go_at_call 101; refine (HN _).mono ?_; rintro x1 w2 ⟨rfl, hb2⟩; obtain ⟨hc2, hf2⟩ := bcell hb2; have hz2 := hb2.size; (try simp at hz2); have y2 : w.heap.size < w2.heap.size := (by omega); have v2 : w.heap.size + 1 < w2.heap.size := (by omega); (first | (have u2 : w.heap.size + 1 + 1 < w2.heap.size := (by omega)) | skip); have HB2 : Hid (Below _ _ _) := hb2; clear hb2)
    | (go_at_call 102; refine (HC _).mono ?_; rintro x2 w3 ⟨rfl, hb3⟩; obtain ⟨hc3, hf3⟩ := bcell hb3; have hz3 := hb3.size; (try simp at hz3); have y3 : w.heap.size < w3.heap.size := (by omega); have v3 : w.heap.size + 1 < w3.heap.size := (by omega); have HB3 : Hid (Below _ _ _) := hb3; clear hb3))
  all_goals
   go_wp2_with fail
   go_meet
   first
    | exact ⟨w3.heap.size, rfl, by omega, (HB.out.drew.trans (HB2.out.mono (by simp; omega))).trans (HB3.out.mono (by omega)) |>.alloc (by omega) _, ((H1.out.drew.step HB2.out).step HB3.out).al _, ((H2.out.drew.step HB2.out).step HB3.out).al _, FlB.new _ _ _ _ _ _⟩
    | exact ⟨w2.heap.size, rfl, by omega, ((((((HB.out.drew.trans (HB2.out.mono (by simp; omega))).alloc (by omega) _).trans (HB3.out.mono (by simp; omega))).setCell (by show w.heap.size ≤ w2.heap.size; omega) _).setCell (by show w.heap.size ≤ w2.heap.size; omega) _).setCell (by show w.heap.size ≤ w2.heap.size; omega) _).setCell (by show w.heap.size ≤ w2.heap.size; omega) _, (((((H1.out.drew.step HB2.out).al _).step HB3.out).far _ _ (by show w.heap.size ≠ w2.heap.size; omega)).far _ _ (by show w.heap.size ≠ w2.heap.size; omega)).far _ _ (by show w.heap.size ≠ w2.heap.size; omega) |>.far _ _ (by show w.heap.size ≠ w2.heap.size; omega), (((((H2.out.drew.step HB2.out).al _).step HB3.out).far _ _ (by show w.heap.size + 1 ≠ w2.heap.size; omega)).far _ _ (by show w.heap.size + 1 ≠ w2.heap.size; omega)).far _ _ (by show w.heap.size + 1 ≠ w2.heap.size; omega) |>.far _ _ (by show w.heap.size + 1 ≠ w2.heap.size; omega), (((((FlB.new _ _ _ _ _ _).step HB3.out).set0 _).set1 _).set2 _).set3 _⟩
    | exact ⟨w.heap.size + 1 + 1, rfl, by omega, (((((HB.out.alloc (by simp; omega) _).drew.trans (HB2.out.mono (by simp; omega))).trans (HB3.out.mono (by omega))).setCell (by show w.heap.size ≤ w.heap.size + 1 + 1; omega) _).setCell (by show w.heap.size ≤ w.heap.size + 1 + 1; omega) _).setCell (by show w.heap.size ≤ w.heap.size + 1 + 1; omega) _ |>.setCell (by show w.heap.size ≤ w.heap.size + 1 + 1; omega) _, (((((H1.out.al _).drew.step HB2.out).step HB3.out).far _ _ (by show w.heap.size ≠ w.heap.size + 1 + 1; omega)).far _ _ (by show w.heap.size ≠ w.heap.size + 1 + 1; omega)).far _ _ (by show w.heap.size ≠ w.heap.size + 1 + 1; omega) |>.far _ _ (by show w.heap.size ≠ w.heap.size + 1 + 1; omega), (((((H2.out.al _).drew.step HB2.out).step HB3.out).far _ _ (by show w.heap.size + 1 ≠ w.heap.size + 1 + 1; omega)).far _ _ (by show w.heap.size + 1 ≠ w.heap.size + 1 + 1; omega)).far _ _ (by show w.heap.size + 1 ≠ w.heap.size + 1 + 1; omega) |>.far _ _ (by show w.heap.size + 1 ≠ w.heap.size + 1 + 1; omega), ((((((FlB.newAt _ _ _ _ _ _ (by simp)).drew.step HB2.out).step HB3.out).set0 _).set1 _).set2 _).set3 _⟩
 case rest =>
  clear H1 H2 HB HN HC
  obtain ⟨K, rfl, hK, bl, h1, h2, h3⟩ := hcut
  have BL : Hid (Below w.heap.size w wc) := bl
  have H1 : Hid (FlB _ _ _ _ _ _) := h1
  have H2 : Hid (FlB _ _ _ _ _ _) := h2
  have H3 : Hid (FlB _ _ _ _ _ _) := h3
  obtain ⟨l1, a0, a1, a2, a3, _, _, _, _⟩ := h1
  obtain ⟨l2, b0, b1, b2, b3, e0, e1, e2, e3⟩ := h2
  obtain ⟨l3, c0, c1, c2, c3, g0, g1, g2, g3⟩ := h3
  have n1 : ¬ K = w.heap.size + 1 := by omega
  have n2 : ¬ w.heap.size + 1 = K := by omega
  have n3 : ¬ K = w.heap.size := by omega
  have n4 : ¬ w.heap.size = K := by omega
  clear bl
  rcases HQ.out with q | q | q | q
  · subst q
    go_wp2
    refine bodyPost_ret (v := .agg #[.bool c, .int .i64 1, .int .u64 0, .int .i64 0]) (by simp [results, Tryz.results80, go_sem, World.cell?_setCell_same, World.cell?_setCell_other, *]) rfl ⟨rfl, ?_⟩
    exact (((BL.out.setCell (by show w.heap.size ≤ w.heap.size + 1; omega) _).setCell (by show w.heap.size ≤ w.heap.size + 1; omega) _).setCell (by show w.heap.size ≤ w.heap.size + 1; omega) _).setCell (by show w.heap.size ≤ w.heap.size + 1; omega) _
  · subst q
    go_wp2
    go_region_held3 (fun w' => w'.cell? ⟨w.heap.size, 0, none⟩ = some (.int .u64 2147483648) ∧ w'.cell? ⟨w.heap.size, 1, none⟩ = some (.int .u64 2139095040) ∧ w'.cell? ⟨w.heap.size, 2, none⟩ = some (.int .i64 23) ∧ w'.cell? ⟨w.heap.size, 3, none⟩ = some (.int .i64 (-149))) (simp [*, go_sem])
     (first
      | (go_at_call 104; refine (HM _).mono ?_; rintro x1 w4 ⟨rfl, hb4⟩; have H14 : Hid (FlB _ _ _ _ _ _) := H1.out.drew.step hb4; have H24 : Hid (FlB _ _ _ _ _ _) := H2.out.drew.step hb4; have H34 : Hid (FlB _ _ _ _ _ _) := H3.out.drew.step hb4; have B4 : Hid (Below w.heap.size w w4) := BL.out.drew.trans (hb4.mono (Nat.le_of_lt l1)); clear hb4; obtain ⟨l14, a04, a14, a24, a34, _, _, _, _⟩ := H14.out)
      | (go_at_call 103; refine (HF _).mono ?_; rintro x2 w5 ⟨rfl, hb5⟩; have H15 : Hid (FlB _ _ _ _ _ _) := H14.out.step hb5; have H25 : Hid (FlB _ _ _ _ _ _) := H24.out.step hb5; have H35 : Hid (FlB _ _ _ _ _ _) := H34.out.step hb5; have B5 : Hid (Below w.heap.size w w5) := B4.out.trans (hb5.mono (Nat.le_of_lt l14)); clear hb5; obtain ⟨l15, a05, a15, a25, a35, _, _, _, _⟩ := H15.out; obtain ⟨l25, b05, b15, b25, b35, e05, e15, e25, e35⟩ := H25.out; obtain ⟨l35, c05, c15, c25, c35, g05, g15, g25, g35⟩ := H35.out))
    all_goals
     go_wp2
     refine bodyPost_ret (v := .agg #[.bool c, .int .i64 2, .int .u64 (M : Int), .int .i64 X]) (by simp [results, Tryz.results80, go_sem, World.cell?_setCell_same, World.cell?_setCell_other, *]) rfl ⟨rfl, ?_⟩
     exact ((((((((((((B5.out).setCell (by show w.heap.size ≤ K; omega) _)).setCell (by show w.heap.size ≤ K; omega) _)).setCell (by show w.heap.size ≤ w.heap.size + 1; omega) _)).setCell (by show w.heap.size ≤ w.heap.size + 1; omega) _)).setCell (by show w.heap.size ≤ w.heap.size + 1; omega) _)).setCell (by show w.heap.size ≤ w.heap.size + 1; omega) _)
  · subst q
    go_wp2
    refine bodyPost_ret (v := .agg #[.bool c, .int .i64 3, .int .u64 0, .int .i64 0]) (by simp [results, Tryz.results80, go_sem, World.cell?_setCell_same, World.cell?_setCell_other, *]) rfl ⟨rfl, ?_⟩
    exact ((((((((BL.out).setCell (by show w.heap.size ≤ w.heap.size + 1; omega) _)).setCell (by show w.heap.size ≤ w.heap.size + 1; omega) _)).setCell (by show w.heap.size ≤ w.heap.size + 1; omega) _)).setCell (by show w.heap.size ≤ w.heap.size + 1; omega) _)
  · subst q
    go_wp2
    refine bodyPost_ret (v := .agg #[.bool false, .int .i64 4, .int .u64 0, .int .i64 0]) (by simp [results, Tryz.results80, go_sem, World.cell?_setCell_same, World.cell?_setCell_other, *]) rfl ⟨rfl, ?_⟩
    exact ((((((((((BL.out).setCell (by show w.heap.size ≤ K; omega) _)).setCell (by show w.heap.size ≤ w.heap.size + 1; omega) _)).setCell (by show w.heap.size ≤ w.heap.size + 1; omega) _)).setCell (by show w.heap.size ≤ w.heap.size + 1; omega) _)).setCell (by show w.heap.size ≤ w.heap.size + 1; omega) _)
theorem unpack_64 {b : Nat} (h : b < 18446744073709551616) (w : World) : Calls Tryz.prog 80 #[.agg #[.int .u64 9223372036854775808, .int .u64 9218868437227405312, .int .i64 52, .int .i64 (-1074)], .int .u64 (b : Int)] w fun e w' => e = .returned (.agg #[.bool (uN 9223372036854775808 9218868437227405312 b), .int .i64 (cl 9218868437227405312 (mg 9223372036854775808 b)), .int .u64 ((uM 9218868437227405312 52 (mg 9223372036854775808 b) : Nat) : Int), .int .i64 (uE 9218868437227405312 52 (-1074) (mg 9223372036854775808 b))]) ∧ Below w.heap.size w w' := by
 have HN := fun W => negative_64 h W
 have HC := fun W => class_64 h W
 have HM := fun W => magnitude_64 h W
 have hl := mg_lt (g := 9223372036854775808) (by decide) b
 have HF := fun W => fine_64 hl W
 unfold uN uM uE
 generalize mg 9223372036854775808 b = x at *
 generalize ng 9223372036854775808 b = c at *
 generalize mt 52 x = M at *
 generalize xp 52 (-1074) x = X at *
 have HQ : Hid (cl 9218868437227405312 x = 1 ∨ cl 9218868437227405312 x = 2 ∨ cl 9218868437227405312 x = 3 ∨ cl 9218868437227405312 x = 4) := by
  rcases cl_cases 9218868437227405312 x with ⟨_, q⟩ | ⟨_, _, q⟩ | ⟨_, _, q⟩ | ⟨_, q⟩
  · exact .inl q
  · exact .inr (.inl q)
  · exact .inr (.inr (.inl q))
  · exact .inr (.inr (.inr q))
 generalize cl 9218868437227405312 x = C at *
 have H1 : Hid (FlB ((w.alloc (.cells #[.int .u64 9223372036854775808, .int .u64 9218868437227405312, .int .i64 52, .int .i64 (-1074)] 113)).alloc (.cells #[.bool false, .int .i64 0, .int .u64 0, .int .i64 0] 63)) w.heap.size _ _ _ _) := (FlB.new w _ _ _ _ _).al _
 have H2 : Hid (FlB ((w.alloc (.cells #[.int .u64 9223372036854775808, .int .u64 9218868437227405312, .int .i64 52, .int .i64 (-1074)] 113)).alloc (.cells #[.bool false, .int .i64 0, .int .u64 0, .int .i64 0] 63)) (w.heap.size + 1) _ _ _ _) := FlB.newAt _ _ _ _ _ _ (by simp)
 have HB : Hid (Below w.heap.size w ((w.alloc (.cells #[.int .u64 9223372036854775808, .int .u64 9218868437227405312, .int .i64 52, .int .i64 (-1074)] 113)).alloc (.cells #[.bool false, .int .i64 0, .int .u64 0, .int .i64 0] 63))) := ((Below.refl _ _).alloc (Nat.le_refl _) _).alloc (by simp) _
 go_enter Tryz.func80, Tryz.ntmps80
 go_upto_region 1 with fail
 go_cut [5] (fun p wx => ∃ K, p = .pointer (some ⟨K, 0, none⟩) ∧ w.heap.size + 2 ≤ K ∧ Below w.heap.size w wx ∧ FlB wx w.heap.size (.int .u64 9223372036854775808) (.int .u64 9218868437227405312) (.int .i64 52) (.int .i64 (-1074)) ∧ FlB wx (w.heap.size + 1) (.bool false) (.int .i64 0) (.int .u64 0) (.int .i64 0) ∧ FlB wx K (.bool c) (.int .i64 C) (.int .u64 0) (.int .i64 0))
 case first =>
  go_region_held3 (fun w' => w'.cell? ⟨w.heap.size, 0, none⟩ = some (.int .u64 9223372036854775808) ∧ w'.cell? ⟨w.heap.size, 1, none⟩ = some (.int .u64 9218868437227405312) ∧ w'.cell? ⟨w.heap.size, 2, none⟩ = some (.int .i64 52) ∧ w'.cell? ⟨w.heap.size, 3, none⟩ = some (.int .i64 (-1074))) (simp [*, go_sem, World.cell?_alloc_lt])
   (first
    | (go_at_call 101; refine (HN _).mono ?_; rintro x1 w2 ⟨rfl, hb2⟩; obtain ⟨hc2, hf2⟩ := bcell hb2; have hz2 := hb2.size; (try simp at hz2); have y2 : w.heap.size < w2.heap.size := (by omega); have v2 : w.heap.size + 1 < w2.heap.size := (by omega); (first | (have u2 : w.heap.size + 1 + 1 < w2.heap.size := (by omega)) | skip); have HB2 : Hid (Below _ _ _) := hb2; clear hb2)
    | (go_at_call 102; refine (HC _).mono ?_; rintro x2 w3 ⟨rfl, hb3⟩; obtain ⟨hc3, hf3⟩ := bcell hb3; have hz3 := hb3.size; (try simp at hz3); have y3 : w.heap.size < w3.heap.size := (by omega); have v3 : w.heap.size + 1 < w3.heap.size := (by omega); have HB3 : Hid (Below _ _ _) := hb3; clear hb3))
  all_goals
   go_wp2_with fail
   go_meet
   first
    | exact ⟨w3.heap.size, rfl, by omega, (HB.out.drew.trans (HB2.out.mono (by simp; omega))).trans (HB3.out.mono (by omega)) |>.alloc (by omega) _, ((H1.out.drew.step HB2.out).step HB3.out).al _, ((H2.out.drew.step HB2.out).step HB3.out).al _, FlB.new _ _ _ _ _ _⟩
    | exact ⟨w2.heap.size, rfl, by omega, ((((((HB.out.drew.trans (HB2.out.mono (by simp; omega))).alloc (by omega) _).trans (HB3.out.mono (by simp; omega))).setCell (by show w.heap.size ≤ w2.heap.size; omega) _).setCell (by show w.heap.size ≤ w2.heap.size; omega) _).setCell (by show w.heap.size ≤ w2.heap.size; omega) _).setCell (by show w.heap.size ≤ w2.heap.size; omega) _, (((((H1.out.drew.step HB2.out).al _).step HB3.out).far _ _ (by show w.heap.size ≠ w2.heap.size; omega)).far _ _ (by show w.heap.size ≠ w2.heap.size; omega)).far _ _ (by show w.heap.size ≠ w2.heap.size; omega) |>.far _ _ (by show w.heap.size ≠ w2.heap.size; omega), (((((H2.out.drew.step HB2.out).al _).step HB3.out).far _ _ (by show w.heap.size + 1 ≠ w2.heap.size; omega)).far _ _ (by show w.heap.size + 1 ≠ w2.heap.size; omega)).far _ _ (by show w.heap.size + 1 ≠ w2.heap.size; omega) |>.far _ _ (by show w.heap.size + 1 ≠ w2.heap.size; omega), (((((FlB.new _ _ _ _ _ _).step HB3.out).set0 _).set1 _).set2 _).set3 _⟩
    | exact ⟨w.heap.size + 1 + 1, rfl, by omega, (((((HB.out.alloc (by simp; omega) _).drew.trans (HB2.out.mono (by simp; omega))).trans (HB3.out.mono (by omega))).setCell (by show w.heap.size ≤ w.heap.size + 1 + 1; omega) _).setCell (by show w.heap.size ≤ w.heap.size + 1 + 1; omega) _).setCell (by show w.heap.size ≤ w.heap.size + 1 + 1; omega) _ |>.setCell (by show w.heap.size ≤ w.heap.size + 1 + 1; omega) _, (((((H1.out.al _).drew.step HB2.out).step HB3.out).far _ _ (by show w.heap.size ≠ w.heap.size + 1 + 1; omega)).far _ _ (by show w.heap.size ≠ w.heap.size + 1 + 1; omega)).far _ _ (by show w.heap.size ≠ w.heap.size + 1 + 1; omega) |>.far _ _ (by show w.heap.size ≠ w.heap.size + 1 + 1; omega), (((((H2.out.al _).drew.step HB2.out).step HB3.out).far _ _ (by show w.heap.size + 1 ≠ w.heap.size + 1 + 1; omega)).far _ _ (by show w.heap.size + 1 ≠ w.heap.size + 1 + 1; omega)).far _ _ (by show w.heap.size + 1 ≠ w.heap.size + 1 + 1; omega) |>.far _ _ (by show w.heap.size + 1 ≠ w.heap.size + 1 + 1; omega), ((((((FlB.newAt _ _ _ _ _ _ (by simp)).drew.step HB2.out).step HB3.out).set0 _).set1 _).set2 _).set3 _⟩
 case rest =>
  clear H1 H2 HB HN HC
  obtain ⟨K, rfl, hK, bl, h1, h2, h3⟩ := hcut
  have BL : Hid (Below w.heap.size w wc) := bl
  have H1 : Hid (FlB _ _ _ _ _ _) := h1
  have H2 : Hid (FlB _ _ _ _ _ _) := h2
  have H3 : Hid (FlB _ _ _ _ _ _) := h3
  obtain ⟨l1, a0, a1, a2, a3, _, _, _, _⟩ := h1
  obtain ⟨l2, b0, b1, b2, b3, e0, e1, e2, e3⟩ := h2
  obtain ⟨l3, c0, c1, c2, c3, g0, g1, g2, g3⟩ := h3
  have n1 : ¬ K = w.heap.size + 1 := by omega
  have n2 : ¬ w.heap.size + 1 = K := by omega
  have n3 : ¬ K = w.heap.size := by omega
  have n4 : ¬ w.heap.size = K := by omega
  clear bl
  rcases HQ.out with q | q | q | q
  · subst q
    go_wp2
    refine bodyPost_ret (v := .agg #[.bool c, .int .i64 1, .int .u64 0, .int .i64 0]) (by simp [results, Tryz.results80, go_sem, World.cell?_setCell_same, World.cell?_setCell_other, *]) rfl ⟨rfl, ?_⟩
    exact (((BL.out.setCell (by show w.heap.size ≤ w.heap.size + 1; omega) _).setCell (by show w.heap.size ≤ w.heap.size + 1; omega) _).setCell (by show w.heap.size ≤ w.heap.size + 1; omega) _).setCell (by show w.heap.size ≤ w.heap.size + 1; omega) _
  · subst q
    go_wp2
    go_region_held3 (fun w' => w'.cell? ⟨w.heap.size, 0, none⟩ = some (.int .u64 9223372036854775808) ∧ w'.cell? ⟨w.heap.size, 1, none⟩ = some (.int .u64 9218868437227405312) ∧ w'.cell? ⟨w.heap.size, 2, none⟩ = some (.int .i64 52) ∧ w'.cell? ⟨w.heap.size, 3, none⟩ = some (.int .i64 (-1074))) (simp [*, go_sem])
     (first
      | (go_at_call 104; refine (HM _).mono ?_; rintro x1 w4 ⟨rfl, hb4⟩; have H14 : Hid (FlB _ _ _ _ _ _) := H1.out.drew.step hb4; have H24 : Hid (FlB _ _ _ _ _ _) := H2.out.drew.step hb4; have H34 : Hid (FlB _ _ _ _ _ _) := H3.out.drew.step hb4; have B4 : Hid (Below w.heap.size w w4) := BL.out.drew.trans (hb4.mono (Nat.le_of_lt l1)); clear hb4; obtain ⟨l14, a04, a14, a24, a34, _, _, _, _⟩ := H14.out)
      | (go_at_call 103; refine (HF _).mono ?_; rintro x2 w5 ⟨rfl, hb5⟩; have H15 : Hid (FlB _ _ _ _ _ _) := H14.out.step hb5; have H25 : Hid (FlB _ _ _ _ _ _) := H24.out.step hb5; have H35 : Hid (FlB _ _ _ _ _ _) := H34.out.step hb5; have B5 : Hid (Below w.heap.size w w5) := B4.out.trans (hb5.mono (Nat.le_of_lt l14)); clear hb5; obtain ⟨l15, a05, a15, a25, a35, _, _, _, _⟩ := H15.out; obtain ⟨l25, b05, b15, b25, b35, e05, e15, e25, e35⟩ := H25.out; obtain ⟨l35, c05, c15, c25, c35, g05, g15, g25, g35⟩ := H35.out))
    all_goals
     go_wp2
     refine bodyPost_ret (v := .agg #[.bool c, .int .i64 2, .int .u64 (M : Int), .int .i64 X]) (by simp [results, Tryz.results80, go_sem, World.cell?_setCell_same, World.cell?_setCell_other, *]) rfl ⟨rfl, ?_⟩
     exact ((((((((((((B5.out).setCell (by show w.heap.size ≤ K; omega) _)).setCell (by show w.heap.size ≤ K; omega) _)).setCell (by show w.heap.size ≤ w.heap.size + 1; omega) _)).setCell (by show w.heap.size ≤ w.heap.size + 1; omega) _)).setCell (by show w.heap.size ≤ w.heap.size + 1; omega) _)).setCell (by show w.heap.size ≤ w.heap.size + 1; omega) _)
  · subst q
    go_wp2
    refine bodyPost_ret (v := .agg #[.bool c, .int .i64 3, .int .u64 0, .int .i64 0]) (by simp [results, Tryz.results80, go_sem, World.cell?_setCell_same, World.cell?_setCell_other, *]) rfl ⟨rfl, ?_⟩
    exact ((((((((BL.out).setCell (by show w.heap.size ≤ w.heap.size + 1; omega) _)).setCell (by show w.heap.size ≤ w.heap.size + 1; omega) _)).setCell (by show w.heap.size ≤ w.heap.size + 1; omega) _)).setCell (by show w.heap.size ≤ w.heap.size + 1; omega) _)
  · subst q
    go_wp2
    refine bodyPost_ret (v := .agg #[.bool false, .int .i64 4, .int .u64 0, .int .i64 0]) (by simp [results, Tryz.results80, go_sem, World.cell?_setCell_same, World.cell?_setCell_other, *]) rfl ⟨rfl, ?_⟩
    exact ((((((((((BL.out).setCell (by show w.heap.size ≤ K; omega) _)).setCell (by show w.heap.size ≤ w.heap.size + 1; omega) _)).setCell (by show w.heap.size ≤ w.heap.size + 1; omega) _)).setCell (by show w.heap.size ≤ w.heap.size + 1; omega) _)).setCell (by show w.heap.size ≤ w.heap.size + 1; omega) _)
theorem shapeOf_no {s : Int} (h : Sn s) (w : World) : Calls Tryz.prog 81 #[.int .i64 s] w fun e w' => e = .returned (.tuple #[.agg #[.int .u64 0, .int .u64 0, .int .i64 0, .int .i64 0], .iface 57 (.int .i64 5)]) ∧ Below w.heap.size w w' := by
 have p1 : (s == 32) = false := by simpa using h.1
 have p2 : (s == 64) = false := by simpa using h.2
 clear h
 go_enter Tryz.func81, Tryz.ntmps81
 go_wp2
 exact bodyPost_ret (v := .tuple #[.agg #[.int .u64 0, .int .u64 0, .int .i64 0, .int .i64 0], .iface 57 (.int .i64 5)]) (by simp [results, Tryz.results81, go_sem]) rfl ⟨rfl, (Below.refl _ _).alloc (Nat.le_refl _) _⟩
theorem shapeOf_32 (w : World) : Calls Tryz.prog 81 #[.int .i64 32] w fun e w' => e = .returned (.tuple #[.agg #[.int .u64 2147483648, .int .u64 2139095040, .int .i64 23, .int .i64 (-149)], .nilIface]) ∧ Below w.heap.size w w' := by
 have H := fun W => single_any W
 go_enter Tryz.func81, Tryz.ntmps81
 go_wp2_with fail
 refine (H _).mono ?_
 rintro e w1 ⟨rfl, hb⟩
 have T : Hid (FlB w1 w.heap.size _ _ _ _) := (FlB.new w (.int .u64 0) (.int .u64 0) (.int .i64 0) (.int .i64 0) 113).step hb
 have B : Hid (Below w.heap.size w w1) := ((Below.refl _ _).alloc (Nat.le_refl _) _).trans (hb.mono (by simp))
 clear hb
 obtain ⟨l, a0, a1, a2, a3, f0, f1, f2, f3⟩ := T.out
 go_wp2
 exact bodyPost_ret (v := .tuple #[.agg #[.int .u64 2147483648, .int .u64 2139095040, .int .i64 23, .int .i64 (-149)], .nilIface]) (by simp [results, Tryz.results81, go_sem, World.cell?_setCell_same, World.cell?_setCell_other, *]) rfl ⟨rfl, (((B.out.setCell (Nat.le_refl _) _).setCell (Nat.le_refl _) _).setCell (Nat.le_refl _) _).setCell (Nat.le_refl _) _⟩
theorem shapeOf_64 (w : World) : Calls Tryz.prog 81 #[.int .i64 64] w fun e w' => e = .returned (.tuple #[.agg #[.int .u64 9223372036854775808, .int .u64 9218868437227405312, .int .i64 52, .int .i64 (-1074)], .nilIface]) ∧ Below w.heap.size w w' := by
 have H := fun W => double_any W
 go_enter Tryz.func81, Tryz.ntmps81
 go_wp2_with fail
 refine (H _).mono ?_
 rintro e w1 ⟨rfl, hb⟩
 have T : Hid (FlB w1 w.heap.size _ _ _ _) := (FlB.new w (.int .u64 0) (.int .u64 0) (.int .i64 0) (.int .i64 0) 113).step hb
 have B : Hid (Below w.heap.size w w1) := ((Below.refl _ _).alloc (Nat.le_refl _) _).trans (hb.mono (by simp))
 clear hb
 obtain ⟨l, a0, a1, a2, a3, f0, f1, f2, f3⟩ := T.out
 go_wp2
 exact bodyPost_ret (v := .tuple #[.agg #[.int .u64 9223372036854775808, .int .u64 9218868437227405312, .int .i64 52, .int .i64 (-1074)], .nilIface]) (by simp [results, Tryz.results81, go_sem, World.cell?_setCell_same, World.cell?_setCell_other, *]) rfl ⟨rfl, (((B.out.setCell (Nat.le_refl _) _).setCell (Nat.le_refl _) _).setCell (Nat.le_refl _) _).setCell (Nat.le_refl _) _⟩
theorem shapeFor_no {s : Int} (h : Sn s) (b : Int) (w : World) : Calls Tryz.prog 79 #[.int .u64 b, .int .i64 s] w fun e w' => e = .returned (.tuple #[.agg #[.int .u64 0, .int .u64 0, .int .i64 0, .int .i64 0], .iface 57 (.int .i64 5)]) ∧ Below w.heap.size w w' := by
 have H := fun W => shapeOf_no h W
 go_enter Tryz.func79, Tryz.ntmps79
 go_wp2_with fail
 refine (H _).mono ?_
 rintro e w1 ⟨rfl, hb⟩
 have T : Hid (FlB w1 w.heap.size _ _ _ _) := (FlB.new w (.int .u64 0) (.int .u64 0) (.int .i64 0) (.int .i64 0) 113).step hb
 have B : Hid (Below w.heap.size w w1) := ((Below.refl _ _).alloc (Nat.le_refl _) _).trans (hb.mono (by simp))
 clear hb
 obtain ⟨l, a0, a1, a2, a3, f0, f1, f2, f3⟩ := T.out
 go_wp2
 exact bodyPost_ret (v := .tuple #[.agg #[.int .u64 0, .int .u64 0, .int .i64 0, .int .i64 0], .iface 57 (.int .i64 5)]) (by simp [results, Tryz.results79, go_sem, World.cell?_setCell_same, World.cell?_setCell_other, World.cell?_alloc_lt, *]) rfl ⟨rfl, (((((B.out).setCell (Nat.le_refl _) _).setCell (Nat.le_refl _) _).setCell (Nat.le_refl _) _).setCell (Nat.le_refl _) _).alloc (by simp; omega) _⟩
theorem shapeFor_big {b : Nat} (h : 4294967296 ≤ b) (w : World) : Calls Tryz.prog 79 #[.int .u64 (b : Int), .int .i64 32] w fun e w' => e = .returned (.tuple #[.agg #[.int .u64 0, .int .u64 0, .int .i64 0, .int .i64 0], .iface 57 (.int .i64 1)]) ∧ Below w.heap.size w w' := by
 have H := fun W => shapeOf_32 W
 have hor : bits BinOp.or IntKind.u64 2147483648 2147483647 = 4294967295 := by decide
 have q : (4294967295 : Int) < (b : Int) := by omega
 go_enter Tryz.func79, Tryz.ntmps79
 go_wp2_with fail
 refine (H _).mono ?_
 rintro e w1 ⟨rfl, hb⟩
 have T : Hid (FlB w1 w.heap.size _ _ _ _) := (FlB.new w (.int .u64 0) (.int .u64 0) (.int .i64 0) (.int .i64 0) 113).step hb
 have B : Hid (Below w.heap.size w w1) := ((Below.refl _ _).alloc (Nat.le_refl _) _).trans (hb.mono (by simp))
 clear hb
 obtain ⟨l, a0, a1, a2, a3, f0, f1, f2, f3⟩ := T.out
 go_wp2
 exact bodyPost_ret (v := .tuple #[.agg #[.int .u64 0, .int .u64 0, .int .i64 0, .int .i64 0], .iface 57 (.int .i64 1)]) (by simp [results, Tryz.results79, go_sem, World.cell?_setCell_same, World.cell?_setCell_other, World.cell?_alloc_lt, *]) rfl ⟨rfl, (((((B.out).setCell (Nat.le_refl _) _).setCell (Nat.le_refl _) _).setCell (Nat.le_refl _) _).setCell (Nat.le_refl _) _).alloc (by simp; omega) _⟩
theorem shapeFor_32 {b : Nat} (h : b < 4294967296) (w : World) : Calls Tryz.prog 79 #[.int .u64 (b : Int), .int .i64 32] w fun e w' => e = .returned (.tuple #[.agg #[.int .u64 2147483648, .int .u64 2139095040, .int .i64 23, .int .i64 (-149)], .nilIface]) ∧ Below w.heap.size w w' := by
 have H := fun W => shapeOf_32 W
 have hor : bits BinOp.or IntKind.u64 2147483648 2147483647 = 4294967295 := by decide
 have q : ¬ (4294967295 : Int) < (b : Int) := by omega
 go_enter Tryz.func79, Tryz.ntmps79
 go_wp2_with fail
 refine (H _).mono ?_
 rintro e w1 ⟨rfl, hb⟩
 have T : Hid (FlB w1 w.heap.size _ _ _ _) := (FlB.new w (.int .u64 0) (.int .u64 0) (.int .i64 0) (.int .i64 0) 113).step hb
 have B : Hid (Below w.heap.size w w1) := ((Below.refl _ _).alloc (Nat.le_refl _) _).trans (hb.mono (by simp))
 clear hb
 obtain ⟨l, a0, a1, a2, a3, f0, f1, f2, f3⟩ := T.out
 go_wp2
 exact bodyPost_ret (v := .tuple #[.agg #[.int .u64 2147483648, .int .u64 2139095040, .int .i64 23, .int .i64 (-149)], .nilIface]) (by simp [results, Tryz.results79, go_sem, World.cell?_setCell_same, World.cell?_setCell_other, World.cell?_alloc_lt, *]) rfl ⟨rfl, (((((B.out).setCell (Nat.le_refl _) _).setCell (Nat.le_refl _) _).setCell (Nat.le_refl _) _).setCell (Nat.le_refl _) _).alloc (by simp; omega) _⟩
theorem shapeFor_64 {b : Nat} (h : b < 18446744073709551616) (w : World) : Calls Tryz.prog 79 #[.int .u64 (b : Int), .int .i64 64] w fun e w' => e = .returned (.tuple #[.agg #[.int .u64 9223372036854775808, .int .u64 9218868437227405312, .int .i64 52, .int .i64 (-1074)], .nilIface]) ∧ Below w.heap.size w w' := by
 have H := fun W => shapeOf_64 W
 have hor : bits BinOp.or IntKind.u64 9223372036854775808 9223372036854775807 = 18446744073709551615 := by decide
 have q : ¬ (18446744073709551615 : Int) < (b : Int) := by omega
 go_enter Tryz.func79, Tryz.ntmps79
 go_wp2_with fail
 refine (H _).mono ?_
 rintro e w1 ⟨rfl, hb⟩
 have T : Hid (FlB w1 w.heap.size _ _ _ _) := (FlB.new w (.int .u64 0) (.int .u64 0) (.int .i64 0) (.int .i64 0) 113).step hb
 have B : Hid (Below w.heap.size w w1) := ((Below.refl _ _).alloc (Nat.le_refl _) _).trans (hb.mono (by simp))
 clear hb
 obtain ⟨l, a0, a1, a2, a3, f0, f1, f2, f3⟩ := T.out
 go_wp2
 exact bodyPost_ret (v := .tuple #[.agg #[.int .u64 9223372036854775808, .int .u64 9218868437227405312, .int .i64 52, .int .i64 (-1074)], .nilIface]) (by simp [results, Tryz.results79, go_sem, World.cell?_setCell_same, World.cell?_setCell_other, World.cell?_alloc_lt, *]) rfl ⟨rfl, (((((B.out).setCell (Nat.le_refl _) _).setCell (Nat.le_refl _) _).setCell (Nat.le_refl _) _).setCell (Nat.le_refl _) _).alloc (by simp; omega) _⟩
theorem unp_no {s : Int} (h : Sn s) (b : Int) (w : World) : Calls Tryz.prog 62 #[.int .u64 b, .int .i64 s] w fun e w' => e = .returned (.tuple #[.agg #[.bool false, .int .i64 0, .int .u64 0, .int .i64 0], .iface 57 (.int .i64 5)]) ∧ Below w.heap.size w w' := by
 have H := fun W => shapeFor_no h b W
 clear h
 go_enter Tryz.func62, Tryz.ntmps62
 go_wp2_with fail
 refine (H _).mono ?_
 rintro e w1 ⟨rfl, hb⟩
 have T : Hid (FlB w1 w.heap.size _ _ _ _) := (FlB.new w (.bool false) (.int .i64 0) (.int .u64 0) (.int .i64 0) 63).step hb
 have B : Hid (Below w.heap.size w w1) := ((Below.refl _ _).alloc (Nat.le_refl _) _).trans (hb.mono (by simp))
 clear hb
 obtain ⟨l, a0, a1, a2, a3, f0, f1, f2, f3⟩ := T.out
 go_wp2
 exact bodyPost_ret (v := .tuple #[.agg #[.bool false, .int .i64 0, .int .u64 0, .int .i64 0], .iface 57 (.int .i64 5)]) (by simp [results, Tryz.results62, go_sem, World.cell?_setCell_same, World.cell?_setCell_other, World.cell?_alloc_lt, *]) rfl ⟨rfl, (((((B.out).setCell (Nat.le_refl _) _).setCell (Nat.le_refl _) _).setCell (Nat.le_refl _) _).setCell (Nat.le_refl _) _).alloc (by simp; omega) _⟩
theorem unp_big {b : Nat} (h : 4294967296 ≤ b) (w : World) : Calls Tryz.prog 62 #[.int .u64 (b : Int), .int .i64 32] w fun e w' => e = .returned (.tuple #[.agg #[.bool false, .int .i64 0, .int .u64 0, .int .i64 0], .iface 57 (.int .i64 1)]) ∧ Below w.heap.size w w' := by
 have H := fun W => shapeFor_big h W
 clear h
 go_enter Tryz.func62, Tryz.ntmps62
 go_wp2_with fail
 refine (H _).mono ?_
 rintro e w1 ⟨rfl, hb⟩
 have T : Hid (FlB w1 w.heap.size _ _ _ _) := (FlB.new w (.bool false) (.int .i64 0) (.int .u64 0) (.int .i64 0) 63).step hb
 have B : Hid (Below w.heap.size w w1) := ((Below.refl _ _).alloc (Nat.le_refl _) _).trans (hb.mono (by simp))
 clear hb
 obtain ⟨l, a0, a1, a2, a3, f0, f1, f2, f3⟩ := T.out
 go_wp2
 exact bodyPost_ret (v := .tuple #[.agg #[.bool false, .int .i64 0, .int .u64 0, .int .i64 0], .iface 57 (.int .i64 1)]) (by simp [results, Tryz.results62, go_sem, World.cell?_setCell_same, World.cell?_setCell_other, World.cell?_alloc_lt, *]) rfl ⟨rfl, (((((B.out).setCell (Nat.le_refl _) _).setCell (Nat.le_refl _) _).setCell (Nat.le_refl _) _).setCell (Nat.le_refl _) _).alloc (by simp; omega) _⟩
theorem unp_32 {b : Nat} (h : b < 4294967296) (w : World) : Calls Tryz.prog 62 #[.int .u64 (b : Int), .int .i64 32] w fun e w' => e = .returned (.tuple #[.agg #[.bool (uN 2147483648 2139095040 b), .int .i64 (cl 2139095040 (mg 2147483648 b)), .int .u64 ((uM 2139095040 23 (mg 2147483648 b) : Nat) : Int), .int .i64 (uE 2139095040 23 (-149) (mg 2147483648 b))], .nilIface]) ∧ Below w.heap.size w w' := by
 have H := fun W => shapeFor_32 h W
 have HU := fun W => unpack_32 h W
 generalize uN 2147483648 2139095040 b = x0 at *
 generalize uM 2139095040 23 (mg 2147483648 b) = x2 at *
 generalize uE 2139095040 23 (-149) (mg 2147483648 b) = x3 at *
 generalize cl 2139095040 (mg 2147483648 b) = x1 at *
 clear h
 go_enter Tryz.func62, Tryz.ntmps62
 go_wp2_with fail
 refine (H _).mono ?_
 rintro e w1 ⟨rfl, hb⟩
 have T : Hid (FlB w1 w.heap.size _ _ _ _) := (FlB.new w (.bool false) (.int .i64 0) (.int .u64 0) (.int .i64 0) 63).step hb
 have B : Hid (Below w.heap.size w w1) := ((Below.refl _ _).alloc (Nat.le_refl _) _).trans (hb.mono (by simp))
 clear hb
 obtain ⟨l, a0, a1, a2, a3, f0, f1, f2, f3⟩ := T.out
 go_wp2_with fail
 refine (HU _).mono ?_
 rintro e w2 ⟨rfl, hb⟩
 have T2 : Hid (FlB w2 w.heap.size _ _ _ _) := (T.out.al _).step hb
 have B2 : Hid (Below w.heap.size w w2) := (B.out.alloc (Nat.le_of_lt l) _).trans (hb.mono (by simp; omega))
 clear hb
 obtain ⟨l2, b0, b1, b2, b3, g0, g1, g2, g3⟩ := T2.out
 go_wp2
 exact bodyPost_ret (v := .tuple #[.agg #[.bool x0, .int .i64 x1, .int .u64 (x2 : Int), .int .i64 x3], .nilIface]) (by simp [results, Tryz.results62, go_sem, World.cell?_setCell_same, World.cell?_setCell_other, *]) rfl ⟨rfl, ((((B2.out).setCell (Nat.le_refl _) _).setCell (Nat.le_refl _) _).setCell (Nat.le_refl _) _).setCell (Nat.le_refl _) _⟩
theorem unp_64 {b : Nat} (h : b < 18446744073709551616) (w : World) : Calls Tryz.prog 62 #[.int .u64 (b : Int), .int .i64 64] w fun e w' => e = .returned (.tuple #[.agg #[.bool (uN 9223372036854775808 9218868437227405312 b), .int .i64 (cl 9218868437227405312 (mg 9223372036854775808 b)), .int .u64 ((uM 9218868437227405312 52 (mg 9223372036854775808 b) : Nat) : Int), .int .i64 (uE 9218868437227405312 52 (-1074) (mg 9223372036854775808 b))], .nilIface]) ∧ Below w.heap.size w w' := by
 have H := fun W => shapeFor_64 h W
 have HU := fun W => unpack_64 h W
 generalize uN 9223372036854775808 9218868437227405312 b = x0 at *
 generalize uM 9218868437227405312 52 (mg 9223372036854775808 b) = x2 at *
 generalize uE 9218868437227405312 52 (-1074) (mg 9223372036854775808 b) = x3 at *
 generalize cl 9218868437227405312 (mg 9223372036854775808 b) = x1 at *
 clear h
 go_enter Tryz.func62, Tryz.ntmps62
 go_wp2_with fail
 refine (H _).mono ?_
 rintro e w1 ⟨rfl, hb⟩
 have T : Hid (FlB w1 w.heap.size _ _ _ _) := (FlB.new w (.bool false) (.int .i64 0) (.int .u64 0) (.int .i64 0) 63).step hb
 have B : Hid (Below w.heap.size w w1) := ((Below.refl _ _).alloc (Nat.le_refl _) _).trans (hb.mono (by simp))
 clear hb
 obtain ⟨l, a0, a1, a2, a3, f0, f1, f2, f3⟩ := T.out
 go_wp2_with fail
 refine (HU _).mono ?_
 rintro e w2 ⟨rfl, hb⟩
 have T2 : Hid (FlB w2 w.heap.size _ _ _ _) := (T.out.al _).step hb
 have B2 : Hid (Below w.heap.size w w2) := (B.out.alloc (Nat.le_of_lt l) _).trans (hb.mono (by simp; omega))
 clear hb
 obtain ⟨l2, b0, b1, b2, b3, g0, g1, g2, g3⟩ := T2.out
 go_wp2
 exact bodyPost_ret (v := .tuple #[.agg #[.bool x0, .int .i64 x1, .int .u64 (x2 : Int), .int .i64 x3], .nilIface]) (by simp [results, Tryz.results62, go_sem, World.cell?_setCell_same, World.cell?_setCell_other, *]) rfl ⟨rfl, ((((B2.out).setCell (Nat.le_refl _) _).setCell (Nat.le_refl _) _).setCell (Nat.le_refl _) _).setCell (Nat.le_refl _) _⟩
theorem bleast_32  (w : World) : Calls Tryz.prog 63 #[.int .i64 32] w fun e w' => e = .returned (.tuple #[.int .u64 1, .nilIface]) ∧ Below w.heap.size w w' := by
 have H := fun W => shapeOf_32 W
 go_enter Tryz.func63, Tryz.ntmps63
 go_wp2_with fail
 refine (H _).mono ?_
 rintro e w1 ⟨rfl, hb⟩
 have B : Hid (Below w.heap.size w w1) := hb
 have l := hb.size
 clear hb
 go_wp2
 go_ret2
 exact ⟨rfl, B.out.alloc l _⟩
theorem bleast_64  (w : World) : Calls Tryz.prog 63 #[.int .i64 64] w fun e w' => e = .returned (.tuple #[.int .u64 1, .nilIface]) ∧ Below w.heap.size w w' := by
 have H := fun W => shapeOf_64 W
 go_enter Tryz.func63, Tryz.ntmps63
 go_wp2_with fail
 refine (H _).mono ?_
 rintro e w1 ⟨rfl, hb⟩
 have B : Hid (Below w.heap.size w w1) := hb
 have l := hb.size
 clear hb
 go_wp2
 go_ret2
 exact ⟨rfl, B.out.alloc l _⟩
end Go.Proofs.YtohhmobfmmeohaaGreatDoor
