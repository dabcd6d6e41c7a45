/-
  What product's bounds answers: a number's two ends.
-/
import Derived.Test.YtohbggdkopmpfaaDoorPpB
import Derived.Deep.DeepCutAuto
namespace Go.Proofs.YtohbggdkopmpfaaDoor
open Go.RowKit

theorem GrB.far {W : World} {K : Nat} {a b c : Value} (h : GrB W K a b c) (p : Addr) (v : Value) (n : K ≠ p.block) : GrB (W.setCell p v) K a b c := by
  have e : (W.setCell p v).heap[K]? = W.heap[K]? := Below.heap_setCell W p v K n
  have k := fun o => World.cell?_of_block (w := W) (w' := W.setCell p v) (a := ⟨K, o, none⟩) e
  have j := fun o => World.frozen?_of_block (w := W) (w' := W.setCell p v) (a := ⟨K, o, none⟩) e
  have z : K < (W.setCell p v).heap.size := by simpa using h.lt
  exact ⟨z, (k 0).trans h.a0, (k 1).trans h.a1, (k 2).trans h.a2, (j 0).trans h.f0, (j 1).trans h.f1, (j 2).trans h.f2⟩
theorem GrB.fill {W : World} {K : Nat} {a b c : Value} (h : GrB W K a b c) (x y z : Value) : GrB (((W.setCell ⟨K, 0, none⟩ x).setCell ⟨K, 1, none⟩ y).setCell ⟨K, 2, none⟩ z) K x y z := by
  obtain ⟨l, a0, a1, a2, f0, f1, f2⟩ := h
  refine ⟨by simpa using l, ?_, ?_, ?_, (World.frozen?_setCell ..).trans ((World.frozen?_setCell ..).trans ((World.frozen?_setCell ..).trans f0)), (World.frozen?_setCell ..).trans ((World.frozen?_setCell ..).trans ((World.frozen?_setCell ..).trans f1)), (World.frozen?_setCell ..).trans ((World.frozen?_setCell ..).trans ((World.frozen?_setCell ..).trans f2))⟩
  · exact (World.cell?_setCell_other _ ⟨K, 2, none⟩ ⟨K, 0, none⟩ z (by intro e; cases e)).trans ((World.cell?_setCell_other _ ⟨K, 1, none⟩ ⟨K, 0, none⟩ y (by intro e; cases e)).trans (World.cell?_setCell_same _ _ _ a0))
  · exact (World.cell?_setCell_other _ ⟨K, 2, none⟩ ⟨K, 1, none⟩ z (by intro e; cases e)).trans (World.cell?_setCell_same _ _ _ ((World.cell?_setCell_other _ ⟨K, 0, none⟩ ⟨K, 1, none⟩ x (by intro e; cases e)).trans a1))
  · exact World.cell?_setCell_same _ _ _ ((World.cell?_setCell_other _ ⟨K, 1, none⟩ ⟨K, 2, none⟩ y (by intro e; cases e)).trans ((World.cell?_setCell_other _ ⟨K, 0, none⟩ ⟨K, 2, none⟩ x (by intro e; cases e)).trans a2))
theorem TwB.fill {W : World} {K : Nat} {a b : Value} (h : TwB W K a b) (x y : Value) : TwB ((W.setCell ⟨K, 0, none⟩ x).setCell ⟨K, 1, none⟩ y) K x y := by
  obtain ⟨l, a0, a1, f0, f1⟩ := h
  refine ⟨by simpa using l, ?_, ?_, (World.frozen?_setCell ..).trans ((World.frozen?_setCell ..).trans f0), (World.frozen?_setCell ..).trans ((World.frozen?_setCell ..).trans f1)⟩
  · exact (World.cell?_setCell_other _ ⟨K, 1, none⟩ ⟨K, 0, none⟩ y (by intro e; cases e)).trans (World.cell?_setCell_same _ _ _ a0)
  · exact World.cell?_setCell_same _ _ _ ((World.cell?_setCell_other _ ⟨K, 0, none⟩ ⟨K, 1, none⟩ x (by intro e; cases e)).trans a1)
theorem one_more {M : Nat} (h : M + 1 < 2 ^ 128) : sHi (hiW M) (loW M) 0 1 = hiW (M + 1) ∧ sLo (loW M) 1 = loW (M + 1) := by
  rw [show 2 ^ 128 = 340282366920938463463374607431768211456 from rfl] at h
  unfold sHi sLo a3C a3Lo hiW loW
  constructor <;> omega

set_option maxRecDepth 100000 in
set_option maxHeartbeats 2000000 in
theorem bounds_en {M m : Nat} {E : Int} (hM : M + 1 < 2 ^ 128) (hm : m < 18446744073709551616) (w : World) : Calls Tryd.prog 12 #[.int .u64 (m : Int), .bool false, pwV M E true] w fun e w' => e = .returned (.tuple #[lgV (M * m), lgV (M * m)]) ∧ Below w.heap.size w w' := by
  have T1 := fun W => times_ok (M := M) (b := m) (by omega) hm W
  unfold lgV at *
  unfold pwV
  generalize x2 (M * m) = p2 at *
  generalize x1 (M * m) = p1 at *
  generalize x0 (M * m) = p0 at *
  generalize hiW M = h at *
  generalize loW M = l at *
  clear hM hm
  have P0 : Hid (FlB ((((w.alloc (.cells #[.int .u64 h, .int .u64 l, .int .i64 E, .bool true] 38)).alloc (.cells #[.int .u64 0, .int .u64 0, .int .u64 0] 44)).alloc (.cells #[.int .u64 0, .int .u64 0, .int .u64 0] 44)).alloc (.cells #[.int .u64 h, .int .u64 l] 36)) w.heap.size _ _ _ _) := (((FlB.new w (.int .u64 h) (.int .u64 l) (.int .i64 E) (.bool true) 38).al _).al _).al _
  have L0 : Hid (GrB ((((w.alloc (.cells #[.int .u64 h, .int .u64 l, .int .i64 E, .bool true] 38)).alloc (.cells #[.int .u64 0, .int .u64 0, .int .u64 0] 44)).alloc (.cells #[.int .u64 0, .int .u64 0, .int .u64 0] 44)).alloc (.cells #[.int .u64 h, .int .u64 l] 36)) (w.heap.size + 1) (.int .u64 0) (.int .u64 0) (.int .u64 0)) := by
    have q := ((GrB.new (w.alloc (.cells #[.int .u64 h, .int .u64 l, .int .i64 E, .bool true] 38)) (.int .u64 0) (.int .u64 0) (.int .u64 0) 44).al (.cells #[.int .u64 0, .int .u64 0, .int .u64 0] 44)).al (.cells #[.int .u64 h, .int .u64 l] 36)
    show GrB _ _ _ _ _
    simpa using q
  have U0 : Hid (GrB ((((w.alloc (.cells #[.int .u64 h, .int .u64 l, .int .i64 E, .bool true] 38)).alloc (.cells #[.int .u64 0, .int .u64 0, .int .u64 0] 44)).alloc (.cells #[.int .u64 0, .int .u64 0, .int .u64 0] 44)).alloc (.cells #[.int .u64 h, .int .u64 l] 36)) (w.heap.size + 1 + 1) (.int .u64 0) (.int .u64 0) (.int .u64 0)) := by
    have q := (GrB.new ((w.alloc (.cells #[.int .u64 h, .int .u64 l, .int .i64 E, .bool true] 38)).alloc (.cells #[.int .u64 0, .int .u64 0, .int .u64 0] 44)) (.int .u64 0) (.int .u64 0) (.int .u64 0) 44).al (.cells #[.int .u64 h, .int .u64 l] 36)
    show GrB _ _ _ _ _
    simpa using q
  have D0 : Hid (TwB ((((w.alloc (.cells #[.int .u64 h, .int .u64 l, .int .i64 E, .bool true] 38)).alloc (.cells #[.int .u64 0, .int .u64 0, .int .u64 0] 44)).alloc (.cells #[.int .u64 0, .int .u64 0, .int .u64 0] 44)).alloc (.cells #[.int .u64 h, .int .u64 l] 36)) (w.heap.size + 1 + 1 + 1) (.int .u64 h) (.int .u64 l)) := by
    have q := TwB.new (((w.alloc (.cells #[.int .u64 h, .int .u64 l, .int .i64 E, .bool true] 38)).alloc (.cells #[.int .u64 0, .int .u64 0, .int .u64 0] 44)).alloc (.cells #[.int .u64 0, .int .u64 0, .int .u64 0] 44)) (.int .u64 h) (.int .u64 l) 36
    show TwB _ _ _ _
    simpa using q
  have B0 : Hid (Below w.heap.size w ((((w.alloc (.cells #[.int .u64 h, .int .u64 l, .int .i64 E, .bool true] 38)).alloc (.cells #[.int .u64 0, .int .u64 0, .int .u64 0] 44)).alloc (.cells #[.int .u64 0, .int .u64 0, .int .u64 0] 44)).alloc (.cells #[.int .u64 h, .int .u64 l] 36))) := ((((Below.refl _ _).alloc (Nat.le_refl _) _).alloc (by simp) _).alloc (by simp; omega) _).alloc (by simp; omega) _
  go_enter Tryd.func12, Tryd.ntmps12
  go_upto_region 4 with fail
  generalize ((((w.alloc (.cells #[.int .u64 h, .int .u64 l, .int .i64 E, .bool true] 38)).alloc (.cells #[.int .u64 0, .int .u64 0, .int .u64 0] 44)).alloc (.cells #[.int .u64 0, .int .u64 0, .int .u64 0] 44)).alloc (.cells #[.int .u64 h, .int .u64 l] 36)) = v at *
  have P2 : Hid (FlB v.drew w.heap.size _ _ _ _) := P0.out.drew
  have L2 : Hid (GrB v.drew (w.heap.size + 1) _ _ _) := L0.out.step (Below.refl _ _).drew
  have U2 : Hid (GrB v.drew (w.heap.size + 1 + 1) _ _ _) := U0.out.step (Below.refl _ _).drew
  have D2 : Hid (TwB v.drew (w.heap.size + 1 + 1 + 1) _ _) := D0.out.step (Below.refl _ _).drew
  have B2 : Hid (Below w.heap.size w v.drew) := B0.out.drew
  obtain ⟨y1, a0, a1, a2, a3, _, _, _, _⟩ := P0.out
  obtain ⟨y2, _, _, _, f0, f1, f2⟩ := L0.out
  obtain ⟨y3, _, _, _, g0, g1, g2⟩ := U0.out
  obtain ⟨y4, d0, d1, _, _⟩ := D0.out
  go_region_held3 (fun w' => w'.cell? ⟨w.heap.size, 0, none⟩ = some (.int .u64 h) ∧ w'.cell? ⟨w.heap.size, 1, none⟩ = some (.int .u64 l) ∧ w'.cell? ⟨w.heap.size + 1 + 1 + 1, 0, none⟩ = some (.int .u64 h) ∧ w'.cell? ⟨w.heap.size + 1 + 1 + 1, 1, none⟩ = some (.int .u64 l) ∧ w'.frozen? ⟨w.heap.size + 1, 0, none⟩ = false ∧ w'.frozen? ⟨w.heap.size + 1, 1, none⟩ = false ∧ w'.frozen? ⟨w.heap.size + 1, 2, none⟩ = false ∧ w'.frozen? ⟨w.heap.size + 1 + 1, 0, none⟩ = false ∧ w'.frozen? ⟨w.heap.size + 1 + 1, 1, none⟩ = false ∧ w'.frozen? ⟨w.heap.size + 1 + 1, 2, none⟩ = false) (simp [*, go_sem])
    (first
      | (go_at_call 21; refine (T1 _).mono ?_; rintro x1 wa ⟨rfl, ha⟩; have Pa : Hid (FlB wa _ _ _ _ _) := P2.out.step ha; have La : Hid (GrB wa _ _ _ _) := L2.out.step ha; have Ua : Hid (GrB wa _ _ _ _) := U2.out.step ha; have Da : Hid (TwB wa _ _ _) := D2.out.step ha; have Ba : Hid (Below w.heap.size w wa) := B2.out.trans (ha.mono B2.out.size); obtain ⟨ya1, aa0, aa1, aa2, aa3, _, _, _, _⟩ := Pa.out; obtain ⟨ya2, _, _, _, fa0, fa1, fa2⟩ := La.out; obtain ⟨ya3, _, _, _, ga0, ga1, ga2⟩ := Ua.out; obtain ⟨ya4, da0, da1, _, _⟩ := Da.out)
      | (go_at_call 21; refine (T1 _).mono ?_; rintro x1 wb ⟨rfl, hb⟩; have Pb : Hid (FlB wb _ _ _ _ _) := Pa.out.step hb; have Lb : Hid (GrB wb _ _ _ _) := La.out.step hb; have Ub : Hid (GrB wb _ _ _ _) := Ua.out.step hb; have Db : Hid (TwB wb _ _ _) := Da.out.step hb; have Bb : Hid (Below w.heap.size w wb) := Ba.out.trans (hb.mono Ba.out.size); obtain ⟨yb1, ab0, ab1, ab2, ab3, _, _, _, _⟩ := Pb.out; obtain ⟨yb2, _, _, _, fb0, fb1, fb2⟩ := Lb.out; obtain ⟨yb3, _, _, _, gb0, gb1, gb2⟩ := Ub.out; obtain ⟨yb4, db0, db1, _, _⟩ := Db.out))
  have L4 : Hid (GrB ((((((wb.setCell ⟨w.heap.size + 1, 0, none⟩ (.int .u64 p2)).setCell ⟨w.heap.size + 1, 1, none⟩ (.int .u64 p1)).setCell ⟨w.heap.size + 1, 2, none⟩ (.int .u64 p0)).setCell ⟨w.heap.size + 1 + 1, 0, none⟩ (.int .u64 p2)).setCell ⟨w.heap.size + 1 + 1, 1, none⟩ (.int .u64 p1)).setCell ⟨w.heap.size + 1 + 1, 2, none⟩ (.int .u64 p0)) (w.heap.size + 1) _ _ _) := (((Lb.out.fill _ _ _).far _ _ (by show w.heap.size + 1 ≠ w.heap.size + 1 + 1; omega)).far _ _ (by show w.heap.size + 1 ≠ w.heap.size + 1 + 1; omega)).far _ _ (by show w.heap.size + 1 ≠ w.heap.size + 1 + 1; omega)
  have U4 : Hid (GrB ((((((wb.setCell ⟨w.heap.size + 1, 0, none⟩ (.int .u64 p2)).setCell ⟨w.heap.size + 1, 1, none⟩ (.int .u64 p1)).setCell ⟨w.heap.size + 1, 2, none⟩ (.int .u64 p0)).setCell ⟨w.heap.size + 1 + 1, 0, none⟩ (.int .u64 p2)).setCell ⟨w.heap.size + 1 + 1, 1, none⟩ (.int .u64 p1)).setCell ⟨w.heap.size + 1 + 1, 2, none⟩ (.int .u64 p0)) (w.heap.size + 1 + 1) _ _ _) := (((Ub.out.far _ _ (by show w.heap.size + 1 + 1 ≠ w.heap.size + 1; omega)).far _ _ (by show w.heap.size + 1 + 1 ≠ w.heap.size + 1; omega)).far _ _ (by show w.heap.size + 1 + 1 ≠ w.heap.size + 1; omega)).fill _ _ _
  have D4 : Hid (TwB ((((((wb.setCell ⟨w.heap.size + 1, 0, none⟩ (.int .u64 p2)).setCell ⟨w.heap.size + 1, 1, none⟩ (.int .u64 p1)).setCell ⟨w.heap.size + 1, 2, none⟩ (.int .u64 p0)).setCell ⟨w.heap.size + 1 + 1, 0, none⟩ (.int .u64 p2)).setCell ⟨w.heap.size + 1 + 1, 1, none⟩ (.int .u64 p1)).setCell ⟨w.heap.size + 1 + 1, 2, none⟩ (.int .u64 p0)) (w.heap.size + 1 + 1 + 1) _ _) := (((((Db.out.far _ _ (by show w.heap.size + 1 + 1 + 1 ≠ w.heap.size + 1; omega)).far _ _ (by show w.heap.size + 1 + 1 + 1 ≠ w.heap.size + 1; omega)).far _ _ (by show w.heap.size + 1 + 1 + 1 ≠ w.heap.size + 1; omega)).far _ _ (by show w.heap.size + 1 + 1 + 1 ≠ w.heap.size + 1 + 1; omega)).far _ _ (by show w.heap.size + 1 + 1 + 1 ≠ w.heap.size + 1 + 1; omega)).far _ _ (by show w.heap.size + 1 + 1 + 1 ≠ w.heap.size + 1 + 1; omega)
  have B4 : Hid (Below w.heap.size w ((((((wb.setCell ⟨w.heap.size + 1, 0, none⟩ (.int .u64 p2)).setCell ⟨w.heap.size + 1, 1, none⟩ (.int .u64 p1)).setCell ⟨w.heap.size + 1, 2, none⟩ (.int .u64 p0)).setCell ⟨w.heap.size + 1 + 1, 0, none⟩ (.int .u64 p2)).setCell ⟨w.heap.size + 1 + 1, 1, none⟩ (.int .u64 p1)).setCell ⟨w.heap.size + 1 + 1, 2, none⟩ (.int .u64 p0))) := (((((Bb.out.setCell (Nat.le_add_right _ 1) _).setCell (Nat.le_add_right _ 1) _).setCell (Nat.le_add_right _ 1) _).setCell (Nat.le_add_right _ 2) _).setCell (Nat.le_add_right _ 2) _).setCell (Nat.le_add_right _ 2) _
  generalize (((((wb.setCell ⟨w.heap.size + 1, 0, none⟩ (.int .u64 p2)).setCell ⟨w.heap.size + 1, 1, none⟩ (.int .u64 p1)).setCell ⟨w.heap.size + 1, 2, none⟩ (.int .u64 p0)).setCell ⟨w.heap.size + 1 + 1, 0, none⟩ (.int .u64 p2)).setCell ⟨w.heap.size + 1 + 1, 1, none⟩ (.int .u64 p1)).setCell ⟨w.heap.size + 1 + 1, 2, none⟩ (.int .u64 p0) = u at *
  clear P0 L0 U0 D0 B0 P2 L2 U2 D2 B2 Pa La Ua Da Ba Pb Lb Ub Db Bb ha hb T1
  clear y1 a0 a1 a2 a3 y2 f0 f1 f2 y3 g0 g1 g2 y4 d0 d1 ya1 aa0 aa1 aa2 aa3 ya2 fa0 fa1 fa2 ya3 ga0 ga1 ga2 ya4 da0 da1 yb1 ab0 ab1 ab2 ab3 yb2 fb0 fb1 fb2 yb3 gb0 gb1 gb2 yb4 db0 db1
  go_upto_region 7 with fail
  have L6 : Hid (GrB u (w.heap.size + 1) _ _ _) := L4.out
  have U6 : Hid (GrB u (w.heap.size + 1 + 1) _ _ _) := U4.out
  have B6 : Hid (Below w.heap.size w u) := B4.out
  clear L4 U4 D4 B4
  obtain ⟨_, l0, l1, l2', j0, j1, j2⟩ := L6.out
  obtain ⟨_, u0, u1, u2, k0, k1, k2⟩ := U6.out
  go_region_held3 (fun w' => w'.cell? ⟨w.heap.size + 1, 0, none⟩ = some (.int .u64 p2) ∧ w'.cell? ⟨w.heap.size + 1, 1, none⟩ = some (.int .u64 p1) ∧ w'.cell? ⟨w.heap.size + 1, 2, none⟩ = some (.int .u64 p0) ∧ w'.cell? ⟨w.heap.size + 1 + 1, 0, none⟩ = some (.int .u64 p2) ∧ w'.cell? ⟨w.heap.size + 1 + 1, 1, none⟩ = some (.int .u64 p1) ∧ w'.cell? ⟨w.heap.size + 1 + 1, 2, none⟩ = some (.int .u64 p0) ∧ w'.frozen? ⟨w.heap.size + 1, 0, none⟩ = false ∧ w'.frozen? ⟨w.heap.size + 1, 1, none⟩ = false ∧ w'.frozen? ⟨w.heap.size + 1, 2, none⟩ = false ∧ w'.frozen? ⟨w.heap.size + 1 + 1, 0, none⟩ = false ∧ w'.frozen? ⟨w.heap.size + 1 + 1, 1, none⟩ = false ∧ w'.frozen? ⟨w.heap.size + 1 + 1, 2, none⟩ = false) (simp [*, go_sem, World.cell?_setCell_same, World.cell?_setCell_other]) (fail)
  go_wp2
  have L7 : Hid (GrB ((((((u.setCell ⟨w.heap.size + 1, 0, none⟩ (.int .u64 p2)).setCell ⟨w.heap.size + 1, 1, none⟩ (.int .u64 p1)).setCell ⟨w.heap.size + 1, 2, none⟩ (.int .u64 p0)).setCell ⟨w.heap.size + 1 + 1, 0, none⟩ (.int .u64 p2)).setCell ⟨w.heap.size + 1 + 1, 1, none⟩ (.int .u64 p1)).setCell ⟨w.heap.size + 1 + 1, 2, none⟩ (.int .u64 p0)).drew (w.heap.size + 1) _ _ _) := ((((L6.out.fill _ _ _).far _ _ (by show w.heap.size + 1 ≠ w.heap.size + 1 + 1; omega)).far _ _ (by show w.heap.size + 1 ≠ w.heap.size + 1 + 1; omega)).far _ _ (by show w.heap.size + 1 ≠ w.heap.size + 1 + 1; omega)).step (Below.refl _ _).drew
  have U7 : Hid (GrB ((((((u.setCell ⟨w.heap.size + 1, 0, none⟩ (.int .u64 p2)).setCell ⟨w.heap.size + 1, 1, none⟩ (.int .u64 p1)).setCell ⟨w.heap.size + 1, 2, none⟩ (.int .u64 p0)).setCell ⟨w.heap.size + 1 + 1, 0, none⟩ (.int .u64 p2)).setCell ⟨w.heap.size + 1 + 1, 1, none⟩ (.int .u64 p1)).setCell ⟨w.heap.size + 1 + 1, 2, none⟩ (.int .u64 p0)).drew (w.heap.size + 1 + 1) _ _ _) := ((((U6.out.far _ _ (by show w.heap.size + 1 + 1 ≠ w.heap.size + 1; omega)).far _ _ (by show w.heap.size + 1 + 1 ≠ w.heap.size + 1; omega)).far _ _ (by show w.heap.size + 1 + 1 ≠ w.heap.size + 1; omega)).fill _ _ _).step (Below.refl _ _).drew
  have B7 : Hid (Below w.heap.size w ((((((u.setCell ⟨w.heap.size + 1, 0, none⟩ (.int .u64 p2)).setCell ⟨w.heap.size + 1, 1, none⟩ (.int .u64 p1)).setCell ⟨w.heap.size + 1, 2, none⟩ (.int .u64 p0)).setCell ⟨w.heap.size + 1 + 1, 0, none⟩ (.int .u64 p2)).setCell ⟨w.heap.size + 1 + 1, 1, none⟩ (.int .u64 p1)).setCell ⟨w.heap.size + 1 + 1, 2, none⟩ (.int .u64 p0)).drew) := ((((((B6.out.setCell (Nat.le_add_right _ 1) _).setCell (Nat.le_add_right _ 1) _).setCell (Nat.le_add_right _ 1) _).setCell (Nat.le_add_right _ 2) _).setCell (Nat.le_add_right _ 2) _).setCell (Nat.le_add_right _ 2) _).drew
  generalize ((((((u.setCell ⟨w.heap.size + 1, 0, none⟩ (.int .u64 p2)).setCell ⟨w.heap.size + 1, 1, none⟩ (.int .u64 p1)).setCell ⟨w.heap.size + 1, 2, none⟩ (.int .u64 p0)).setCell ⟨w.heap.size + 1 + 1, 0, none⟩ (.int .u64 p2)).setCell ⟨w.heap.size + 1 + 1, 1, none⟩ (.int .u64 p1)).setCell ⟨w.heap.size + 1 + 1, 2, none⟩ (.int .u64 p0)).drew = z9 at *
  obtain ⟨_, n0, n1, n2, _, _, _⟩ := L7.out
  obtain ⟨_, o0, o1, o2, _, _, _⟩ := U7.out
  exact bodyPost_ret (v := .tuple #[.agg #[.int .u64 p2, .int .u64 p1, .int .u64 p0], .agg #[.int .u64 p2, .int .u64 p1, .int .u64 p0]]) (by simp [results, Tryd.results12, go_sem, n0, n1, n2, o0, o1, o2]) rfl ⟨rfl, B7.out⟩

set_option maxRecDepth 100000 in
set_option maxHeartbeats 2000000 in
theorem bounds_em {M m : Nat} {E : Int} (hM : M + 1 < 2 ^ 128) (hm : m < 18446744073709551616) (w : World) : Calls Tryd.prog 12 #[.int .u64 (m : Int), .bool true, pwV M E true] w fun e w' => e = .returned (.tuple #[lgV (M * m), lgV (M * m + M)]) ∧ Below w.heap.size w w' := by
  have T1 := fun W => times_ok (M := M) (b := m) (by omega) hm W
  have hs : M * m + M < 2 ^ 192 := by
    have q : M * (m + 1) < 2 ^ 128 * 2 ^ 64 := Nat.lt_of_lt_of_le (Nat.mul_lt_mul_of_pos_right (show M < 2 ^ 128 by omega) (Nat.succ_pos m)) (Nat.mul_le_mul_left _ hm)
    rw [Nat.mul_add, Nat.mul_one] at q
    exact q
  have PL := fun W => plus_ok (X := M * m) (D := M) (by omega) hs W
  clear hs
  unfold lgV at *
  unfold pwV
  generalize x2 (M * m) = p2 at *
  generalize x1 (M * m) = p1 at *
  generalize x0 (M * m) = p0 at *
  generalize x2 (M * m + M) = r2 at *
  generalize x1 (M * m + M) = r1 at *
  generalize x0 (M * m + M) = r0 at *
  generalize hiW M = h at *
  generalize loW M = l at *
  clear hM hm
  have P0 : Hid (FlB ((((w.alloc (.cells #[.int .u64 h, .int .u64 l, .int .i64 E, .bool true] 38)).alloc (.cells #[.int .u64 0, .int .u64 0, .int .u64 0] 44)).alloc (.cells #[.int .u64 0, .int .u64 0, .int .u64 0] 44)).alloc (.cells #[.int .u64 h, .int .u64 l] 36)) w.heap.size _ _ _ _) := (((FlB.new w (.int .u64 h) (.int .u64 l) (.int .i64 E) (.bool true) 38).al _).al _).al _
  have L0 : Hid (GrB ((((w.alloc (.cells #[.int .u64 h, .int .u64 l, .int .i64 E, .bool true] 38)).alloc (.cells #[.int .u64 0, .int .u64 0, .int .u64 0] 44)).alloc (.cells #[.int .u64 0, .int .u64 0, .int .u64 0] 44)).alloc (.cells #[.int .u64 h, .int .u64 l] 36)) (w.heap.size + 1) (.int .u64 0) (.int .u64 0) (.int .u64 0)) := by
    have q := ((GrB.new (w.alloc (.cells #[.int .u64 h, .int .u64 l, .int .i64 E, .bool true] 38)) (.int .u64 0) (.int .u64 0) (.int .u64 0) 44).al (.cells #[.int .u64 0, .int .u64 0, .int .u64 0] 44)).al (.cells #[.int .u64 h, .int .u64 l] 36)
    show GrB _ _ _ _ _
    simpa using q
  have U0 : Hid (GrB ((((w.alloc (.cells #[.int .u64 h, .int .u64 l, .int .i64 E, .bool true] 38)).alloc (.cells #[.int .u64 0, .int .u64 0, .int .u64 0] 44)).alloc (.cells #[.int .u64 0, .int .u64 0, .int .u64 0] 44)).alloc (.cells #[.int .u64 h, .int .u64 l] 36)) (w.heap.size + 1 + 1) (.int .u64 0) (.int .u64 0) (.int .u64 0)) := by
    have q := (GrB.new ((w.alloc (.cells #[.int .u64 h, .int .u64 l, .int .i64 E, .bool true] 38)).alloc (.cells #[.int .u64 0, .int .u64 0, .int .u64 0] 44)) (.int .u64 0) (.int .u64 0) (.int .u64 0) 44).al (.cells #[.int .u64 h, .int .u64 l] 36)
    show GrB _ _ _ _ _
    simpa using q
  have D0 : Hid (TwB ((((w.alloc (.cells #[.int .u64 h, .int .u64 l, .int .i64 E, .bool true] 38)).alloc (.cells #[.int .u64 0, .int .u64 0, .int .u64 0] 44)).alloc (.cells #[.int .u64 0, .int .u64 0, .int .u64 0] 44)).alloc (.cells #[.int .u64 h, .int .u64 l] 36)) (w.heap.size + 1 + 1 + 1) (.int .u64 h) (.int .u64 l)) := by
    have q := TwB.new (((w.alloc (.cells #[.int .u64 h, .int .u64 l, .int .i64 E, .bool true] 38)).alloc (.cells #[.int .u64 0, .int .u64 0, .int .u64 0] 44)).alloc (.cells #[.int .u64 0, .int .u64 0, .int .u64 0] 44)) (.int .u64 h) (.int .u64 l) 36
    show TwB _ _ _ _
    simpa using q
  have B0 : Hid (Below w.heap.size w ((((w.alloc (.cells #[.int .u64 h, .int .u64 l, .int .i64 E, .bool true] 38)).alloc (.cells #[.int .u64 0, .int .u64 0, .int .u64 0] 44)).alloc (.cells #[.int .u64 0, .int .u64 0, .int .u64 0] 44)).alloc (.cells #[.int .u64 h, .int .u64 l] 36))) := ((((Below.refl _ _).alloc (Nat.le_refl _) _).alloc (by simp) _).alloc (by simp; omega) _).alloc (by simp; omega) _
  go_enter Tryd.func12, Tryd.ntmps12
  go_upto_region 4 with fail
  generalize ((((w.alloc (.cells #[.int .u64 h, .int .u64 l, .int .i64 E, .bool true] 38)).alloc (.cells #[.int .u64 0, .int .u64 0, .int .u64 0] 44)).alloc (.cells #[.int .u64 0, .int .u64 0, .int .u64 0] 44)).alloc (.cells #[.int .u64 h, .int .u64 l] 36)) = v at *
  have P2 : Hid (FlB v.drew w.heap.size _ _ _ _) := P0.out.drew
  have L2 : Hid (GrB v.drew (w.heap.size + 1) _ _ _) := L0.out.step (Below.refl _ _).drew
  have U2 : Hid (GrB v.drew (w.heap.size + 1 + 1) _ _ _) := U0.out.step (Below.refl _ _).drew
  have D2 : Hid (TwB v.drew (w.heap.size + 1 + 1 + 1) _ _) := D0.out.step (Below.refl _ _).drew
  have B2 : Hid (Below w.heap.size w v.drew) := B0.out.drew
  obtain ⟨y1, a0, a1, a2, a3, _, _, _, _⟩ := P0.out
  obtain ⟨y2, _, _, _, f0, f1, f2⟩ := L0.out
  obtain ⟨y3, _, _, _, g0, g1, g2⟩ := U0.out
  obtain ⟨y4, d0, d1, _, _⟩ := D0.out
  go_region_held3 (fun w' => w'.cell? ⟨w.heap.size, 0, none⟩ = some (.int .u64 h) ∧ w'.cell? ⟨w.heap.size, 1, none⟩ = some (.int .u64 l) ∧ w'.cell? ⟨w.heap.size + 1 + 1 + 1, 0, none⟩ = some (.int .u64 h) ∧ w'.cell? ⟨w.heap.size + 1 + 1 + 1, 1, none⟩ = some (.int .u64 l) ∧ w'.frozen? ⟨w.heap.size + 1, 0, none⟩ = false ∧ w'.frozen? ⟨w.heap.size + 1, 1, none⟩ = false ∧ w'.frozen? ⟨w.heap.size + 1, 2, none⟩ = false ∧ w'.frozen? ⟨w.heap.size + 1 + 1, 0, none⟩ = false ∧ w'.frozen? ⟨w.heap.size + 1 + 1, 1, none⟩ = false ∧ w'.frozen? ⟨w.heap.size + 1 + 1, 2, none⟩ = false) (simp [*, go_sem])
    (first
      | (go_at_call 21; refine (T1 _).mono ?_; rintro x1 wa ⟨rfl, ha⟩; have Pa : Hid (FlB wa _ _ _ _ _) := P2.out.step ha; have La : Hid (GrB wa _ _ _ _) := L2.out.step ha; have Ua : Hid (GrB wa _ _ _ _) := U2.out.step ha; have Da : Hid (TwB wa _ _ _) := D2.out.step ha; have Ba : Hid (Below w.heap.size w wa) := B2.out.trans (ha.mono B2.out.size); obtain ⟨ya1, aa0, aa1, aa2, aa3, _, _, _, _⟩ := Pa.out; obtain ⟨ya2, _, _, _, fa0, fa1, fa2⟩ := La.out; obtain ⟨ya3, _, _, _, ga0, ga1, ga2⟩ := Ua.out; obtain ⟨ya4, da0, da1, _, _⟩ := Da.out)
      | (go_at_call 21; refine (T1 _).mono ?_; rintro x1 wb ⟨rfl, hb⟩; have Pb : Hid (FlB wb _ _ _ _ _) := Pa.out.step hb; have Lb : Hid (GrB wb _ _ _ _) := La.out.step hb; have Ub : Hid (GrB wb _ _ _ _) := Ua.out.step hb; have Db : Hid (TwB wb _ _ _) := Da.out.step hb; have Bb : Hid (Below w.heap.size w wb) := Ba.out.trans (hb.mono Ba.out.size); obtain ⟨yb1, ab0, ab1, ab2, ab3, _, _, _, _⟩ := Pb.out; obtain ⟨yb2, _, _, _, fb0, fb1, fb2⟩ := Lb.out; obtain ⟨yb3, _, _, _, gb0, gb1, gb2⟩ := Ub.out; obtain ⟨yb4, db0, db1, _, _⟩ := Db.out))
  have L4 : Hid (GrB ((((((wb.setCell ⟨w.heap.size + 1, 0, none⟩ (.int .u64 p2)).setCell ⟨w.heap.size + 1, 1, none⟩ (.int .u64 p1)).setCell ⟨w.heap.size + 1, 2, none⟩ (.int .u64 p0)).setCell ⟨w.heap.size + 1 + 1, 0, none⟩ (.int .u64 p2)).setCell ⟨w.heap.size + 1 + 1, 1, none⟩ (.int .u64 p1)).setCell ⟨w.heap.size + 1 + 1, 2, none⟩ (.int .u64 p0)) (w.heap.size + 1) _ _ _) := (((Lb.out.fill _ _ _).far _ _ (by show w.heap.size + 1 ≠ w.heap.size + 1 + 1; omega)).far _ _ (by show w.heap.size + 1 ≠ w.heap.size + 1 + 1; omega)).far _ _ (by show w.heap.size + 1 ≠ w.heap.size + 1 + 1; omega)
  have U4 : Hid (GrB ((((((wb.setCell ⟨w.heap.size + 1, 0, none⟩ (.int .u64 p2)).setCell ⟨w.heap.size + 1, 1, none⟩ (.int .u64 p1)).setCell ⟨w.heap.size + 1, 2, none⟩ (.int .u64 p0)).setCell ⟨w.heap.size + 1 + 1, 0, none⟩ (.int .u64 p2)).setCell ⟨w.heap.size + 1 + 1, 1, none⟩ (.int .u64 p1)).setCell ⟨w.heap.size + 1 + 1, 2, none⟩ (.int .u64 p0)) (w.heap.size + 1 + 1) _ _ _) := (((Ub.out.far _ _ (by show w.heap.size + 1 + 1 ≠ w.heap.size + 1; omega)).far _ _ (by show w.heap.size + 1 + 1 ≠ w.heap.size + 1; omega)).far _ _ (by show w.heap.size + 1 + 1 ≠ w.heap.size + 1; omega)).fill _ _ _
  have D4 : Hid (TwB ((((((wb.setCell ⟨w.heap.size + 1, 0, none⟩ (.int .u64 p2)).setCell ⟨w.heap.size + 1, 1, none⟩ (.int .u64 p1)).setCell ⟨w.heap.size + 1, 2, none⟩ (.int .u64 p0)).setCell ⟨w.heap.size + 1 + 1, 0, none⟩ (.int .u64 p2)).setCell ⟨w.heap.size + 1 + 1, 1, none⟩ (.int .u64 p1)).setCell ⟨w.heap.size + 1 + 1, 2, none⟩ (.int .u64 p0)) (w.heap.size + 1 + 1 + 1) _ _) := (((((Db.out.far _ _ (by show w.heap.size + 1 + 1 + 1 ≠ w.heap.size + 1; omega)).far _ _ (by show w.heap.size + 1 + 1 + 1 ≠ w.heap.size + 1; omega)).far _ _ (by show w.heap.size + 1 + 1 + 1 ≠ w.heap.size + 1; omega)).far _ _ (by show w.heap.size + 1 + 1 + 1 ≠ w.heap.size + 1 + 1; omega)).far _ _ (by show w.heap.size + 1 + 1 + 1 ≠ w.heap.size + 1 + 1; omega)).far _ _ (by show w.heap.size + 1 + 1 + 1 ≠ w.heap.size + 1 + 1; omega)
  have B4 : Hid (Below w.heap.size w ((((((wb.setCell ⟨w.heap.size + 1, 0, none⟩ (.int .u64 p2)).setCell ⟨w.heap.size + 1, 1, none⟩ (.int .u64 p1)).setCell ⟨w.heap.size + 1, 2, none⟩ (.int .u64 p0)).setCell ⟨w.heap.size + 1 + 1, 0, none⟩ (.int .u64 p2)).setCell ⟨w.heap.size + 1 + 1, 1, none⟩ (.int .u64 p1)).setCell ⟨w.heap.size + 1 + 1, 2, none⟩ (.int .u64 p0))) := (((((Bb.out.setCell (Nat.le_add_right _ 1) _).setCell (Nat.le_add_right _ 1) _).setCell (Nat.le_add_right _ 1) _).setCell (Nat.le_add_right _ 2) _).setCell (Nat.le_add_right _ 2) _).setCell (Nat.le_add_right _ 2) _
  generalize (((((wb.setCell ⟨w.heap.size + 1, 0, none⟩ (.int .u64 p2)).setCell ⟨w.heap.size + 1, 1, none⟩ (.int .u64 p1)).setCell ⟨w.heap.size + 1, 2, none⟩ (.int .u64 p0)).setCell ⟨w.heap.size + 1 + 1, 0, none⟩ (.int .u64 p2)).setCell ⟨w.heap.size + 1 + 1, 1, none⟩ (.int .u64 p1)).setCell ⟨w.heap.size + 1 + 1, 2, none⟩ (.int .u64 p0) = u at *
  clear P0 L0 U0 D0 B0 P2 L2 U2 D2 B2 Pa La Ua Da Ba Pb Lb Ub Db Bb ha hb T1
  clear y1 a0 a1 a2 a3 y2 f0 f1 f2 y3 g0 g1 g2 y4 d0 d1 ya1 aa0 aa1 aa2 aa3 ya2 fa0 fa1 fa2 ya3 ga0 ga1 ga2 ya4 da0 da1 yb1 ab0 ab1 ab2 ab3 yb2 fb0 fb1 fb2 yb3 gb0 gb1 gb2 yb4 db0 db1
  obtain ⟨_, u0, u1, u2, k0, k1, k2⟩ := U4.out
  obtain ⟨_, d0, d1, _, _⟩ := D4.out
  go_wp2_with fail
  refine (PL _).mono ?_
  rintro e z ⟨rfl, hz⟩
  have L5 : Hid (GrB z (w.heap.size + 1) _ _ _) := L4.out.step hz
  have U5 : Hid (GrB z (w.heap.size + 1 + 1) _ _ _) := U4.out.step hz
  have B5 : Hid (Below w.heap.size w z) := B4.out.trans (hz.mono B4.out.size)
  clear L4 U4 D4 B4 u0 u1 u2 k0 k1 k2 d0 d1 hz PL
  obtain ⟨_, u0, u1, u2, k0, k1, k2⟩ := U5.out
  go_upto_region 7 with fail
  have L6 : Hid (GrB (((z.setCell ⟨w.heap.size + 1 + 1, 0, none⟩ (.int .u64 r2)).setCell ⟨w.heap.size + 1 + 1, 1, none⟩ (.int .u64 r1)).setCell ⟨w.heap.size + 1 + 1, 2, none⟩ (.int .u64 r0)) (w.heap.size + 1) _ _ _) := ((L5.out.far _ _ (by show w.heap.size + 1 ≠ w.heap.size + 1 + 1; omega)).far _ _ (by show w.heap.size + 1 ≠ w.heap.size + 1 + 1; omega)).far _ _ (by show w.heap.size + 1 ≠ w.heap.size + 1 + 1; omega)
  have U6 : Hid (GrB (((z.setCell ⟨w.heap.size + 1 + 1, 0, none⟩ (.int .u64 r2)).setCell ⟨w.heap.size + 1 + 1, 1, none⟩ (.int .u64 r1)).setCell ⟨w.heap.size + 1 + 1, 2, none⟩ (.int .u64 r0)) (w.heap.size + 1 + 1) _ _ _) := U5.out.fill _ _ _
  have B6 : Hid (Below w.heap.size w (((z.setCell ⟨w.heap.size + 1 + 1, 0, none⟩ (.int .u64 r2)).setCell ⟨w.heap.size + 1 + 1, 1, none⟩ (.int .u64 r1)).setCell ⟨w.heap.size + 1 + 1, 2, none⟩ (.int .u64 r0))) := ((B5.out.setCell (Nat.le_add_right _ 2) _).setCell (Nat.le_add_right _ 2) _).setCell (Nat.le_add_right _ 2) _
  generalize ((z.setCell ⟨w.heap.size + 1 + 1, 0, none⟩ (.int .u64 r2)).setCell ⟨w.heap.size + 1 + 1, 1, none⟩ (.int .u64 r1)).setCell ⟨w.heap.size + 1 + 1, 2, none⟩ (.int .u64 r0) = u' at *
  clear L5 U5 B5 u0 u1 u2 k0 k1 k2
  obtain ⟨_, l0, l1, l2', j0, j1, j2⟩ := L6.out
  obtain ⟨_, u0, u1, u2, k0, k1, k2⟩ := U6.out
  go_region_held3 (fun w' => w'.cell? ⟨w.heap.size + 1, 0, none⟩ = some (.int .u64 p2) ∧ w'.cell? ⟨w.heap.size + 1, 1, none⟩ = some (.int .u64 p1) ∧ w'.cell? ⟨w.heap.size + 1, 2, none⟩ = some (.int .u64 p0) ∧ w'.cell? ⟨w.heap.size + 1 + 1, 0, none⟩ = some (.int .u64 r2) ∧ w'.cell? ⟨w.heap.size + 1 + 1, 1, none⟩ = some (.int .u64 r1) ∧ w'.cell? ⟨w.heap.size + 1 + 1, 2, none⟩ = some (.int .u64 r0) ∧ w'.frozen? ⟨w.heap.size + 1, 0, none⟩ = false ∧ w'.frozen? ⟨w.heap.size + 1, 1, none⟩ = false ∧ w'.frozen? ⟨w.heap.size + 1, 2, none⟩ = false ∧ w'.frozen? ⟨w.heap.size + 1 + 1, 0, none⟩ = false ∧ w'.frozen? ⟨w.heap.size + 1 + 1, 1, none⟩ = false ∧ w'.frozen? ⟨w.heap.size + 1 + 1, 2, none⟩ = false) (simp [*, go_sem, World.cell?_setCell_same, World.cell?_setCell_other]) (fail)
  go_wp2
  have L7 : Hid (GrB ((((((u'.setCell ⟨w.heap.size + 1, 0, none⟩ (.int .u64 p2)).setCell ⟨w.heap.size + 1, 1, none⟩ (.int .u64 p1)).setCell ⟨w.heap.size + 1, 2, none⟩ (.int .u64 p0)).setCell ⟨w.heap.size + 1 + 1, 0, none⟩ (.int .u64 r2)).setCell ⟨w.heap.size + 1 + 1, 1, none⟩ (.int .u64 r1)).setCell ⟨w.heap.size + 1 + 1, 2, none⟩ (.int .u64 r0)).drew (w.heap.size + 1) _ _ _) := ((((L6.out.fill _ _ _).far _ _ (by show w.heap.size + 1 ≠ w.heap.size + 1 + 1; omega)).far _ _ (by show w.heap.size + 1 ≠ w.heap.size + 1 + 1; omega)).far _ _ (by show w.heap.size + 1 ≠ w.heap.size + 1 + 1; omega)).step (Below.refl _ _).drew
  have U7 : Hid (GrB ((((((u'.setCell ⟨w.heap.size + 1, 0, none⟩ (.int .u64 p2)).setCell ⟨w.heap.size + 1, 1, none⟩ (.int .u64 p1)).setCell ⟨w.heap.size + 1, 2, none⟩ (.int .u64 p0)).setCell ⟨w.heap.size + 1 + 1, 0, none⟩ (.int .u64 r2)).setCell ⟨w.heap.size + 1 + 1, 1, none⟩ (.int .u64 r1)).setCell ⟨w.heap.size + 1 + 1, 2, none⟩ (.int .u64 r0)).drew (w.heap.size + 1 + 1) _ _ _) := ((((U6.out.far _ _ (by show w.heap.size + 1 + 1 ≠ w.heap.size + 1; omega)).far _ _ (by show w.heap.size + 1 + 1 ≠ w.heap.size + 1; omega)).far _ _ (by show w.heap.size + 1 + 1 ≠ w.heap.size + 1; omega)).fill _ _ _).step (Below.refl _ _).drew
  have B7 : Hid (Below w.heap.size w ((((((u'.setCell ⟨w.heap.size + 1, 0, none⟩ (.int .u64 p2)).setCell ⟨w.heap.size + 1, 1, none⟩ (.int .u64 p1)).setCell ⟨w.heap.size + 1, 2, none⟩ (.int .u64 p0)).setCell ⟨w.heap.size + 1 + 1, 0, none⟩ (.int .u64 r2)).setCell ⟨w.heap.size + 1 + 1, 1, none⟩ (.int .u64 r1)).setCell ⟨w.heap.size + 1 + 1, 2, none⟩ (.int .u64 r0)).drew) := ((((((B6.out.setCell (Nat.le_add_right _ 1) _).setCell (Nat.le_add_right _ 1) _).setCell (Nat.le_add_right _ 1) _).setCell (Nat.le_add_right _ 2) _).setCell (Nat.le_add_right _ 2) _).setCell (Nat.le_add_right _ 2) _).drew
  generalize ((((((u'.setCell ⟨w.heap.size + 1, 0, none⟩ (.int .u64 p2)).setCell ⟨w.heap.size + 1, 1, none⟩ (.int .u64 p1)).setCell ⟨w.heap.size + 1, 2, none⟩ (.int .u64 p0)).setCell ⟨w.heap.size + 1 + 1, 0, none⟩ (.int .u64 r2)).setCell ⟨w.heap.size + 1 + 1, 1, none⟩ (.int .u64 r1)).setCell ⟨w.heap.size + 1 + 1, 2, none⟩ (.int .u64 r0)).drew = z9 at *
  obtain ⟨_, n0, n1, n2, _, _, _⟩ := L7.out
  obtain ⟨_, o0, o1, o2, _, _, _⟩ := U7.out
  exact bodyPost_ret (v := .tuple #[.agg #[.int .u64 p2, .int .u64 p1, .int .u64 p0], .agg #[.int .u64 r2, .int .u64 r1, .int .u64 r0]]) (by simp [results, Tryd.results12, go_sem, n0, n1, n2, o0, o1, o2]) rfl ⟨rfl, B7.out⟩

set_option maxRecDepth 100000 in
set_option maxHeartbeats 2000000 in
theorem bounds_cn {M m : Nat} {E : Int} (hM : M + 1 < 2 ^ 128) (hm : m < 18446744073709551616) (w : World) : Calls Tryd.prog 12 #[.int .u64 (m : Int), .bool false, pwV M E false] w fun e w' => e = .returned (.tuple #[lgV (M * m), lgV ((M + 1) * m)]) ∧ Below w.heap.size w w' := by
  have T1 := fun W => times_ok (M := M) (b := m) (by omega) hm W
  have T2 := fun W => times_ok (M := M + 1) (b := m) hM hm W
  have AD := fun W => wadd_any (hiW M) (loW M) 0 1 (hiW_word (by omega)) (loW_word M) ⟨by decide, by decide⟩ ⟨by decide, by decide⟩ W
  rw [(one_more hM).1, (one_more hM).2] at AD
  unfold lgV at *
  unfold pwV
  generalize x2 (M * m) = p2 at *
  generalize x1 (M * m) = p1 at *
  generalize x0 (M * m) = p0 at *
  generalize x2 ((M + 1) * m) = q2 at *
  generalize x1 ((M + 1) * m) = q1 at *
  generalize x0 ((M + 1) * m) = q0 at *
  generalize hiW (M + 1) = h2 at *
  generalize loW (M + 1) = l2 at *
  generalize sOv (hiW M) (loW M) 0 1 = ov at *
  generalize hiW M = h at *
  generalize loW M = l at *
  clear hM hm
  have P0 : Hid (FlB ((((w.alloc (.cells #[.int .u64 h, .int .u64 l, .int .i64 E, .bool false] 38)).alloc (.cells #[.int .u64 0, .int .u64 0, .int .u64 0] 44)).alloc (.cells #[.int .u64 0, .int .u64 0, .int .u64 0] 44)).alloc (.cells #[.int .u64 h, .int .u64 l] 36)) w.heap.size _ _ _ _) := (((FlB.new w (.int .u64 h) (.int .u64 l) (.int .i64 E) (.bool false) 38).al _).al _).al _
  have L0 : Hid (GrB ((((w.alloc (.cells #[.int .u64 h, .int .u64 l, .int .i64 E, .bool false] 38)).alloc (.cells #[.int .u64 0, .int .u64 0, .int .u64 0] 44)).alloc (.cells #[.int .u64 0, .int .u64 0, .int .u64 0] 44)).alloc (.cells #[.int .u64 h, .int .u64 l] 36)) (w.heap.size + 1) (.int .u64 0) (.int .u64 0) (.int .u64 0)) := by
    have q := ((GrB.new (w.alloc (.cells #[.int .u64 h, .int .u64 l, .int .i64 E, .bool false] 38)) (.int .u64 0) (.int .u64 0) (.int .u64 0) 44).al (.cells #[.int .u64 0, .int .u64 0, .int .u64 0] 44)).al (.cells #[.int .u64 h, .int .u64 l] 36)
    show GrB _ _ _ _ _
    simpa using q
  have U0 : Hid (GrB ((((w.alloc (.cells #[.int .u64 h, .int .u64 l, .int .i64 E, .bool false] 38)).alloc (.cells #[.int .u64 0, .int .u64 0, .int .u64 0] 44)).alloc (.cells #[.int .u64 0, .int .u64 0, .int .u64 0] 44)).alloc (.cells #[.int .u64 h, .int .u64 l] 36)) (w.heap.size + 1 + 1) (.int .u64 0) (.int .u64 0) (.int .u64 0)) := by
    have q := (GrB.new ((w.alloc (.cells #[.int .u64 h, .int .u64 l, .int .i64 E, .bool false] 38)).alloc (.cells #[.int .u64 0, .int .u64 0, .int .u64 0] 44)) (.int .u64 0) (.int .u64 0) (.int .u64 0) 44).al (.cells #[.int .u64 h, .int .u64 l] 36)
    show GrB _ _ _ _ _
    simpa using q
  have D0 : Hid (TwB ((((w.alloc (.cells #[.int .u64 h, .int .u64 l, .int .i64 E, .bool false] 38)).alloc (.cells #[.int .u64 0, .int .u64 0, .int .u64 0] 44)).alloc (.cells #[.int .u64 0, .int .u64 0, .int .u64 0] 44)).alloc (.cells #[.int .u64 h, .int .u64 l] 36)) (w.heap.size + 1 + 1 + 1) (.int .u64 h) (.int .u64 l)) := by
    have q := TwB.new (((w.alloc (.cells #[.int .u64 h, .int .u64 l, .int .i64 E, .bool false] 38)).alloc (.cells #[.int .u64 0, .int .u64 0, .int .u64 0] 44)).alloc (.cells #[.int .u64 0, .int .u64 0, .int .u64 0] 44)) (.int .u64 h) (.int .u64 l) 36
    show TwB _ _ _ _
    simpa using q
  have B0 : Hid (Below w.heap.size w ((((w.alloc (.cells #[.int .u64 h, .int .u64 l, .int .i64 E, .bool false] 38)).alloc (.cells #[.int .u64 0, .int .u64 0, .int .u64 0] 44)).alloc (.cells #[.int .u64 0, .int .u64 0, .int .u64 0] 44)).alloc (.cells #[.int .u64 h, .int .u64 l] 36))) := ((((Below.refl _ _).alloc (Nat.le_refl _) _).alloc (by simp) _).alloc (by simp; omega) _).alloc (by simp; omega) _
  go_enter Tryd.func12, Tryd.ntmps12
  go_wp2_with fail
  refine (AD _).mono ?_
  rintro e v1 ⟨rfl, hb⟩
  have P1 : Hid (FlB v1 w.heap.size _ _ _ _) := P0.out.step hb
  have L1 : Hid (GrB v1 (w.heap.size + 1) _ _ _) := L0.out.step hb
  have U1 : Hid (GrB v1 (w.heap.size + 1 + 1) _ _ _) := U0.out.step hb
  have D1 : Hid (TwB v1 (w.heap.size + 1 + 1 + 1) _ _) := D0.out.step hb
  have B1 : Hid (Below w.heap.size w v1) := B0.out.trans (hb.mono B0.out.size)
  clear hb P0 L0 U0 D0 B0 AD
  obtain ⟨_, d0, d1, e0, e1⟩ := D1.out
  go_upto_region 4 with fail
  have P0 : Hid (FlB ((v1.setCell ⟨w.heap.size + 1 + 1 + 1, 0, none⟩ (.int .u64 h2)).setCell ⟨w.heap.size + 1 + 1 + 1, 1, none⟩ (.int .u64 l2)) w.heap.size _ _ _ _) := (P1.out.far _ _ (by show w.heap.size ≠ w.heap.size + 1 + 1 + 1; omega)).far _ _ (by show w.heap.size ≠ w.heap.size + 1 + 1 + 1; omega)
  have L0 : Hid (GrB ((v1.setCell ⟨w.heap.size + 1 + 1 + 1, 0, none⟩ (.int .u64 h2)).setCell ⟨w.heap.size + 1 + 1 + 1, 1, none⟩ (.int .u64 l2)) (w.heap.size + 1) _ _ _) := (L1.out.far _ _ (by show w.heap.size + 1 ≠ w.heap.size + 1 + 1 + 1; omega)).far _ _ (by show w.heap.size + 1 ≠ w.heap.size + 1 + 1 + 1; omega)
  have U0 : Hid (GrB ((v1.setCell ⟨w.heap.size + 1 + 1 + 1, 0, none⟩ (.int .u64 h2)).setCell ⟨w.heap.size + 1 + 1 + 1, 1, none⟩ (.int .u64 l2)) (w.heap.size + 1 + 1) _ _ _) := (U1.out.far _ _ (by show w.heap.size + 1 + 1 ≠ w.heap.size + 1 + 1 + 1; omega)).far _ _ (by show w.heap.size + 1 + 1 ≠ w.heap.size + 1 + 1 + 1; omega)
  have D0 : Hid (TwB ((v1.setCell ⟨w.heap.size + 1 + 1 + 1, 0, none⟩ (.int .u64 h2)).setCell ⟨w.heap.size + 1 + 1 + 1, 1, none⟩ (.int .u64 l2)) (w.heap.size + 1 + 1 + 1) _ _) := D1.out.fill _ _
  have B0 : Hid (Below w.heap.size w ((v1.setCell ⟨w.heap.size + 1 + 1 + 1, 0, none⟩ (.int .u64 h2)).setCell ⟨w.heap.size + 1 + 1 + 1, 1, none⟩ (.int .u64 l2))) := (B1.out.setCell (Nat.le_add_right _ 3) _).setCell (Nat.le_add_right _ 3) _
  clear P1 L1 U1 D1 B1 d0 d1 e0 e1
  generalize (v1.setCell ⟨w.heap.size + 1 + 1 + 1, 0, none⟩ (.int .u64 h2)).setCell ⟨w.heap.size + 1 + 1 + 1, 1, none⟩ (.int .u64 l2) = v at *
  have P2 : Hid (FlB v.drew w.heap.size _ _ _ _) := P0.out.drew
  have L2 : Hid (GrB v.drew (w.heap.size + 1) _ _ _) := L0.out.step (Below.refl _ _).drew
  have U2 : Hid (GrB v.drew (w.heap.size + 1 + 1) _ _ _) := U0.out.step (Below.refl _ _).drew
  have D2 : Hid (TwB v.drew (w.heap.size + 1 + 1 + 1) _ _) := D0.out.step (Below.refl _ _).drew
  have B2 : Hid (Below w.heap.size w v.drew) := B0.out.drew
  obtain ⟨y1, a0, a1, a2, a3, _, _, _, _⟩ := P0.out
  obtain ⟨y2, _, _, _, f0, f1, f2⟩ := L0.out
  obtain ⟨y3, _, _, _, g0, g1, g2⟩ := U0.out
  obtain ⟨y4, d0, d1, _, _⟩ := D0.out
  go_region_held3 (fun w' => w'.cell? ⟨w.heap.size, 0, none⟩ = some (.int .u64 h) ∧ w'.cell? ⟨w.heap.size, 1, none⟩ = some (.int .u64 l) ∧ w'.cell? ⟨w.heap.size + 1 + 1 + 1, 0, none⟩ = some (.int .u64 h2) ∧ w'.cell? ⟨w.heap.size + 1 + 1 + 1, 1, none⟩ = some (.int .u64 l2) ∧ w'.frozen? ⟨w.heap.size + 1, 0, none⟩ = false ∧ w'.frozen? ⟨w.heap.size + 1, 1, none⟩ = false ∧ w'.frozen? ⟨w.heap.size + 1, 2, none⟩ = false ∧ w'.frozen? ⟨w.heap.size + 1 + 1, 0, none⟩ = false ∧ w'.frozen? ⟨w.heap.size + 1 + 1, 1, none⟩ = false ∧ w'.frozen? ⟨w.heap.size + 1 + 1, 2, none⟩ = false) (simp [*, go_sem])
    (first
      | (go_at_call_of 21 (Value.agg #[.int .u64 h, .int .u64 l]); refine (T1 _).mono ?_; rintro x1 wa ⟨rfl, ha⟩; have Pa : Hid (FlB wa _ _ _ _ _) := P2.out.step ha; have La : Hid (GrB wa _ _ _ _) := L2.out.step ha; have Ua : Hid (GrB wa _ _ _ _) := U2.out.step ha; have Da : Hid (TwB wa _ _ _) := D2.out.step ha; have Ba : Hid (Below w.heap.size w wa) := B2.out.trans (ha.mono B2.out.size); obtain ⟨ya1, aa0, aa1, aa2, aa3, _, _, _, _⟩ := Pa.out; obtain ⟨ya2, _, _, _, fa0, fa1, fa2⟩ := La.out; obtain ⟨ya3, _, _, _, ga0, ga1, ga2⟩ := Ua.out; obtain ⟨ya4, da0, da1, _, _⟩ := Da.out)
      | (go_at_call_of 21 (Value.agg #[.int .u64 h2, .int .u64 l2]); refine (T2 _).mono ?_; rintro x1 wb ⟨rfl, hb⟩; have Pb : Hid (FlB wb _ _ _ _ _) := Pa.out.step hb; have Lb : Hid (GrB wb _ _ _ _) := La.out.step hb; have Ub : Hid (GrB wb _ _ _ _) := Ua.out.step hb; have Db : Hid (TwB wb _ _ _) := Da.out.step hb; have Bb : Hid (Below w.heap.size w wb) := Ba.out.trans (hb.mono Ba.out.size); obtain ⟨yb1, ab0, ab1, ab2, ab3, _, _, _, _⟩ := Pb.out; obtain ⟨yb2, _, _, _, fb0, fb1, fb2⟩ := Lb.out; obtain ⟨yb3, _, _, _, gb0, gb1, gb2⟩ := Ub.out; obtain ⟨yb4, db0, db1, _, _⟩ := Db.out))
  have L4 : Hid (GrB ((((((wb.setCell ⟨w.heap.size + 1, 0, none⟩ (.int .u64 p2)).setCell ⟨w.heap.size + 1, 1, none⟩ (.int .u64 p1)).setCell ⟨w.heap.size + 1, 2, none⟩ (.int .u64 p0)).setCell ⟨w.heap.size + 1 + 1, 0, none⟩ (.int .u64 q2)).setCell ⟨w.heap.size + 1 + 1, 1, none⟩ (.int .u64 q1)).setCell ⟨w.heap.size + 1 + 1, 2, none⟩ (.int .u64 q0)) (w.heap.size + 1) _ _ _) := (((Lb.out.fill _ _ _).far _ _ (by show w.heap.size + 1 ≠ w.heap.size + 1 + 1; omega)).far _ _ (by show w.heap.size + 1 ≠ w.heap.size + 1 + 1; omega)).far _ _ (by show w.heap.size + 1 ≠ w.heap.size + 1 + 1; omega)
  have U4 : Hid (GrB ((((((wb.setCell ⟨w.heap.size + 1, 0, none⟩ (.int .u64 p2)).setCell ⟨w.heap.size + 1, 1, none⟩ (.int .u64 p1)).setCell ⟨w.heap.size + 1, 2, none⟩ (.int .u64 p0)).setCell ⟨w.heap.size + 1 + 1, 0, none⟩ (.int .u64 q2)).setCell ⟨w.heap.size + 1 + 1, 1, none⟩ (.int .u64 q1)).setCell ⟨w.heap.size + 1 + 1, 2, none⟩ (.int .u64 q0)) (w.heap.size + 1 + 1) _ _ _) := (((Ub.out.far _ _ (by show w.heap.size + 1 + 1 ≠ w.heap.size + 1; omega)).far _ _ (by show w.heap.size + 1 + 1 ≠ w.heap.size + 1; omega)).far _ _ (by show w.heap.size + 1 + 1 ≠ w.heap.size + 1; omega)).fill _ _ _
  have D4 : Hid (TwB ((((((wb.setCell ⟨w.heap.size + 1, 0, none⟩ (.int .u64 p2)).setCell ⟨w.heap.size + 1, 1, none⟩ (.int .u64 p1)).setCell ⟨w.heap.size + 1, 2, none⟩ (.int .u64 p0)).setCell ⟨w.heap.size + 1 + 1, 0, none⟩ (.int .u64 q2)).setCell ⟨w.heap.size + 1 + 1, 1, none⟩ (.int .u64 q1)).setCell ⟨w.heap.size + 1 + 1, 2, none⟩ (.int .u64 q0)) (w.heap.size + 1 + 1 + 1) _ _) := (((((Db.out.far _ _ (by show w.heap.size + 1 + 1 + 1 ≠ w.heap.size + 1; omega)).far _ _ (by show w.heap.size + 1 + 1 + 1 ≠ w.heap.size + 1; omega)).far _ _ (by show w.heap.size + 1 + 1 + 1 ≠ w.heap.size + 1; omega)).far _ _ (by show w.heap.size + 1 + 1 + 1 ≠ w.heap.size + 1 + 1; omega)).far _ _ (by show w.heap.size + 1 + 1 + 1 ≠ w.heap.size + 1 + 1; omega)).far _ _ (by show w.heap.size + 1 + 1 + 1 ≠ w.heap.size + 1 + 1; omega)
  have B4 : Hid (Below w.heap.size w ((((((wb.setCell ⟨w.heap.size + 1, 0, none⟩ (.int .u64 p2)).setCell ⟨w.heap.size + 1, 1, none⟩ (.int .u64 p1)).setCell ⟨w.heap.size + 1, 2, none⟩ (.int .u64 p0)).setCell ⟨w.heap.size + 1 + 1, 0, none⟩ (.int .u64 q2)).setCell ⟨w.heap.size + 1 + 1, 1, none⟩ (.int .u64 q1)).setCell ⟨w.heap.size + 1 + 1, 2, none⟩ (.int .u64 q0))) := (((((Bb.out.setCell (Nat.le_add_right _ 1) _).setCell (Nat.le_add_right _ 1) _).setCell (Nat.le_add_right _ 1) _).setCell (Nat.le_add_right _ 2) _).setCell (Nat.le_add_right _ 2) _).setCell (Nat.le_add_right _ 2) _
  generalize (((((wb.setCell ⟨w.heap.size + 1, 0, none⟩ (.int .u64 p2)).setCell ⟨w.heap.size + 1, 1, none⟩ (.int .u64 p1)).setCell ⟨w.heap.size + 1, 2, none⟩ (.int .u64 p0)).setCell ⟨w.heap.size + 1 + 1, 0, none⟩ (.int .u64 q2)).setCell ⟨w.heap.size + 1 + 1, 1, none⟩ (.int .u64 q1)).setCell ⟨w.heap.size + 1 + 1, 2, none⟩ (.int .u64 q0) = u at *
  clear P0 L0 U0 D0 B0 P2 L2 U2 D2 B2 Pa La Ua Da Ba Pb Lb Ub Db Bb ha hb T1
  clear y1 a0 a1 a2 a3 y2 f0 f1 f2 y3 g0 g1 g2 y4 d0 d1 ya1 aa0 aa1 aa2 aa3 ya2 fa0 fa1 fa2 ya3 ga0 ga1 ga2 ya4 da0 da1 yb1 ab0 ab1 ab2 ab3 yb2 fb0 fb1 fb2 yb3 gb0 gb1 gb2 yb4 db0 db1
  go_upto_region 7 with fail
  have L6 : Hid (GrB u (w.heap.size + 1) _ _ _) := L4.out
  have U6 : Hid (GrB u (w.heap.size + 1 + 1) _ _ _) := U4.out
  have B6 : Hid (Below w.heap.size w u) := B4.out
  clear L4 U4 D4 B4
  obtain ⟨_, l0, l1, l2', j0, j1, j2⟩ := L6.out
  obtain ⟨_, u0, u1, u2, k0, k1, k2⟩ := U6.out
  go_region_held3 (fun w' => w'.cell? ⟨w.heap.size + 1, 0, none⟩ = some (.int .u64 p2) ∧ w'.cell? ⟨w.heap.size + 1, 1, none⟩ = some (.int .u64 p1) ∧ w'.cell? ⟨w.heap.size + 1, 2, none⟩ = some (.int .u64 p0) ∧ w'.cell? ⟨w.heap.size + 1 + 1, 0, none⟩ = some (.int .u64 q2) ∧ w'.cell? ⟨w.heap.size + 1 + 1, 1, none⟩ = some (.int .u64 q1) ∧ w'.cell? ⟨w.heap.size + 1 + 1, 2, none⟩ = some (.int .u64 q0) ∧ w'.frozen? ⟨w.heap.size + 1, 0, none⟩ = false ∧ w'.frozen? ⟨w.heap.size + 1, 1, none⟩ = false ∧ w'.frozen? ⟨w.heap.size + 1, 2, none⟩ = false ∧ w'.frozen? ⟨w.heap.size + 1 + 1, 0, none⟩ = false ∧ w'.frozen? ⟨w.heap.size + 1 + 1, 1, none⟩ = false ∧ w'.frozen? ⟨w.heap.size + 1 + 1, 2, none⟩ = false) (simp [*, go_sem, World.cell?_setCell_same, World.cell?_setCell_other]) (fail)
  go_wp2
  have L7 : Hid (GrB ((((((u.setCell ⟨w.heap.size + 1, 0, none⟩ (.int .u64 p2)).setCell ⟨w.heap.size + 1, 1, none⟩ (.int .u64 p1)).setCell ⟨w.heap.size + 1, 2, none⟩ (.int .u64 p0)).setCell ⟨w.heap.size + 1 + 1, 0, none⟩ (.int .u64 q2)).setCell ⟨w.heap.size + 1 + 1, 1, none⟩ (.int .u64 q1)).setCell ⟨w.heap.size + 1 + 1, 2, none⟩ (.int .u64 q0)).drew (w.heap.size + 1) _ _ _) := ((((L6.out.fill _ _ _).far _ _ (by show w.heap.size + 1 ≠ w.heap.size + 1 + 1; omega)).far _ _ (by show w.heap.size + 1 ≠ w.heap.size + 1 + 1; omega)).far _ _ (by show w.heap.size + 1 ≠ w.heap.size + 1 + 1; omega)).step (Below.refl _ _).drew
  have U7 : Hid (GrB ((((((u.setCell ⟨w.heap.size + 1, 0, none⟩ (.int .u64 p2)).setCell ⟨w.heap.size + 1, 1, none⟩ (.int .u64 p1)).setCell ⟨w.heap.size + 1, 2, none⟩ (.int .u64 p0)).setCell ⟨w.heap.size + 1 + 1, 0, none⟩ (.int .u64 q2)).setCell ⟨w.heap.size + 1 + 1, 1, none⟩ (.int .u64 q1)).setCell ⟨w.heap.size + 1 + 1, 2, none⟩ (.int .u64 q0)).drew (w.heap.size + 1 + 1) _ _ _) := ((((U6.out.far _ _ (by show w.heap.size + 1 + 1 ≠ w.heap.size + 1; omega)).far _ _ (by show w.heap.size + 1 + 1 ≠ w.heap.size + 1; omega)).far _ _ (by show w.heap.size + 1 + 1 ≠ w.heap.size + 1; omega)).fill _ _ _).step (Below.refl _ _).drew
  have B7 : Hid (Below w.heap.size w ((((((u.setCell ⟨w.heap.size + 1, 0, none⟩ (.int .u64 p2)).setCell ⟨w.heap.size + 1, 1, none⟩ (.int .u64 p1)).setCell ⟨w.heap.size + 1, 2, none⟩ (.int .u64 p0)).setCell ⟨w.heap.size + 1 + 1, 0, none⟩ (.int .u64 q2)).setCell ⟨w.heap.size + 1 + 1, 1, none⟩ (.int .u64 q1)).setCell ⟨w.heap.size + 1 + 1, 2, none⟩ (.int .u64 q0)).drew) := ((((((B6.out.setCell (Nat.le_add_right _ 1) _).setCell (Nat.le_add_right _ 1) _).setCell (Nat.le_add_right _ 1) _).setCell (Nat.le_add_right _ 2) _).setCell (Nat.le_add_right _ 2) _).setCell (Nat.le_add_right _ 2) _).drew
  generalize ((((((u.setCell ⟨w.heap.size + 1, 0, none⟩ (.int .u64 p2)).setCell ⟨w.heap.size + 1, 1, none⟩ (.int .u64 p1)).setCell ⟨w.heap.size + 1, 2, none⟩ (.int .u64 p0)).setCell ⟨w.heap.size + 1 + 1, 0, none⟩ (.int .u64 q2)).setCell ⟨w.heap.size + 1 + 1, 1, none⟩ (.int .u64 q1)).setCell ⟨w.heap.size + 1 + 1, 2, none⟩ (.int .u64 q0)).drew = z9 at *
  obtain ⟨_, n0, n1, n2, _, _, _⟩ := L7.out
  obtain ⟨_, o0, o1, o2, _, _, _⟩ := U7.out
  exact bodyPost_ret (v := .tuple #[.agg #[.int .u64 p2, .int .u64 p1, .int .u64 p0], .agg #[.int .u64 q2, .int .u64 q1, .int .u64 q0]]) (by simp [results, Tryd.results12, go_sem, n0, n1, n2, o0, o1, o2]) rfl ⟨rfl, B7.out⟩

set_option maxRecDepth 100000 in
set_option maxHeartbeats 2000000 in
theorem bounds_cm {M m : Nat} {E : Int} (hM : M + 1 < 2 ^ 128) (hm : m < 18446744073709551616) (w : World) : Calls Tryd.prog 12 #[.int .u64 (m : Int), .bool true, pwV M E false] w fun e w' => e = .returned (.tuple #[lgV (M * m), lgV ((M + 1) * m + (M + 1))]) ∧ Below w.heap.size w w' := by
  have T1 := fun W => times_ok (M := M) (b := m) (by omega) hm W
  have T2 := fun W => times_ok (M := M + 1) (b := m) hM hm W
  have AD := fun W => wadd_any (hiW M) (loW M) 0 1 (hiW_word (by omega)) (loW_word M) ⟨by decide, by decide⟩ ⟨by decide, by decide⟩ W
  rw [(one_more hM).1, (one_more hM).2] at AD
  have hs : (M + 1) * m + (M + 1) < 2 ^ 192 := by
    have q : (M + 1) * (m + 1) < 2 ^ 128 * 2 ^ 64 := Nat.lt_of_lt_of_le (Nat.mul_lt_mul_of_pos_right (show (M + 1) < 2 ^ 128 by omega) (Nat.succ_pos m)) (Nat.mul_le_mul_left _ hm)
    rw [Nat.mul_add, Nat.mul_one] at q
    exact q
  have PL := fun W => plus_ok (X := (M + 1) * m) (D := (M + 1)) (by omega) hs W
  clear hs
  unfold lgV at *
  unfold pwV
  generalize x2 (M * m) = p2 at *
  generalize x1 (M * m) = p1 at *
  generalize x0 (M * m) = p0 at *
  generalize x2 ((M + 1) * m) = q2 at *
  generalize x1 ((M + 1) * m) = q1 at *
  generalize x0 ((M + 1) * m) = q0 at *
  generalize hiW (M + 1) = h2 at *
  generalize loW (M + 1) = l2 at *
  generalize sOv (hiW M) (loW M) 0 1 = ov at *
  generalize x2 ((M + 1) * m + (M + 1)) = r2 at *
  generalize x1 ((M + 1) * m + (M + 1)) = r1 at *
  generalize x0 ((M + 1) * m + (M + 1)) = r0 at *
  generalize hiW M = h at *
  generalize loW M = l at *
  clear hM hm
  have P0 : Hid (FlB ((((w.alloc (.cells #[.int .u64 h, .int .u64 l, .int .i64 E, .bool false] 38)).alloc (.cells #[.int .u64 0, .int .u64 0, .int .u64 0] 44)).alloc (.cells #[.int .u64 0, .int .u64 0, .int .u64 0] 44)).alloc (.cells #[.int .u64 h, .int .u64 l] 36)) w.heap.size _ _ _ _) := (((FlB.new w (.int .u64 h) (.int .u64 l) (.int .i64 E) (.bool false) 38).al _).al _).al _
  have L0 : Hid (GrB ((((w.alloc (.cells #[.int .u64 h, .int .u64 l, .int .i64 E, .bool false] 38)).alloc (.cells #[.int .u64 0, .int .u64 0, .int .u64 0] 44)).alloc (.cells #[.int .u64 0, .int .u64 0, .int .u64 0] 44)).alloc (.cells #[.int .u64 h, .int .u64 l] 36)) (w.heap.size + 1) (.int .u64 0) (.int .u64 0) (.int .u64 0)) := by
    have q := ((GrB.new (w.alloc (.cells #[.int .u64 h, .int .u64 l, .int .i64 E, .bool false] 38)) (.int .u64 0) (.int .u64 0) (.int .u64 0) 44).al (.cells #[.int .u64 0, .int .u64 0, .int .u64 0] 44)).al (.cells #[.int .u64 h, .int .u64 l] 36)
    show GrB _ _ _ _ _
    simpa using q
  have U0 : Hid (GrB ((((w.alloc (.cells #[.int .u64 h, .int .u64 l, .int .i64 E, .bool false] 38)).alloc (.cells #[.int .u64 0, .int .u64 0, .int .u64 0] 44)).alloc (.cells #[.int .u64 0, .int .u64 0, .int .u64 0] 44)).alloc (.cells #[.int .u64 h, .int .u64 l] 36)) (w.heap.size + 1 + 1) (.int .u64 0) (.int .u64 0) (.int .u64 0)) := by
    have q := (GrB.new ((w.alloc (.cells #[.int .u64 h, .int .u64 l, .int .i64 E, .bool false] 38)).alloc (.cells #[.int .u64 0, .int .u64 0, .int .u64 0] 44)) (.int .u64 0) (.int .u64 0) (.int .u64 0) 44).al (.cells #[.int .u64 h, .int .u64 l] 36)
    show GrB _ _ _ _ _
    simpa using q
  have D0 : Hid (TwB ((((w.alloc (.cells #[.int .u64 h, .int .u64 l, .int .i64 E, .bool false] 38)).alloc (.cells #[.int .u64 0, .int .u64 0, .int .u64 0] 44)).alloc (.cells #[.int .u64 0, .int .u64 0, .int .u64 0] 44)).alloc (.cells #[.int .u64 h, .int .u64 l] 36)) (w.heap.size + 1 + 1 + 1) (.int .u64 h) (.int .u64 l)) := by
    have q := TwB.new (((w.alloc (.cells #[.int .u64 h, .int .u64 l, .int .i64 E, .bool false] 38)).alloc (.cells #[.int .u64 0, .int .u64 0, .int .u64 0] 44)).alloc (.cells #[.int .u64 0, .int .u64 0, .int .u64 0] 44)) (.int .u64 h) (.int .u64 l) 36
    show TwB _ _ _ _
    simpa using q
  have B0 : Hid (Below w.heap.size w ((((w.alloc (.cells #[.int .u64 h, .int .u64 l, .int .i64 E, .bool false] 38)).alloc (.cells #[.int .u64 0, .int .u64 0, .int .u64 0] 44)).alloc (.cells #[.int .u64 0, .int .u64 0, .int .u64 0] 44)).alloc (.cells #[.int .u64 h, .int .u64 l] 36))) := ((((Below.refl _ _).alloc (Nat.le_refl _) _).alloc (by simp) _).alloc (by simp; omega) _).alloc (by simp; omega) _
  go_enter Tryd.func12, Tryd.ntmps12
  go_wp2_with fail
  refine (AD _).mono ?_
  rintro e v1 ⟨rfl, hb⟩
  have P1 : Hid (FlB v1 w.heap.size _ _ _ _) := P0.out.step hb
  have L1 : Hid (GrB v1 (w.heap.size + 1) _ _ _) := L0.out.step hb
  have U1 : Hid (GrB v1 (w.heap.size + 1 + 1) _ _ _) := U0.out.step hb
  have D1 : Hid (TwB v1 (w.heap.size + 1 + 1 + 1) _ _) := D0.out.step hb
  have B1 : Hid (Below w.heap.size w v1) := B0.out.trans (hb.mono B0.out.size)
  clear hb P0 L0 U0 D0 B0 AD
  obtain ⟨_, d0, d1, e0, e1⟩ := D1.out
  go_upto_region 4 with fail
  have P0 : Hid (FlB ((v1.setCell ⟨w.heap.size + 1 + 1 + 1, 0, none⟩ (.int .u64 h2)).setCell ⟨w.heap.size + 1 + 1 + 1, 1, none⟩ (.int .u64 l2)) w.heap.size _ _ _ _) := (P1.out.far _ _ (by show w.heap.size ≠ w.heap.size + 1 + 1 + 1; omega)).far _ _ (by show w.heap.size ≠ w.heap.size + 1 + 1 + 1; omega)
  have L0 : Hid (GrB ((v1.setCell ⟨w.heap.size + 1 + 1 + 1, 0, none⟩ (.int .u64 h2)).setCell ⟨w.heap.size + 1 + 1 + 1, 1, none⟩ (.int .u64 l2)) (w.heap.size + 1) _ _ _) := (L1.out.far _ _ (by show w.heap.size + 1 ≠ w.heap.size + 1 + 1 + 1; omega)).far _ _ (by show w.heap.size + 1 ≠ w.heap.size + 1 + 1 + 1; omega)
  have U0 : Hid (GrB ((v1.setCell ⟨w.heap.size + 1 + 1 + 1, 0, none⟩ (.int .u64 h2)).setCell ⟨w.heap.size + 1 + 1 + 1, 1, none⟩ (.int .u64 l2)) (w.heap.size + 1 + 1) _ _ _) := (U1.out.far _ _ (by show w.heap.size + 1 + 1 ≠ w.heap.size + 1 + 1 + 1; omega)).far _ _ (by show w.heap.size + 1 + 1 ≠ w.heap.size + 1 + 1 + 1; omega)
  have D0 : Hid (TwB ((v1.setCell ⟨w.heap.size + 1 + 1 + 1, 0, none⟩ (.int .u64 h2)).setCell ⟨w.heap.size + 1 + 1 + 1, 1, none⟩ (.int .u64 l2)) (w.heap.size + 1 + 1 + 1) _ _) := D1.out.fill _ _
  have B0 : Hid (Below w.heap.size w ((v1.setCell ⟨w.heap.size + 1 + 1 + 1, 0, none⟩ (.int .u64 h2)).setCell ⟨w.heap.size + 1 + 1 + 1, 1, none⟩ (.int .u64 l2))) := (B1.out.setCell (Nat.le_add_right _ 3) _).setCell (Nat.le_add_right _ 3) _
  clear P1 L1 U1 D1 B1 d0 d1 e0 e1
  generalize (v1.setCell ⟨w.heap.size + 1 + 1 + 1, 0, none⟩ (.int .u64 h2)).setCell ⟨w.heap.size + 1 + 1 + 1, 1, none⟩ (.int .u64 l2) = v at *
  have P2 : Hid (FlB v.drew w.heap.size _ _ _ _) := P0.out.drew
  have L2 : Hid (GrB v.drew (w.heap.size + 1) _ _ _) := L0.out.step (Below.refl _ _).drew
  have U2 : Hid (GrB v.drew (w.heap.size + 1 + 1) _ _ _) := U0.out.step (Below.refl _ _).drew
  have D2 : Hid (TwB v.drew (w.heap.size + 1 + 1 + 1) _ _) := D0.out.step (Below.refl _ _).drew
  have B2 : Hid (Below w.heap.size w v.drew) := B0.out.drew
  obtain ⟨y1, a0, a1, a2, a3, _, _, _, _⟩ := P0.out
  obtain ⟨y2, _, _, _, f0, f1, f2⟩ := L0.out
  obtain ⟨y3, _, _, _, g0, g1, g2⟩ := U0.out
  obtain ⟨y4, d0, d1, _, _⟩ := D0.out
  go_region_held3 (fun w' => w'.cell? ⟨w.heap.size, 0, none⟩ = some (.int .u64 h) ∧ w'.cell? ⟨w.heap.size, 1, none⟩ = some (.int .u64 l) ∧ w'.cell? ⟨w.heap.size + 1 + 1 + 1, 0, none⟩ = some (.int .u64 h2) ∧ w'.cell? ⟨w.heap.size + 1 + 1 + 1, 1, none⟩ = some (.int .u64 l2) ∧ w'.frozen? ⟨w.heap.size + 1, 0, none⟩ = false ∧ w'.frozen? ⟨w.heap.size + 1, 1, none⟩ = false ∧ w'.frozen? ⟨w.heap.size + 1, 2, none⟩ = false ∧ w'.frozen? ⟨w.heap.size + 1 + 1, 0, none⟩ = false ∧ w'.frozen? ⟨w.heap.size + 1 + 1, 1, none⟩ = false ∧ w'.frozen? ⟨w.heap.size + 1 + 1, 2, none⟩ = false) (simp [*, go_sem])
    (first
      | (go_at_call_of 21 (Value.agg #[.int .u64 h, .int .u64 l]); refine (T1 _).mono ?_; rintro x1 wa ⟨rfl, ha⟩; have Pa : Hid (FlB wa _ _ _ _ _) := P2.out.step ha; have La : Hid (GrB wa _ _ _ _) := L2.out.step ha; have Ua : Hid (GrB wa _ _ _ _) := U2.out.step ha; have Da : Hid (TwB wa _ _ _) := D2.out.step ha; have Ba : Hid (Below w.heap.size w wa) := B2.out.trans (ha.mono B2.out.size); obtain ⟨ya1, aa0, aa1, aa2, aa3, _, _, _, _⟩ := Pa.out; obtain ⟨ya2, _, _, _, fa0, fa1, fa2⟩ := La.out; obtain ⟨ya3, _, _, _, ga0, ga1, ga2⟩ := Ua.out; obtain ⟨ya4, da0, da1, _, _⟩ := Da.out)
      | (go_at_call_of 21 (Value.agg #[.int .u64 h2, .int .u64 l2]); refine (T2 _).mono ?_; rintro x1 wb ⟨rfl, hb⟩; have Pb : Hid (FlB wb _ _ _ _ _) := Pa.out.step hb; have Lb : Hid (GrB wb _ _ _ _) := La.out.step hb; have Ub : Hid (GrB wb _ _ _ _) := Ua.out.step hb; have Db : Hid (TwB wb _ _ _) := Da.out.step hb; have Bb : Hid (Below w.heap.size w wb) := Ba.out.trans (hb.mono Ba.out.size); obtain ⟨yb1, ab0, ab1, ab2, ab3, _, _, _, _⟩ := Pb.out; obtain ⟨yb2, _, _, _, fb0, fb1, fb2⟩ := Lb.out; obtain ⟨yb3, _, _, _, gb0, gb1, gb2⟩ := Ub.out; obtain ⟨yb4, db0, db1, _, _⟩ := Db.out))
  have L4 : Hid (GrB ((((((wb.setCell ⟨w.heap.size + 1, 0, none⟩ (.int .u64 p2)).setCell ⟨w.heap.size + 1, 1, none⟩ (.int .u64 p1)).setCell ⟨w.heap.size + 1, 2, none⟩ (.int .u64 p0)).setCell ⟨w.heap.size + 1 + 1, 0, none⟩ (.int .u64 q2)).setCell ⟨w.heap.size + 1 + 1, 1, none⟩ (.int .u64 q1)).setCell ⟨w.heap.size + 1 + 1, 2, none⟩ (.int .u64 q0)) (w.heap.size + 1) _ _ _) := (((Lb.out.fill _ _ _).far _ _ (by show w.heap.size + 1 ≠ w.heap.size + 1 + 1; omega)).far _ _ (by show w.heap.size + 1 ≠ w.heap.size + 1 + 1; omega)).far _ _ (by show w.heap.size + 1 ≠ w.heap.size + 1 + 1; omega)
  have U4 : Hid (GrB ((((((wb.setCell ⟨w.heap.size + 1, 0, none⟩ (.int .u64 p2)).setCell ⟨w.heap.size + 1, 1, none⟩ (.int .u64 p1)).setCell ⟨w.heap.size + 1, 2, none⟩ (.int .u64 p0)).setCell ⟨w.heap.size + 1 + 1, 0, none⟩ (.int .u64 q2)).setCell ⟨w.heap.size + 1 + 1, 1, none⟩ (.int .u64 q1)).setCell ⟨w.heap.size + 1 + 1, 2, none⟩ (.int .u64 q0)) (w.heap.size + 1 + 1) _ _ _) := (((Ub.out.far _ _ (by show w.heap.size + 1 + 1 ≠ w.heap.size + 1; omega)).far _ _ (by show w.heap.size + 1 + 1 ≠ w.heap.size + 1; omega)).far _ _ (by show w.heap.size + 1 + 1 ≠ w.heap.size + 1; omega)).fill _ _ _
  have D4 : Hid (TwB ((((((wb.setCell ⟨w.heap.size + 1, 0, none⟩ (.int .u64 p2)).setCell ⟨w.heap.size + 1, 1, none⟩ (.int .u64 p1)).setCell ⟨w.heap.size + 1, 2, none⟩ (.int .u64 p0)).setCell ⟨w.heap.size + 1 + 1, 0, none⟩ (.int .u64 q2)).setCell ⟨w.heap.size + 1 + 1, 1, none⟩ (.int .u64 q1)).setCell ⟨w.heap.size + 1 + 1, 2, none⟩ (.int .u64 q0)) (w.heap.size + 1 + 1 + 1) _ _) := (((((Db.out.far _ _ (by show w.heap.size + 1 + 1 + 1 ≠ w.heap.size + 1; omega)).far _ _ (by show w.heap.size + 1 + 1 + 1 ≠ w.heap.size + 1; omega)).far _ _ (by show w.heap.size + 1 + 1 + 1 ≠ w.heap.size + 1; omega)).far _ _ (by show w.heap.size + 1 + 1 + 1 ≠ w.heap.size + 1 + 1; omega)).far _ _ (by show w.heap.size + 1 + 1 + 1 ≠ w.heap.size + 1 + 1; omega)).far _ _ (by show w.heap.size + 1 + 1 + 1 ≠ w.heap.size + 1 + 1; omega)
  have B4 : Hid (Below w.heap.size w ((((((wb.setCell ⟨w.heap.size + 1, 0, none⟩ (.int .u64 p2)).setCell ⟨w.heap.size + 1, 1, none⟩ (.int .u64 p1)).setCell ⟨w.heap.size + 1, 2, none⟩ (.int .u64 p0)).setCell ⟨w.heap.size + 1 + 1, 0, none⟩ (.int .u64 q2)).setCell ⟨w.heap.size + 1 + 1, 1, none⟩ (.int .u64 q1)).setCell ⟨w.heap.size + 1 + 1, 2, none⟩ (.int .u64 q0))) := (((((Bb.out.setCell (Nat.le_add_right _ 1) _).setCell (Nat.le_add_right _ 1) _).setCell (Nat.le_add_right _ 1) _).setCell (Nat.le_add_right _ 2) _).setCell (Nat.le_add_right _ 2) _).setCell (Nat.le_add_right _ 2) _
  generalize (((((wb.setCell ⟨w.heap.size + 1, 0, none⟩ (.int .u64 p2)).setCell ⟨w.heap.size + 1, 1, none⟩ (.int .u64 p1)).setCell ⟨w.heap.size + 1, 2, none⟩ (.int .u64 p0)).setCell ⟨w.heap.size + 1 + 1, 0, none⟩ (.int .u64 q2)).setCell ⟨w.heap.size + 1 + 1, 1, none⟩ (.int .u64 q1)).setCell ⟨w.heap.size + 1 + 1, 2, none⟩ (.int .u64 q0) = u at *
  clear P0 L0 U0 D0 B0 P2 L2 U2 D2 B2 Pa La Ua Da Ba Pb Lb Ub Db Bb ha hb T1
  clear y1 a0 a1 a2 a3 y2 f0 f1 f2 y3 g0 g1 g2 y4 d0 d1 ya1 aa0 aa1 aa2 aa3 ya2 fa0 fa1 fa2 ya3 ga0 ga1 ga2 ya4 da0 da1 yb1 ab0 ab1 ab2 ab3 yb2 fb0 fb1 fb2 yb3 gb0 gb1 gb2 yb4 db0 db1
  obtain ⟨_, u0, u1, u2, k0, k1, k2⟩ := U4.out
  obtain ⟨_, d0, d1, _, _⟩ := D4.out
  go_wp2_with fail
  refine (PL _).mono ?_
  rintro e z ⟨rfl, hz⟩
  have L5 : Hid (GrB z (w.heap.size + 1) _ _ _) := L4.out.step hz
  have U5 : Hid (GrB z (w.heap.size + 1 + 1) _ _ _) := U4.out.step hz
  have B5 : Hid (Below w.heap.size w z) := B4.out.trans (hz.mono B4.out.size)
  clear L4 U4 D4 B4 u0 u1 u2 k0 k1 k2 d0 d1 hz PL
  obtain ⟨_, u0, u1, u2, k0, k1, k2⟩ := U5.out
  go_upto_region 7 with fail
  have L6 : Hid (GrB (((z.setCell ⟨w.heap.size + 1 + 1, 0, none⟩ (.int .u64 r2)).setCell ⟨w.heap.size + 1 + 1, 1, none⟩ (.int .u64 r1)).setCell ⟨w.heap.size + 1 + 1, 2, none⟩ (.int .u64 r0)) (w.heap.size + 1) _ _ _) := ((L5.out.far _ _ (by show w.heap.size + 1 ≠ w.heap.size + 1 + 1; omega)).far _ _ (by show w.heap.size + 1 ≠ w.heap.size + 1 + 1; omega)).far _ _ (by show w.heap.size + 1 ≠ w.heap.size + 1 + 1; omega)
  have U6 : Hid (GrB (((z.setCell ⟨w.heap.size + 1 + 1, 0, none⟩ (.int .u64 r2)).setCell ⟨w.heap.size + 1 + 1, 1, none⟩ (.int .u64 r1)).setCell ⟨w.heap.size + 1 + 1, 2, none⟩ (.int .u64 r0)) (w.heap.size + 1 + 1) _ _ _) := U5.out.fill _ _ _
  have B6 : Hid (Below w.heap.size w (((z.setCell ⟨w.heap.size + 1 + 1, 0, none⟩ (.int .u64 r2)).setCell ⟨w.heap.size + 1 + 1, 1, none⟩ (.int .u64 r1)).setCell ⟨w.heap.size + 1 + 1, 2, none⟩ (.int .u64 r0))) := ((B5.out.setCell (Nat.le_add_right _ 2) _).setCell (Nat.le_add_right _ 2) _).setCell (Nat.le_add_right _ 2) _
  generalize ((z.setCell ⟨w.heap.size + 1 + 1, 0, none⟩ (.int .u64 r2)).setCell ⟨w.heap.size + 1 + 1, 1, none⟩ (.int .u64 r1)).setCell ⟨w.heap.size + 1 + 1, 2, none⟩ (.int .u64 r0) = u' at *
  clear L5 U5 B5 u0 u1 u2 k0 k1 k2
  obtain ⟨_, l0, l1, l2', j0, j1, j2⟩ := L6.out
  obtain ⟨_, u0, u1, u2, k0, k1, k2⟩ := U6.out
  go_region_held3 (fun w' => w'.cell? ⟨w.heap.size + 1, 0, none⟩ = some (.int .u64 p2) ∧ w'.cell? ⟨w.heap.size + 1, 1, none⟩ = some (.int .u64 p1) ∧ w'.cell? ⟨w.heap.size + 1, 2, none⟩ = some (.int .u64 p0) ∧ w'.cell? ⟨w.heap.size + 1 + 1, 0, none⟩ = some (.int .u64 r2) ∧ w'.cell? ⟨w.heap.size + 1 + 1, 1, none⟩ = some (.int .u64 r1) ∧ w'.cell? ⟨w.heap.size + 1 + 1, 2, none⟩ = some (.int .u64 r0) ∧ w'.frozen? ⟨w.heap.size + 1, 0, none⟩ = false ∧ w'.frozen? ⟨w.heap.size + 1, 1, none⟩ = false ∧ w'.frozen? ⟨w.heap.size + 1, 2, none⟩ = false ∧ w'.frozen? ⟨w.heap.size + 1 + 1, 0, none⟩ = false ∧ w'.frozen? ⟨w.heap.size + 1 + 1, 1, none⟩ = false ∧ w'.frozen? ⟨w.heap.size + 1 + 1, 2, none⟩ = false) (simp [*, go_sem, World.cell?_setCell_same, World.cell?_setCell_other]) (fail)
  go_wp2
  have L7 : Hid (GrB ((((((u'.setCell ⟨w.heap.size + 1, 0, none⟩ (.int .u64 p2)).setCell ⟨w.heap.size + 1, 1, none⟩ (.int .u64 p1)).setCell ⟨w.heap.size + 1, 2, none⟩ (.int .u64 p0)).setCell ⟨w.heap.size + 1 + 1, 0, none⟩ (.int .u64 r2)).setCell ⟨w.heap.size + 1 + 1, 1, none⟩ (.int .u64 r1)).setCell ⟨w.heap.size + 1 + 1, 2, none⟩ (.int .u64 r0)).drew (w.heap.size + 1) _ _ _) := ((((L6.out.fill _ _ _).far _ _ (by show w.heap.size + 1 ≠ w.heap.size + 1 + 1; omega)).far _ _ (by show w.heap.size + 1 ≠ w.heap.size + 1 + 1; omega)).far _ _ (by show w.heap.size + 1 ≠ w.heap.size + 1 + 1; omega)).step (Below.refl _ _).drew
  have U7 : Hid (GrB ((((((u'.setCell ⟨w.heap.size + 1, 0, none⟩ (.int .u64 p2)).setCell ⟨w.heap.size + 1, 1, none⟩ (.int .u64 p1)).setCell ⟨w.heap.size + 1, 2, none⟩ (.int .u64 p0)).setCell ⟨w.heap.size + 1 + 1, 0, none⟩ (.int .u64 r2)).setCell ⟨w.heap.size + 1 + 1, 1, none⟩ (.int .u64 r1)).setCell ⟨w.heap.size + 1 + 1, 2, none⟩ (.int .u64 r0)).drew (w.heap.size + 1 + 1) _ _ _) := ((((U6.out.far _ _ (by show w.heap.size + 1 + 1 ≠ w.heap.size + 1; omega)).far _ _ (by show w.heap.size + 1 + 1 ≠ w.heap.size + 1; omega)).far _ _ (by show w.heap.size + 1 + 1 ≠ w.heap.size + 1; omega)).fill _ _ _).step (Below.refl _ _).drew
  have B7 : Hid (Below w.heap.size w ((((((u'.setCell ⟨w.heap.size + 1, 0, none⟩ (.int .u64 p2)).setCell ⟨w.heap.size + 1, 1, none⟩ (.int .u64 p1)).setCell ⟨w.heap.size + 1, 2, none⟩ (.int .u64 p0)).setCell ⟨w.heap.size + 1 + 1, 0, none⟩ (.int .u64 r2)).setCell ⟨w.heap.size + 1 + 1, 1, none⟩ (.int .u64 r1)).setCell ⟨w.heap.size + 1 + 1, 2, none⟩ (.int .u64 r0)).drew) := ((((((B6.out.setCell (Nat.le_add_right _ 1) _).setCell (Nat.le_add_right _ 1) _).setCell (Nat.le_add_right _ 1) _).setCell (Nat.le_add_right _ 2) _).setCell (Nat.le_add_right _ 2) _).setCell (Nat.le_add_right _ 2) _).drew
  generalize ((((((u'.setCell ⟨w.heap.size + 1, 0, none⟩ (.int .u64 p2)).setCell ⟨w.heap.size + 1, 1, none⟩ (.int .u64 p1)).setCell ⟨w.heap.size + 1, 2, none⟩ (.int .u64 p0)).setCell ⟨w.heap.size + 1 + 1, 0, none⟩ (.int .u64 r2)).setCell ⟨w.heap.size + 1 + 1, 1, none⟩ (.int .u64 r1)).setCell ⟨w.heap.size + 1 + 1, 2, none⟩ (.int .u64 r0)).drew = z9 at *
  obtain ⟨_, n0, n1, n2, _, _, _⟩ := L7.out
  obtain ⟨_, o0, o1, o2, _, _, _⟩ := U7.out
  exact bodyPost_ret (v := .tuple #[.agg #[.int .u64 p2, .int .u64 p1, .int .u64 p0], .agg #[.int .u64 r2, .int .u64 r1, .int .u64 r0]]) (by simp [results, Tryd.results12, go_sem, n0, n1, n2, o0, o1, o2]) rfl ⟨rfl, B7.out⟩
end Go.Proofs.YtohbggdkopmpfaaDoor
