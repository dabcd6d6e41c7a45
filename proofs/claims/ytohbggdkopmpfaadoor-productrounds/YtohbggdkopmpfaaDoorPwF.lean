/-
  Structs of four and of two cells in blocks that may be written.
-/
import Derived.Test.YtohbggdkopmpfaaDoorPgA
import Derived.Test.YtohbggdkopmpfaaDoorPn4
namespace Go.Proofs.YtohbggdkopmpfaaDoor
open Go.RowKit

/-- A struct of four fields in a block that may be written. -/
structure FlB (W : World) (K : Nat) (a b c d : Value) : Prop where
  lt : K < W.heap.size
  a0 : W.cell? ⟨K, 0, none⟩ = some a
  a1 : W.cell? ⟨K, 1, none⟩ = some b
  a2 : W.cell? ⟨K, 2, none⟩ = some c
  a3 : W.cell? ⟨K, 3, none⟩ = some d
  f0 : W.frozen? ⟨K, 0, none⟩ = false
  f1 : W.frozen? ⟨K, 1, none⟩ = false
  f2 : W.frozen? ⟨K, 2, none⟩ = false
  f3 : W.frozen? ⟨K, 3, none⟩ = false
theorem FlB.step {W W' : World} {K : Nat} {a b c d : Value} (h : FlB W K a b c d) (hb : Below W.heap.size W W') : FlB W' K a b c d := by
  have k := fun o => hb.cell (p := ⟨K, o, none⟩) h.lt
  have j := fun o => hb.frozen (p := ⟨K, o, none⟩) h.lt
  exact ⟨Nat.lt_of_lt_of_le h.lt hb.size, (k 0).trans h.a0, (k 1).trans h.a1, (k 2).trans h.a2, (k 3).trans h.a3, (j 0).trans h.f0, (j 1).trans h.f1, (j 2).trans h.f2, (j 3).trans h.f3⟩
theorem FlB.new (W : World) (a b c d : Value) (T : TypeId) : FlB (W.alloc (.cells #[a, b, c, d] T)) W.heap.size a b c d :=
  ⟨by simp, by simp, by simp, by simp, by simp, World.frozen?_alloc_new _ _ _ _, World.frozen?_alloc_new _ _ _ _, World.frozen?_alloc_new _ _ _ _, World.frozen?_alloc_new _ _ _ _⟩
theorem FlB.newAt (W : World) (a b c d : Value) (T : TypeId) {K : Nat} (h : K = W.heap.size) : FlB (W.alloc (.cells #[a, b, c, d] T)) K a b c d := by
  subst h; exact FlB.new W a b c d T
theorem FlB.drew {W : World} {K : Nat} {a b c d : Value} (h : FlB W K a b c d) : FlB W.drew K a b c d := h.step (Below.refl _ _).drew
theorem FlB.al {W : World} {K : Nat} {a b c d : Value} (h : FlB W K a b c d) (o : Obj) : FlB (W.alloc o) K a b c d := h.step ((Below.refl _ _).alloc (Nat.le_refl _) _)
theorem FlB.far {W : World} {K : Nat} {a b c d : Value} (h : FlB W K a b c d) (p : Addr) (v : Value) (n : K ≠ p.block) : FlB (W.setCell p v) K a b c d := by
  have e : (W.setCell p v).heap[K]? = W.heap[K]? := Below.heap_setCell W p v K n
  have k := fun o => World.cell?_of_block (w := W) (w' := W.setCell p v) (a := ⟨K, o, none⟩) e
  have j := fun o => World.frozen?_of_block (w := W) (w' := W.setCell p v) (a := ⟨K, o, none⟩) e
  have z : K < (W.setCell p v).heap.size := by simpa using h.lt
  exact ⟨z, (k 0).trans h.a0, (k 1).trans h.a1, (k 2).trans h.a2, (k 3).trans h.a3, (j 0).trans h.f0, (j 1).trans h.f1, (j 2).trans h.f2, (j 3).trans h.f3⟩
theorem FlB.set0 {W : World} {K : Nat} {a b c d : Value} (h : FlB W K a b c d) (v : Value) : FlB (W.setCell ⟨K, 0, none⟩ v) K v b c d := by
  obtain ⟨z, a0, a1, a2, a3, f0, f1, f2, f3⟩ := h
  exact ⟨by simpa using z, World.cell?_setCell_same _ _ _ a0, (World.cell?_setCell_other _ ⟨K, 0, none⟩ ⟨K, 1, none⟩ v (by intro e; cases e)).trans a1, (World.cell?_setCell_other _ ⟨K, 0, none⟩ ⟨K, 2, none⟩ v (by intro e; cases e)).trans a2, (World.cell?_setCell_other _ ⟨K, 0, none⟩ ⟨K, 3, none⟩ v (by intro e; cases e)).trans a3, (World.frozen?_setCell ..).trans f0, (World.frozen?_setCell ..).trans f1, (World.frozen?_setCell ..).trans f2, (World.frozen?_setCell ..).trans f3⟩
theorem FlB.set1 {W : World} {K : Nat} {a b c d : Value} (h : FlB W K a b c d) (v : Value) : FlB (W.setCell ⟨K, 1, none⟩ v) K a v c d := by
  obtain ⟨z, a0, a1, a2, a3, f0, f1, f2, f3⟩ := h
  exact ⟨by simpa using z, (World.cell?_setCell_other _ ⟨K, 1, none⟩ ⟨K, 0, none⟩ v (by intro e; cases e)).trans a0, World.cell?_setCell_same _ _ _ a1, (World.cell?_setCell_other _ ⟨K, 1, none⟩ ⟨K, 2, none⟩ v (by intro e; cases e)).trans a2, (World.cell?_setCell_other _ ⟨K, 1, none⟩ ⟨K, 3, none⟩ v (by intro e; cases e)).trans a3, (World.frozen?_setCell ..).trans f0, (World.frozen?_setCell ..).trans f1, (World.frozen?_setCell ..).trans f2, (World.frozen?_setCell ..).trans f3⟩
theorem FlB.set2 {W : World} {K : Nat} {a b c d : Value} (h : FlB W K a b c d) (v : Value) : FlB (W.setCell ⟨K, 2, none⟩ v) K a b v d := by
  obtain ⟨z, a0, a1, a2, a3, f0, f1, f2, f3⟩ := h
  exact ⟨by simpa using z, (World.cell?_setCell_other _ ⟨K, 2, none⟩ ⟨K, 0, none⟩ v (by intro e; cases e)).trans a0, (World.cell?_setCell_other _ ⟨K, 2, none⟩ ⟨K, 1, none⟩ v (by intro e; cases e)).trans a1, World.cell?_setCell_same _ _ _ a2, (World.cell?_setCell_other _ ⟨K, 2, none⟩ ⟨K, 3, none⟩ v (by intro e; cases e)).trans a3, (World.frozen?_setCell ..).trans f0, (World.frozen?_setCell ..).trans f1, (World.frozen?_setCell ..).trans f2, (World.frozen?_setCell ..).trans f3⟩
theorem FlB.set3 {W : World} {K : Nat} {a b c d : Value} (h : FlB W K a b c d) (v : Value) : FlB (W.setCell ⟨K, 3, none⟩ v) K a b c v := by
  obtain ⟨z, a0, a1, a2, a3, f0, f1, f2, f3⟩ := h
  exact ⟨by simpa using z, (World.cell?_setCell_other _ ⟨K, 3, none⟩ ⟨K, 0, none⟩ v (by intro e; cases e)).trans a0, (World.cell?_setCell_other _ ⟨K, 3, none⟩ ⟨K, 1, none⟩ v (by intro e; cases e)).trans a1, (World.cell?_setCell_other _ ⟨K, 3, none⟩ ⟨K, 2, none⟩ v (by intro e; cases e)).trans a2, World.cell?_setCell_same _ _ _ a3, (World.frozen?_setCell ..).trans f0, (World.frozen?_setCell ..).trans f1, (World.frozen?_setCell ..).trans f2, (World.frozen?_setCell ..).trans f3⟩
/-- A struct of two fields in a block that may be written. -/
structure TwB (W : World) (K : Nat) (a b : Value) : Prop where
  lt : K < W.heap.size
  a0 : W.cell? ⟨K, 0, none⟩ = some a
  a1 : W.cell? ⟨K, 1, none⟩ = some b
  f0 : W.frozen? ⟨K, 0, none⟩ = false
  f1 : W.frozen? ⟨K, 1, none⟩ = false
theorem TwB.step {W W' : World} {K : Nat} {a b : Value} (h : TwB W K a b) (hb : Below W.heap.size W W') : TwB W' K a b := by
  have k := fun o => hb.cell (p := ⟨K, o, none⟩) h.lt
  have j := fun o => hb.frozen (p := ⟨K, o, none⟩) h.lt
  exact ⟨Nat.lt_of_lt_of_le h.lt hb.size, (k 0).trans h.a0, (k 1).trans h.a1, (j 0).trans h.f0, (j 1).trans h.f1⟩
theorem TwB.new (W : World) (a b : Value) (T : TypeId) : TwB (W.alloc (.cells #[a, b] T)) W.heap.size a b :=
  ⟨by simp, by simp, by simp, World.frozen?_alloc_new _ _ _ _, World.frozen?_alloc_new _ _ _ _⟩
theorem TwB.al {W : World} {K : Nat} {a b : Value} (h : TwB W K a b) (o : Obj) : TwB (W.alloc o) K a b := h.step ((Below.refl _ _).alloc (Nat.le_refl _) _)
theorem TwB.far {W : World} {K : Nat} {a b : Value} (h : TwB W K a b) (p : Addr) (v : Value) (n : K ≠ p.block) : TwB (W.setCell p v) K a b := by
  have e : (W.setCell p v).heap[K]? = W.heap[K]? := Below.heap_setCell W p v K n
  have k := fun o => World.cell?_of_block (w := W) (w' := W.setCell p v) (a := ⟨K, o, none⟩) e
  have j := fun o => World.frozen?_of_block (w := W) (w' := W.setCell p v) (a := ⟨K, o, none⟩) e
  have z : K < (W.setCell p v).heap.size := by simpa using h.lt
  exact ⟨z, (k 0).trans h.a0, (k 1).trans h.a1, (j 0).trans h.f0, (j 1).trans h.f1⟩

end Go.Proofs.YtohbggdkopmpfaaDoor
