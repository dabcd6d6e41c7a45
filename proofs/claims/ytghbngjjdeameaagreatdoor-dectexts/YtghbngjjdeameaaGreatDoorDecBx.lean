/-
  A number in a box of memory.
-/
import Derived.Test.YtghbngjjdeameaaGreatDoorDecA
namespace Go.Proofs.YtghbngjjdeameaaGreatDoor
open Go.RowKit

/-- A number in a box. -/
structure BoxAt (W : World) (b : Nat) (s : ByteArray) (p : Int) (c : Bool) : Prop where
  lt : b < W.heap.size
  c0 : W.cell? ⟨b, 0, none⟩ = some (.string s)
  c1 : W.cell? ⟨b, 1, none⟩ = some (.int .i64 p)
  c2 : W.cell? ⟨b, 2, none⟩ = some (.bool c)
theorem BoxAt.al {W : World} {b : Nat} {s : ByteArray} {p : Int} {c : Bool} (h : BoxAt W b s p c) (ob : Obj) : BoxAt (W.alloc ob) b s p c := by
  have k : ∀ o, (W.alloc ob).cell? ⟨b, o, none⟩ = W.cell? ⟨b, o, none⟩ := fun o => World.cell?_alloc_lt W ob ⟨b, o, none⟩ h.lt
  exact ⟨by have := h.lt; simp; omega, (k 0).trans h.c0, (k 1).trans h.c1, (k 2).trans h.c2⟩
theorem BoxAt.step {W W' : World} {b : Nat} {s : ByteArray} {p : Int} {c : Bool} (h : BoxAt W b s p c) (hb : Below W.heap.size W W') : BoxAt W' b s p c := by
  have k : ∀ o, W'.cell? ⟨b, o, none⟩ = W.cell? ⟨b, o, none⟩ := fun o => hb.cell (p := ⟨b, o, none⟩) h.lt
  exact ⟨by have := h.lt; have := hb.size; omega, (k 0).trans h.c0, (k 1).trans h.c1, (k 2).trans h.c2⟩
theorem BoxAt.new (w : World) (s : ByteArray) (p : Int) (c : Bool) : BoxAt (w.alloc (.cells #[.string s, .int .i64 p, .bool c] 23)) w.heap.size s p c :=
  ⟨by simp, by simp, by simp, by simp⟩

end Go.Proofs.YtghbngjjdeameaaGreatDoor
