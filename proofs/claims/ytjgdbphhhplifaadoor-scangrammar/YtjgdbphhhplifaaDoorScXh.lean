/-
  The document's Prefix: its boxes.
-/
import Derived.Test.YtjgdbphhhplifaaDoorScV
namespace Go.Proofs.YtjgdbphhhplifaaDoor
open Go.RowKit

def boxQ (g : Bool) (k : Int) : Array Value := #[.bool g, .int .i64 k, .string ⟨#[]⟩, .int .i64 0, .bool false, .int .u64 0, .int .i64 0, .bool false]
/-- Prefix's world: its answer's box, the parts' box. -/
structure QW (w wr : World) (g : Bool) (k : Int) : Prop where
  bel : Below w.heap.size w wr
  sz : w.heap.size + 1 < wr.heap.size
  p : ∀ o, wr.cell? ⟨w.heap.size + 1, o, none⟩ = (boxQ g k)[o]?
  pf : ∀ o, wr.frozen? ⟨w.heap.size + 1, o, none⟩ = false
  r : ∀ o, wr.cell? ⟨w.heap.size, o, none⟩ = zeroP[o]?
  fr : ∀ o, wr.frozen? ⟨w.heap.size, o, none⟩ = false
theorem QW.start (w : World) (g : Bool) : QW w ((w.alloc (.cells zeroP 26)).alloc (.cells (boxQ g 0) 26)) g 0 := by
  refine ⟨((Below.refl _ _).alloc (Nat.le_refl _) _).alloc (by simp) _, by simp, fun o => ?_, fun o => ?_, fun o => ?_, fun o => ?_⟩
  · rw [World.cell?_alloc_at _ _ _ _ (by simp)]
  · simp [go_sem]
  · rw [World.cell?_alloc_past _ _ _ (by simp), World.cell?_alloc_at _ _ _ _ rfl]
  · simp [go_sem]
theorem QW.step {w wr w2 : World} {g : Bool} {k : Int} (h : QW w wr g k) (hb : Below wr.heap.size wr w2) : QW w w2 g k := by
  have s := h.sz
  exact ⟨h.bel.trans (hb.mono (by omega)), by have := hb.size; omega,
    fun o => (hb.cell (p := ⟨w.heap.size + 1, o, none⟩) (by show w.heap.size + 1 < _; omega)).trans (h.p o), fun o => (hb.frozen (p := ⟨w.heap.size + 1, o, none⟩) (by show w.heap.size + 1 < _; omega)).trans (h.pf o),
    fun o => (hb.cell (p := ⟨w.heap.size, o, none⟩) (by show w.heap.size < _; omega)).trans (h.r o), fun o => (hb.frozen (p := ⟨w.heap.size, o, none⟩) (by show w.heap.size < _; omega)).trans (h.fr o)⟩
theorem QW.kind {w wr : World} {g : Bool} {k : Int} (h : QW w wr g k) (k2 : Int) : QW w (wr.setCell ⟨w.heap.size + 1, 1, none⟩ (.int .i64 k2)) g k2 := by
  have hs := h.sz
  refine ⟨h.bel.setCell (by show w.heap.size ≤ w.heap.size + 1; omega) _, by rw [World.size_setCell]; exact hs, fun o => ?_, fun o => ?_, fun o => ?_, fun o => ?_⟩
  · by_cases z : o = 1
    · subst z
      exact World.cell?_setCell_same wr ⟨w.heap.size + 1, 1, none⟩ _ (h.p 1)
    · rw [World.cell?_setCell_other wr ⟨w.heap.size + 1, 1, none⟩ ⟨w.heap.size + 1, o, none⟩ _ (by intro q; injection q with _ q _; exact z q.symm), h.p o]
      match o, z with
      | 0, _ => rfl
      | 1, z => exact absurd rfl z
      | 2, _ => rfl
      | 3, _ => rfl
      | 4, _ => rfl
      | 5, _ => rfl
      | 6, _ => rfl
      | 7, _ => rfl
      | n + 8, _ => rfl
  · rw [World.frozen?_setCell]; exact h.pf o
  · rw [World.cell?_setCell_other wr ⟨w.heap.size + 1, 1, none⟩ ⟨w.heap.size, o, none⟩ _ (by intro q; injection q with q _ _; omega)]
    exact h.r o
  · rw [World.frozen?_setCell]; exact h.fr o
theorem qw_le {w : World} {o : Nat} : w.heap.size ≤ (⟨w.heap.size, o, none⟩ : Addr).block := Nat.le_refl _
/-- A result of three. -/
def agP (g : Bool) (k : Int) (d : ByteArray) (p : Int) (c : Bool) (m x : Int) (t : Bool) : Value := .agg #[.bool g, .int .i64 k, .string d, .int .i64 p, .bool c, .int .u64 m, .int .i64 x, .bool t]
end Go.Proofs.YtjgdbphhhplifaaDoor
