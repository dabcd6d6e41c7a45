/-
  An integer to be laid, as an argument: a struct of five fields, opened and shut; integers of 64 bits.
-/
import Derived.Test.YthjflphfjemanaaDoorBsX
namespace Go.Proofs.YthjflphfjemanaaDoor
open Go.ChangeShapes Go.WideShapes Go.ChangeAt Go.RowKit Go.Joins

theorem int_of_i64 {x : Int} (h : (Lit.int .i64 x).wf = true) : -9223372036854775808 ≤ x ∧ x ≤ 9223372036854775807 := by
  simp [Lit.wf, IntKind.min, IntKind.max, IntKind.signed, IntKind.bits] at h
  omega
theorem five_of {α : Type} {l : List α} (h : l.length = 5) : ∃ a b c d e, l = [a, b, c, d, e] := by
  match l, h with
  | [a, b, c, d, e], _ => exact ⟨a, b, c, d, e, rfl⟩
theorem cellsL : Tryd.prog.cellsOf 41 = 5 := by kernel_rfl
theorem cells2 : Tryd.prog.cellsOf 2 = 1 := by kernel_rfl
theorem cells3 : Tryd.prog.cellsOf 3 = 1 := by kernel_rfl
theorem cells4 : Tryd.prog.cellsOf 4 = 1 := by kernel_rfl
/-- The struct's value, and what it reads as. -/
def layV (v b k g : Int) (p : Bool) : Value := .agg #[.int .i64 v, .int .i64 b, .int .i64 k, .int .i64 g, .bool p]
def layD (H : Type) (v b k g : Int) (p : Bool) : DataW H := .agg [.lit (.int .i64 v), .lit (.int .i64 b), .lit (.int .i64 k), .lit (.int .i64 g), .lit (.bool p)]
set_option maxRecDepth 100000 in
theorem lay_open {H : Type} {enc : TypeId × Value → H} {W : World} {base b0 : Nat} {spare : Nat → Bool} {held : Bool} {r : Reach} {v : Value} {d : DataW H} {ps : List MemPlace}
    (hv : Value.okWide Tryd.prog W r b0 41 v) (h : DataW.Trod enc Tryd.prog W base spare held 41 v d ps) :
    ∃ (x b k g : Int) (p : Bool), v = layV x b k g p ∧ d = layD H x b k g p ∧ ps = [] ∧ (Lit.int .i64 x).wf = true ∧ (Lit.int .i64 b).wf = true ∧ (Lit.int .i64 k).wf = true ∧ (Lit.int .i64 g).wf = true := by
  obtain ⟨cs, rfl, hsz⟩ := okWide_struct Tryd.underlying41 hv
  obtain ⟨fuel, hf⟩ := h
  obtain ⟨xs, n, _, hx, _, hl, hr⟩ := DataW.trod_struct Tryd.underlying41 hf
  obtain ⟨y0, y1, y2, y3, y4, rfl⟩ := five_of hl
  obtain ⟨c0, c1, c2, c3, c4, hc⟩ := five_of (l := cs.toList) (by rw [Array.length_toList]; exact hsz.trans cellsL)
  obtain rfl : cs = #[c0, c1, c2, c3, c4] := Array.toList_inj.1 hc
  have r0 := hr 0 _ rfl
  have r1 := hr 1 _ rfl
  have r2 := hr 2 _ rfl
  have r3 := hr 3 _ rfl
  have r4 := hr 4 _ rfl
  simp [Value.cells, cells2, cells3, cells4] at r0 r1 r2 r3 r4
  obtain ⟨x, e0, rfl, w0⟩ := DataW.trod_int Tryd.underlying2 r0
  obtain ⟨b, e1, rfl, w1⟩ := DataW.trod_int Tryd.underlying3 r1
  obtain ⟨k, e2, rfl, w2⟩ := DataW.trod_int Tryd.underlying3 r2
  obtain ⟨g, e3, rfl, w3⟩ := DataW.trod_int Tryd.underlying3 r3
  obtain ⟨p, e4, rfl⟩ := DataW.trod_bool Tryd.underlying4 r4
  simp at e0 e1 e2 e3 e4
  subst e0 e1 e2 e3 e4
  simp at hx
  exact ⟨x, b, k, g, p, rfl, hx.1, hx.2, w0, w1, w2, w3⟩
set_option maxRecDepth 100000 in
theorem lay_shut {H : Type} {enc : TypeId × Value → H} {W : World} {base : Nat} {spare : Nat → Bool} {held : Bool} {x b k g : Int} {p : Bool}
    (w0 : (Lit.int .i64 x).wf = true) (w1 : (Lit.int .i64 b).wf = true) (w2 : (Lit.int .i64 k).wf = true) (w3 : (Lit.int .i64 g).wf = true) :
    DataW.Trod enc Tryd.prog W base spare held 41 (layV x b k g p) (layD H x b k g p) [] := by
  have z := trod_struct_mk (enc := enc) (w := W) (base := base) (spare := spare) (held := held) (n := 1) (cs := [.int .i64 x, .int .i64 b, .int .i64 k, .int .i64 g, .bool p])
    (xs := [(.lit (.int .i64 x), []), (.lit (.int .i64 b), []), (.lit (.int .i64 k), []), (.lit (.int .i64 g), []), (.lit (.bool p), [])]) Tryd.underlying41 (by rw [cellsL]; rfl)
    (by simp [cells2, cells3, cells4, DataW.trod, Tryd.underlying2, Tryd.underlying3, Tryd.underlying4, w0, w1, w2, w3])
  exact ⟨2, by simpa [Value.cells, layV, layD] using z⟩
end Go.Proofs.YthjflphfjemanaaDoor
