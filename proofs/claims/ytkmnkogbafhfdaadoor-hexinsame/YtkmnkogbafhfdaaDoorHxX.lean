/-
  A text's parts (a struct that holds a struct, eight cells) and a number of base two (four cells) as arguments, opened and shut.
-/
import Derived.Test.YtkmnkogbafhfdaaDoorBtLd
import Derived.Test.YtkmnkogbafhfdaaDoorHxB
namespace Go.Proofs.YtkmnkogbafhfdaaDoor
open Go.ChangeShapes Go.WideShapes Go.ChangeAt Go.RowKit Go.Joins

theorem six_of {α : Type} {l : List α} (h : l.length = 6) : ∃ a b c d e f, l = [a, b, c, d, e, f] := by
  match l, h with
  | [a, b, c, d, e, f], _ => exact ⟨a, b, c, d, e, f, rfl⟩
theorem three_of {α : Type} {l : List α} (h : l.length = 3) : ∃ a b c, l = [a, b, c] := by
  match l, h with
  | [a, b, c], _ => exact ⟨a, b, c, rfl⟩
theorem eight_of {α : Type} {l : List α} (h : l.length = 8) : ∃ a b c d e f g h, l = [a, b, c, d, e, f, g, h] := by
  match l, h with
  | [a, b, c, d, e, f, g, h], _ => exact ⟨a, b, c, d, e, f, g, h, rfl⟩
theorem cellsP : Tryd.prog.cellsOf 26 = 8 := by kernel_rfl
theorem cellsD : Tryd.prog.cellsOf 23 = 3 := by kernel_rfl
theorem cellsHn : Tryd.prog.cellsOf 37 = 4 := by kernel_rfl
theorem cells9 : Tryd.prog.cellsOf 9 = 1 := by kernel_rfl
def ptD (H : Type) (c : Bool) (k : Int) (d : ByteArray) (q : Int) (u : Bool) (m e : Int) (r : Bool) : DataW H := .agg [.lit (.bool c), .lit (.int .i64 k), .agg [.lit (.string d.data.toList), .lit (.int .i64 q), .lit (.bool u)], .lit (.int .u64 m), .lit (.int .i64 e), .lit (.bool r)]
set_option maxRecDepth 100000 in
theorem pt_open {H : Type} {enc : TypeId × Value → H} {W : World} {base b0 : Nat} {spare : Nat → Bool} {held : Bool} {r : Reach} {v : Value} {d : DataW H} {ps : List MemPlace}
    (hv : Value.okWide Tryd.prog W r b0 26 v) (h : DataW.Trod enc Tryd.prog W base spare held 26 v d ps) :
    ∃ (c : Bool) (k : Int) (t : ByteArray) (q : Int) (u : Bool) (m e : Int) (r : Bool), v = ptV c k t q u m e r ∧ d = ptD H c k t q u m e r ∧ ps = [] ∧ (Lit.int .i64 k).wf = true ∧ t.size ≤ maxLen ∧ (Lit.int .i64 q).wf = true ∧ (Lit.int .u64 m).wf = true ∧ (Lit.int .i64 e).wf = true := by
  obtain ⟨cs, rfl, hsz⟩ := okWide_struct Tryd.underlying26 hv
  obtain ⟨fuel, hf⟩ := h
  obtain ⟨xs, n, _, hx, _, hl, hr⟩ := DataW.trod_struct Tryd.underlying26 hf
  obtain ⟨y0, y1, y2, y3, y4, y5, rfl⟩ := six_of hl
  obtain ⟨c0, c1, c2, c3, c4, c5, c6, c7, hc⟩ := eight_of (l := cs.toList) (by rw [Array.length_toList]; exact hsz.trans cellsP)
  obtain rfl : cs = #[c0, c1, c2, c3, c4, c5, c6, c7] := Array.toList_inj.1 hc
  have r0 := hr 0 _ rfl
  have r1 := hr 1 _ rfl
  have r2 := hr 2 _ rfl
  have r3 := hr 3 _ rfl
  have r4 := hr 4 _ rfl
  have r5 := hr 5 _ rfl
  simp [Value.cells, cellsU, cells3, cells4, cellsD] at r0 r1 r2 r3 r4 r5
  obtain ⟨c, e0, rfl⟩ := DataW.trod_bool Tryd.underlying4 r0
  obtain ⟨k, e1, rfl, w1⟩ := DataW.trod_int Tryd.underlying3 r1
  obtain ⟨zs, n2, _, hx2, _, hl2, hr2⟩ := DataW.trod_struct Tryd.underlying23 r2
  obtain ⟨m, e3, rfl, w3⟩ := DataW.trod_int Tryd.underlying24 r3
  obtain ⟨e, e4, rfl, w4⟩ := DataW.trod_int Tryd.underlying3 r4
  obtain ⟨r, e5, rfl⟩ := DataW.trod_bool Tryd.underlying4 r5
  obtain ⟨z0, z1, z2, rfl⟩ := three_of hl2
  have q0 := hr2 0 _ rfl
  have q1 := hr2 1 _ rfl
  have q2 := hr2 2 _ rfl
  simp [cells9, cells3, cells4] at q0 q1 q2
  obtain ⟨t, f0, rfl, u0⟩ := DataW.trod_string Tryd.underlying9 q0
  obtain ⟨q, f1, rfl, u1⟩ := DataW.trod_int Tryd.underlying3 q1
  obtain ⟨u, f2, rfl⟩ := DataW.trod_bool Tryd.underlying4 q2
  simp at e0 e1 e3 e4 e5 f0 f1 f2
  subst e0 e1 e3 e4 e5 f0 f1 f2
  simp at hx2
  subst hx2
  simp at hx
  exact ⟨c, k, t, q, u, m, e, r, rfl, hx.1, hx.2, w1, u0, u1, w3, w4⟩
set_option maxRecDepth 100000 in
theorem pt_shut {H : Type} {enc : TypeId × Value → H} {W : World} {base : Nat} {spare : Nat → Bool} {held : Bool} {c : Bool} {k : Int} {t : ByteArray} {q : Int} {u : Bool} {m e : Int} {r : Bool}
    (w1 : (Lit.int .i64 k).wf = true) (w2 : t.size ≤ maxLen) (w3 : (Lit.int .i64 q).wf = true) (w4 : (Lit.int .u64 m).wf = true) (w5 : (Lit.int .i64 e).wf = true) :
    DataW.Trod enc Tryd.prog W base spare held 26 (ptV c k t q u m e r) (ptD H c k t q u m e r) [] := by
  have z := trod_struct_mk (enc := enc) (P := Tryd.prog) (t := 23) (w := W) (base := base) (spare := spare) (held := held) (n := 1) (cs := [.string t, .int .i64 q, .bool u])
    (xs := [(.lit (.string t.data.toList), []), (.lit (.int .i64 q), []), (.lit (.bool u), [])]) Tryd.underlying23 (by rw [cellsD]; rfl)
    (by simp [cells9, cells3, cells4, DataW.trod, Tryd.underlying3, Tryd.underlying4, Tryd.underlying9, w2, w3])
  have y := trod_struct_mk (enc := enc) (P := Tryd.prog) (t := 26) (w := W) (base := base) (spare := spare) (held := held) (n := 2) (cs := [.bool c, .int .i64 k, .string t, .int .i64 q, .bool u, .int .u64 m, .int .i64 e, .bool r])
    (xs := [(.lit (.bool c), []), (.lit (.int .i64 k), []), (.agg [.lit (.string t.data.toList), .lit (.int .i64 q), .lit (.bool u)], []), (.lit (.int .u64 m), []), (.lit (.int .i64 e), []), (.lit (.bool r), [])]) Tryd.underlying26 (by rw [cellsP]; rfl)
    (by
      have z' : DataW.trod enc Tryd.prog W base spare held 2 23 [.string t, .int .i64 q, .bool u] = some (.agg [.lit (.string t.data.toList), .lit (.int .i64 q), .lit (.bool u)], []) := by simpa using z
      simp [cellsU, cells3, cells4, cellsD, z']
      simp [DataW.trod, Tryd.underlying3, Tryd.underlying4, Tryd.underlying24, w1, w4, w5])
  exact ⟨3, by simpa [Value.cells, ptV, ptD] using y⟩

/-- A number of base two. -/
def hnV (c : Bool) (m e : Int) (r : Bool) : Value := .agg #[.bool c, .int .u64 m, .int .i64 e, .bool r]
def hnD (H : Type) (c : Bool) (m e : Int) (r : Bool) : DataW H := .agg [.lit (.bool c), .lit (.int .u64 m), .lit (.int .i64 e), .lit (.bool r)]
set_option maxRecDepth 100000 in
theorem hn_open {H : Type} {enc : TypeId × Value → H} {W : World} {base b0 : Nat} {spare : Nat → Bool} {held : Bool} {r : Reach} {v : Value} {d : DataW H} {ps : List MemPlace}
    (hv : Value.okWide Tryd.prog W r b0 37 v) (h : DataW.Trod enc Tryd.prog W base spare held 37 v d ps) :
    ∃ (c : Bool) (m e : Int) (r : Bool), v = hnV c m e r ∧ d = hnD H c m e r ∧ ps = [] ∧ (Lit.int .u64 m).wf = true ∧ (Lit.int .i64 e).wf = true := by
  obtain ⟨cs, rfl, hsz⟩ := okWide_struct Tryd.underlying37 hv
  obtain ⟨fuel, hf⟩ := h
  obtain ⟨xs, n, _, hx, _, hl, hr⟩ := DataW.trod_struct Tryd.underlying37 hf
  obtain ⟨y0, y1, y2, y3, rfl⟩ := four_of hl
  obtain ⟨c0, c1, c2, c3, hc⟩ := four_of (l := cs.toList) (by rw [Array.length_toList]; exact hsz.trans cellsHn)
  obtain rfl : cs = #[c0, c1, c2, c3] := Array.toList_inj.1 hc
  have r0 := hr 0 _ rfl
  have r1 := hr 1 _ rfl
  have r2 := hr 2 _ rfl
  have r3 := hr 3 _ rfl
  simp [Value.cells, cellsU, cells3, cells4] at r0 r1 r2 r3
  obtain ⟨c, e0, rfl⟩ := DataW.trod_bool Tryd.underlying4 r0
  obtain ⟨m, e1, rfl, w1⟩ := DataW.trod_int Tryd.underlying24 r1
  obtain ⟨e, e2, rfl, w2⟩ := DataW.trod_int Tryd.underlying3 r2
  obtain ⟨r, e3, rfl⟩ := DataW.trod_bool Tryd.underlying4 r3
  simp at e0 e1 e2 e3
  subst e0 e1 e2 e3
  simp at hx
  exact ⟨c, m, e, r, rfl, hx.1, hx.2, w1, w2⟩
set_option maxRecDepth 100000 in
theorem hn_shut {H : Type} {enc : TypeId × Value → H} {W : World} {base : Nat} {spare : Nat → Bool} {held : Bool} {c : Bool} {m e : Int} {r : Bool}
    (w1 : (Lit.int .u64 m).wf = true) (w2 : (Lit.int .i64 e).wf = true) :
    DataW.Trod enc Tryd.prog W base spare held 37 (hnV c m e r) (hnD H c m e r) [] := by
  have z := trod_struct_mk (enc := enc) (w := W) (base := base) (spare := spare) (held := held) (n := 1) (cs := [.bool c, .int .u64 m, .int .i64 e, .bool r])
    (xs := [(.lit (.bool c), []), (.lit (.int .u64 m), []), (.lit (.int .i64 e), []), (.lit (.bool r), [])]) Tryd.underlying37 (by rw [cellsHn]; rfl)
    (by simp [cellsU, cells3, cells4, DataW.trod, Tryd.underlying3, Tryd.underlying4, Tryd.underlying24, w1, w2])
  exact ⟨2, by simpa [Value.cells, hnV, hnD] using z⟩
end Go.Proofs.YtkmnkogbafhfdaaDoor
