/-
  Boxes of a law; its num; works.
-/
import Derived.Test.YtjgdbphhhplifaaDoorScH
namespace Go.Proofs.YtjgdbphhhplifaaDoor
open Go.RowKit

theorem num_nil (w : World) : Calls Tryd.prog 12 #[.nilIface] w fun e w' => e = .returned (.int .i64 0) ∧ w' = w := by
  go_enter Tryd.func12, Tryd.ntmps12
  go_wp2
  go_ret
  exact ⟨rfl, rfl⟩
theorem taNN (v : Value) (w : World) : (Instr.typeAssert (.iface 52 v) 28 52 true).run Tryd.prog w = .ok (.tuple #[v, .bool true]) w := by kernel_rfl
theorem num_errno (k : Int) (w : World) : Calls Tryd.prog 12 #[.iface 52 (.int .i64 k)] w fun e w' => e = .returned (.int .i64 k) ∧ w' = w := by
  have ta := fun W => taNN (.int .i64 k) W
  go_enter Tryd.func12, Tryd.ntmps12
  go_wp2
  go_ret
  exact ⟨rfl, rfl⟩
/-- A box of a law. -/
structure Bx (wr : World) (b : Nat) (c : Array Value) : Prop where
  lt : b < wr.heap.size
  cell : ∀ o, wr.cell? ⟨b, o, none⟩ = c[o]?
theorem Bx.new (w : World) (c : Array Value) (t : TypeId) : Bx (w.alloc (.cells c t)) w.heap.size c := ⟨by simp, fun o => World.cell?_alloc_at _ _ _ _ rfl⟩
theorem Bx.alloc {wr : World} {b : Nat} {c : Array Value} (h : Bx wr b c) (ob : Obj) : Bx (wr.alloc ob) b c := ⟨by rw [World.size_alloc]; have := h.lt; omega, fun o => (World.cell?_alloc_past _ _ _ h.lt).trans (h.cell o)⟩
theorem Bx.step {wr w2 : World} {b : Nat} {c : Array Value} (h : Bx wr b c) (hb : Below wr.heap.size wr w2) : Bx w2 b c := ⟨by have := hb.size; have := h.lt; omega, fun o => (hb.cell (p := ⟨b, o, none⟩) h.lt).trans (h.cell o)⟩
theorem Bx.drew {wr : World} {b : Nat} {c : Array Value} (h : Bx wr b c) : Bx wr.drew b c := ⟨h.lt, h.cell⟩
theorem str_eq (a : ByteArray) : (a.toList == a.toList) = true := by simp
theorem cS1 : scn [45, 49, 50, 46, 53, 48, 101, 51] = some { neg := true, kind := 1, dd := [49, 50, 53], dp := 5 } := by kernel_rfl
theorem cS2 : scn [48, 120, 49, 46, 56, 112, 45, 51] = some { kind := 2, mant := 24, exp := -7 } := by kernel_rfl
theorem cS3 : scn [49, 95, 95, 48] = none := by kernel_rfl
theorem cP4 : pfx [49, 101, 43, 120] = some ({ kind := 1, dd := [49], dp := 1 }, 1) := by kernel_rfl
theorem cV5 : scn [105, 110, 102] = some { kind := 3 } := by kernel_rfl
theorem cV6 : scn [43, 110, 97, 110] = none := by kernel_rfl
set_option maxRecDepth 100000 in
set_option maxHeartbeats 4000000 in
theorem works_any (w : World) : Calls Tryd.prog 14 #[] w fun e w' => e = .returned (.bool true) ∧ Below w.heap.size w w' := by
  have S1 : ∀ W, Calls Tryd.prog 8 #[.string ⟨#[45, 49, 50, 46, 53, 48, 101, 51]⟩] W fun e w' => e = .returned (.tuple #[.agg #[.bool true, .int .i64 1, .string ⟨#[49, 50, 53]⟩, .int .i64 5, .bool false, .int .u64 0, .int .i64 0, .bool false], .nilIface]) ∧ Below W.heap.size W w' := fun W => by have h := scan_any [45, 49, 50, 46, 53, 48, 101, 51] (by decide) W; rw [cS1] at h; exact h
  have S2 : ∀ W, Calls Tryd.prog 8 #[.string ⟨#[48, 120, 49, 46, 56, 112, 45, 51]⟩] W fun e w' => e = .returned (.tuple #[.agg #[.bool false, .int .i64 2, .string ⟨#[]⟩, .int .i64 0, .bool false, .int .u64 24, .int .i64 (-7), .bool false], .nilIface]) ∧ Below W.heap.size W w' := fun W => by have h := scan_any [48, 120, 49, 46, 56, 112, 45, 51] (by decide) W; rw [cS2] at h; exact h
  have S3 : ∀ W, Calls Tryd.prog 8 #[.string ⟨#[49, 95, 95, 48]⟩] W fun e w' => e = .returned (.tuple #[.agg #[.bool false, .int .i64 0, .string ⟨#[]⟩, .int .i64 0, .bool false, .int .u64 0, .int .i64 0, .bool false], .iface 52 (.int .i64 3)]) ∧ Below W.heap.size W w' := fun W => by have h := scan_any [49, 95, 95, 48] (by decide) W; rw [cS3] at h; exact h
  have P4 : ∀ W, Calls Tryd.prog 10 #[.string ⟨#[49, 101, 43, 120]⟩] W fun e w' => e = .returned (.tuple #[.agg #[.bool false, .int .i64 1, .string ⟨#[49]⟩, .int .i64 1, .bool false, .int .u64 0, .int .i64 0, .bool false], .int .i64 1, .nilIface]) ∧ Below W.heap.size W w' := fun W => by have h := prefix_any2 [49, 101, 43, 120] (by decide) W; rw [cP4] at h; exact h
  have V5 : ∀ W, Calls Tryd.prog 13 #[.string ⟨#[105, 110, 102]⟩] W fun e w' => e = .returned (.bool true) ∧ Below W.heap.size W w' := fun W => by have h := svalid_any [105, 110, 102] (by decide) W; rw [cV5] at h; exact h
  have V6 : ∀ W, Calls Tryd.prog 13 #[.string ⟨#[43, 110, 97, 110]⟩] W fun e w' => e = .returned (.bool false) ∧ Below W.heap.size W w' := fun W => by have h := svalid_any [43, 110, 97, 110] (by decide) W; rw [cV6] at h; exact h
  have N3 := fun W => num_errno 3 W
  go_enter Tryd.func14, Tryd.ntmps14
  go_wp2_with fail
  refine (S1 _).mono ?_
  rintro o w1 ⟨rfl, b1⟩
  have B1 : Hid (Below w.heap.size w w1) := b1
  clear b1
  have X1 : Hid (Bx (w1.alloc (.cells #[.bool true, .int .i64 1, .string ⟨#[49, 50, 53]⟩, .int .i64 5, .bool false, .int .u64 0, .int .i64 0, .bool false] 26)) w1.heap.size #[.bool true, .int .i64 1, .string ⟨#[49, 50, 53]⟩, .int .i64 5, .bool false, .int .u64 0, .int .i64 0, .bool false]) := Bx.new _ _ _
  go_wp2_with fail
  refine (S2 _).mono ?_
  rintro o w2 ⟨rfl, b2⟩
  have B2 : Hid (Below w.heap.size w w2) := (B1.out.alloc B1.out.size _).trans (b2.mono (by have := B1.out.size; simp; omega))
  have X1' : Hid (Bx w2 w1.heap.size #[.bool true, .int .i64 1, .string ⟨#[49, 50, 53]⟩, .int .i64 5, .bool false, .int .u64 0, .int .i64 0, .bool false]) := X1.out.step b2
  have X2 : Hid (Bx (w2.alloc (.cells #[.bool false, .int .i64 2, .string ⟨#[]⟩, .int .i64 0, .bool false, .int .u64 24, .int .i64 (-7), .bool false] 26)) w2.heap.size #[.bool false, .int .i64 2, .string ⟨#[]⟩, .int .i64 0, .bool false, .int .u64 24, .int .i64 (-7), .bool false]) := Bx.new _ _ _
  have X1 : Hid (Bx (w2.alloc (.cells #[.bool false, .int .i64 2, .string ⟨#[]⟩, .int .i64 0, .bool false, .int .u64 24, .int .i64 (-7), .bool false] 26)) w1.heap.size #[.bool true, .int .i64 1, .string ⟨#[49, 50, 53]⟩, .int .i64 5, .bool false, .int .u64 0, .int .i64 0, .bool false]) := X1'.out.alloc _
  clear b2 X1'
  go_wp2_with fail
  refine (S3 _).mono ?_
  rintro o w3 ⟨rfl, b3⟩
  have B3 : Hid (Below w.heap.size w w3) := (B2.out.alloc B2.out.size _).trans (b3.mono (by have := B2.out.size; simp; omega))
  have Y1 : Hid (Bx (w3.alloc (.cells #[.bool false, .int .i64 0, .string ⟨#[]⟩, .int .i64 0, .bool false, .int .u64 0, .int .i64 0, .bool false] 26)) w1.heap.size #[.bool true, .int .i64 1, .string ⟨#[49, 50, 53]⟩, .int .i64 5, .bool false, .int .u64 0, .int .i64 0, .bool false]) := (X1.out.step b3).alloc _
  have Y2 : Hid (Bx (w3.alloc (.cells #[.bool false, .int .i64 0, .string ⟨#[]⟩, .int .i64 0, .bool false, .int .u64 0, .int .i64 0, .bool false] 26)) w2.heap.size #[.bool false, .int .i64 2, .string ⟨#[]⟩, .int .i64 0, .bool false, .int .u64 24, .int .i64 (-7), .bool false]) := (X2.out.step b3).alloc _
  clear b3 X1 X2
  go_wp2_with fail
  refine (P4 _).mono ?_
  rintro o w4 ⟨rfl, b4⟩
  have B4 : Hid (Below w.heap.size w w4) := (B3.out.alloc B3.out.size _).trans (b4.mono (by have := B3.out.size; simp; omega))
  have Z1 : Hid (Bx w4 w1.heap.size #[.bool true, .int .i64 1, .string ⟨#[49, 50, 53]⟩, .int .i64 5, .bool false, .int .u64 0, .int .i64 0, .bool false]) := Y1.out.step b4
  have Z2 : Hid (Bx w4 w2.heap.size #[.bool false, .int .i64 2, .string ⟨#[]⟩, .int .i64 0, .bool false, .int .u64 24, .int .i64 (-7), .bool false]) := Y2.out.step b4
  clear b4 Y1 Y2
  obtain ⟨l1, c1⟩ := Z1.out
  obtain ⟨l2, c2⟩ := Z2.out
  have a0 : w4.cell? ⟨w1.heap.size, 0, none⟩ = some (.bool true) := c1 0
  have a1 : w4.cell? ⟨w1.heap.size, 1, none⟩ = some (.int .i64 1) := c1 1
  have a2 : w4.cell? ⟨w1.heap.size, 2, none⟩ = some (.string ⟨#[49, 50, 53]⟩) := c1 2
  have a3 : w4.cell? ⟨w1.heap.size, 3, none⟩ = some (.int .i64 5) := c1 3
  have a4 : w4.cell? ⟨w1.heap.size, 4, none⟩ = some (.bool false) := c1 4
  have a5 : w4.cell? ⟨w1.heap.size, 5, none⟩ = some (.int .u64 0) := c1 5
  have a6 : w4.cell? ⟨w1.heap.size, 6, none⟩ = some (.int .i64 0) := c1 6
  have a7 : w4.cell? ⟨w1.heap.size, 7, none⟩ = some (.bool false) := c1 7
  have d0 : w4.cell? ⟨w2.heap.size, 0, none⟩ = some (.bool false) := c2 0
  have d1 : w4.cell? ⟨w2.heap.size, 1, none⟩ = some (.int .i64 2) := c2 1
  have d2 : w4.cell? ⟨w2.heap.size, 2, none⟩ = some (.string ⟨#[]⟩) := c2 2
  have d3 : w4.cell? ⟨w2.heap.size, 3, none⟩ = some (.int .i64 0) := c2 3
  have d4 : w4.cell? ⟨w2.heap.size, 4, none⟩ = some (.bool false) := c2 4
  have d5 : w4.cell? ⟨w2.heap.size, 5, none⟩ = some (.int .u64 24) := c2 5
  have d6 : w4.cell? ⟨w2.heap.size, 6, none⟩ = some (.int .i64 (-7)) := c2 6
  have d7 : w4.cell? ⟨w2.heap.size, 7, none⟩ = some (.bool false) := c2 7
  clear c1 c2
  go_wp2_with fail
  refine (N3 _).mono ?_
  rintro o w5 ⟨rfl, rfl⟩
  go_wp2_with fail
  refine (V5 _).mono ?_
  rintro o w6 ⟨rfl, b6⟩
  have B6 : Hid (Below w.heap.size w w6) := (B4.out.alloc B4.out.size _).trans (b6.mono (by have := B4.out.size; simp; omega))
  clear b6
  go_wp2_with fail
  refine (V6 _).mono ?_
  rintro o w7 ⟨rfl, b7⟩
  have B7 : Hid (Below w.heap.size w w7) := B6.out.trans (b7.mono B6.out.size)
  clear b7
  go_wp2
  go_ret
  exact ⟨rfl, B7.out⟩
end Go.Proofs.YtjgdbphhhplifaaDoor
