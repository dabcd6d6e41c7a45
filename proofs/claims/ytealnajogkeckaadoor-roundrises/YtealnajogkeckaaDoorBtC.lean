/-
  bits' shapeOf, shapeFor, Check, Unpack, Class, Inf, Zero, NaN, Most, Least, for every size.
-/
import Derived.Test.YtealnajogkeckaaDoorBtB
namespace Go.Proofs.YtealnajogkeckaaDoor
open Go.RowKit

/-- What a call has made, above what was there. -/
theorem bel_al {w W w1 : World} (h : Below w.heap.size w W) (hs : w.heap.size ≤ W.heap.size) (hb : Below W.heap.size W w1) : Below w.heap.size w w1 := h.trans (hb.mono hs)

set_option maxRecDepth 100000 in
set_option maxHeartbeats 1000000 in
theorem shapeOf_no {s : Int} (h : Sn s) (w : World) : Calls Tryd.prog 79 #[.int .i64 s] w fun e w' => e = .returned (.tuple #[.agg #[.int .u64 0, .int .u64 0, .int .i64 0, .int .i64 0], .iface 76 (.int .i64 5)]) ∧ Below w.heap.size w w' := by
  have p1 : (s == 32) = false := by simpa using h.1
  have p2 : (s == 64) = false := by simpa using h.2
  clear h
  go_enter Tryd.func79, Tryd.ntmps79
  go_wp2
  exact bodyPost_ret (v := .tuple #[.agg #[.int .u64 0, .int .u64 0, .int .i64 0, .int .i64 0], .iface 76 (.int .i64 5)]) (by simp [results, Tryd.results79, go_sem]) rfl ⟨rfl, (Below.refl _ _).alloc (Nat.le_refl _) _⟩
set_option maxRecDepth 100000 in
set_option maxHeartbeats 1000000 in
theorem shapeOf_32 (w : World) : Calls Tryd.prog 79 #[.int .i64 32] w fun e w' => e = .returned (.tuple #[.agg #[.int .u64 2147483648, .int .u64 2139095040, .int .i64 23, .int .i64 (-149)], .nilIface]) ∧ Below w.heap.size w w' := by
  have H := fun W => single_any W
  go_enter Tryd.func79, Tryd.ntmps79
  go_wp2_with fail
  refine (H _).mono ?_
  rintro e w1 ⟨rfl, hb⟩
  have T : Hid (FlB w1 w.heap.size _ _ _ _) := (FlB.new w (.int .u64 0) (.int .u64 0) (.int .i64 0) (.int .i64 0) 123).step hb
  have B : Hid (Below w.heap.size w w1) := ((Below.refl _ _).alloc (Nat.le_refl _) _).trans (hb.mono (by simp))
  clear hb
  obtain ⟨l, a0, a1, a2, a3, f0, f1, f2, f3⟩ := T.out
  go_wp2
  exact bodyPost_ret (v := .tuple #[.agg #[.int .u64 2147483648, .int .u64 2139095040, .int .i64 23, .int .i64 (-149)], .nilIface]) (by simp [results, Tryd.results79, go_sem, World.cell?_setCell_same, World.cell?_setCell_other, *]) rfl ⟨rfl, (((B.out.setCell (Nat.le_refl _) _).setCell (Nat.le_refl _) _).setCell (Nat.le_refl _) _).setCell (Nat.le_refl _) _⟩
set_option maxRecDepth 100000 in
set_option maxHeartbeats 1000000 in
theorem shapeOf_64 (w : World) : Calls Tryd.prog 79 #[.int .i64 64] w fun e w' => e = .returned (.tuple #[.agg #[.int .u64 9223372036854775808, .int .u64 9218868437227405312, .int .i64 52, .int .i64 (-1074)], .nilIface]) ∧ Below w.heap.size w w' := by
  have H := fun W => double_any W
  go_enter Tryd.func79, Tryd.ntmps79
  go_wp2_with fail
  refine (H _).mono ?_
  rintro e w1 ⟨rfl, hb⟩
  have T : Hid (FlB w1 w.heap.size _ _ _ _) := (FlB.new w (.int .u64 0) (.int .u64 0) (.int .i64 0) (.int .i64 0) 123).step hb
  have B : Hid (Below w.heap.size w w1) := ((Below.refl _ _).alloc (Nat.le_refl _) _).trans (hb.mono (by simp))
  clear hb
  obtain ⟨l, a0, a1, a2, a3, f0, f1, f2, f3⟩ := T.out
  go_wp2
  exact bodyPost_ret (v := .tuple #[.agg #[.int .u64 9223372036854775808, .int .u64 9218868437227405312, .int .i64 52, .int .i64 (-1074)], .nilIface]) (by simp [results, Tryd.results79, go_sem, World.cell?_setCell_same, World.cell?_setCell_other, *]) rfl ⟨rfl, (((B.out.setCell (Nat.le_refl _) _).setCell (Nat.le_refl _) _).setCell (Nat.le_refl _) _).setCell (Nat.le_refl _) _⟩
set_option maxRecDepth 100000 in
set_option maxHeartbeats 1000000 in
theorem shapeFor_no {s : Int} (h : Sn s) (b : Int) (w : World) : Calls Tryd.prog 80 #[.int .u64 b, .int .i64 s] w fun e w' => e = .returned (.tuple #[.agg #[.int .u64 0, .int .u64 0, .int .i64 0, .int .i64 0], .iface 76 (.int .i64 5)]) ∧ Below w.heap.size w w' := by
  have H := fun W => shapeOf_no h W
  go_enter Tryd.func80, Tryd.ntmps80
  go_wp2_with fail
  refine (H _).mono ?_
  rintro e w1 ⟨rfl, hb⟩
  have T : Hid (FlB w1 w.heap.size _ _ _ _) := (FlB.new w (.int .u64 0) (.int .u64 0) (.int .i64 0) (.int .i64 0) 123).step hb
  have B : Hid (Below w.heap.size w w1) := ((Below.refl _ _).alloc (Nat.le_refl _) _).trans (hb.mono (by simp))
  clear hb
  obtain ⟨l, a0, a1, a2, a3, f0, f1, f2, f3⟩ := T.out
  go_wp2
  exact bodyPost_ret (v := .tuple #[.agg #[.int .u64 0, .int .u64 0, .int .i64 0, .int .i64 0], .iface 76 (.int .i64 5)]) (by simp [results, Tryd.results80, go_sem, World.cell?_setCell_same, World.cell?_setCell_other, World.cell?_alloc_lt, *]) rfl ⟨rfl, (((((B.out).setCell (Nat.le_refl _) _).setCell (Nat.le_refl _) _).setCell (Nat.le_refl _) _).setCell (Nat.le_refl _) _).alloc (by simp; omega) _⟩
set_option maxRecDepth 100000 in
set_option maxHeartbeats 1000000 in
theorem shapeFor_big {b : Nat} (h : 4294967296 ≤ b) (w : World) : Calls Tryd.prog 80 #[.int .u64 (b : Int), .int .i64 32] w fun e w' => e = .returned (.tuple #[.agg #[.int .u64 0, .int .u64 0, .int .i64 0, .int .i64 0], .iface 76 (.int .i64 1)]) ∧ Below w.heap.size w w' := by
  have H := fun W => shapeOf_32 W
  have hor : bits BinOp.or IntKind.u64 2147483648 2147483647 = 4294967295 := by decide
  have q : (4294967295 : Int) < (b : Int) := by omega
  go_enter Tryd.func80, Tryd.ntmps80
  go_wp2_with fail
  refine (H _).mono ?_
  rintro e w1 ⟨rfl, hb⟩
  have T : Hid (FlB w1 w.heap.size _ _ _ _) := (FlB.new w (.int .u64 0) (.int .u64 0) (.int .i64 0) (.int .i64 0) 123).step hb
  have B : Hid (Below w.heap.size w w1) := ((Below.refl _ _).alloc (Nat.le_refl _) _).trans (hb.mono (by simp))
  clear hb
  obtain ⟨l, a0, a1, a2, a3, f0, f1, f2, f3⟩ := T.out
  go_wp2
  exact bodyPost_ret (v := .tuple #[.agg #[.int .u64 0, .int .u64 0, .int .i64 0, .int .i64 0], .iface 76 (.int .i64 1)]) (by simp [results, Tryd.results80, go_sem, World.cell?_setCell_same, World.cell?_setCell_other, World.cell?_alloc_lt, *]) rfl ⟨rfl, (((((B.out).setCell (Nat.le_refl _) _).setCell (Nat.le_refl _) _).setCell (Nat.le_refl _) _).setCell (Nat.le_refl _) _).alloc (by simp; omega) _⟩
set_option maxRecDepth 100000 in
set_option maxHeartbeats 1000000 in
theorem shapeFor_32 {b : Nat} (h : b < 4294967296) (w : World) : Calls Tryd.prog 80 #[.int .u64 (b : Int), .int .i64 32] w fun e w' => e = .returned (.tuple #[.agg #[.int .u64 2147483648, .int .u64 2139095040, .int .i64 23, .int .i64 (-149)], .nilIface]) ∧ Below w.heap.size w w' := by
  have H := fun W => shapeOf_32 W
  have hor : bits BinOp.or IntKind.u64 2147483648 2147483647 = 4294967295 := by decide
  have q : ¬ (4294967295 : Int) < (b : Int) := by omega
  go_enter Tryd.func80, Tryd.ntmps80
  go_wp2_with fail
  refine (H _).mono ?_
  rintro e w1 ⟨rfl, hb⟩
  have T : Hid (FlB w1 w.heap.size _ _ _ _) := (FlB.new w (.int .u64 0) (.int .u64 0) (.int .i64 0) (.int .i64 0) 123).step hb
  have B : Hid (Below w.heap.size w w1) := ((Below.refl _ _).alloc (Nat.le_refl _) _).trans (hb.mono (by simp))
  clear hb
  obtain ⟨l, a0, a1, a2, a3, f0, f1, f2, f3⟩ := T.out
  go_wp2
  exact bodyPost_ret (v := .tuple #[.agg #[.int .u64 2147483648, .int .u64 2139095040, .int .i64 23, .int .i64 (-149)], .nilIface]) (by simp [results, Tryd.results80, go_sem, World.cell?_setCell_same, World.cell?_setCell_other, World.cell?_alloc_lt, *]) rfl ⟨rfl, (((((B.out).setCell (Nat.le_refl _) _).setCell (Nat.le_refl _) _).setCell (Nat.le_refl _) _).setCell (Nat.le_refl _) _).alloc (by simp; omega) _⟩
set_option maxRecDepth 100000 in
set_option maxHeartbeats 1000000 in
theorem shapeFor_64 {b : Nat} (h : b < 18446744073709551616) (w : World) : Calls Tryd.prog 80 #[.int .u64 (b : Int), .int .i64 64] w fun e w' => e = .returned (.tuple #[.agg #[.int .u64 9223372036854775808, .int .u64 9218868437227405312, .int .i64 52, .int .i64 (-1074)], .nilIface]) ∧ Below w.heap.size w w' := by
  have H := fun W => shapeOf_64 W
  have hor : bits BinOp.or IntKind.u64 9223372036854775808 9223372036854775807 = 18446744073709551615 := by decide
  have q : ¬ (18446744073709551615 : Int) < (b : Int) := by omega
  go_enter Tryd.func80, Tryd.ntmps80
  go_wp2_with fail
  refine (H _).mono ?_
  rintro e w1 ⟨rfl, hb⟩
  have T : Hid (FlB w1 w.heap.size _ _ _ _) := (FlB.new w (.int .u64 0) (.int .u64 0) (.int .i64 0) (.int .i64 0) 123).step hb
  have B : Hid (Below w.heap.size w w1) := ((Below.refl _ _).alloc (Nat.le_refl _) _).trans (hb.mono (by simp))
  clear hb
  obtain ⟨l, a0, a1, a2, a3, f0, f1, f2, f3⟩ := T.out
  go_wp2
  exact bodyPost_ret (v := .tuple #[.agg #[.int .u64 9223372036854775808, .int .u64 9218868437227405312, .int .i64 52, .int .i64 (-1074)], .nilIface]) (by simp [results, Tryd.results80, go_sem, World.cell?_setCell_same, World.cell?_setCell_other, World.cell?_alloc_lt, *]) rfl ⟨rfl, (((((B.out).setCell (Nat.le_refl _) _).setCell (Nat.le_refl _) _).setCell (Nat.le_refl _) _).setCell (Nat.le_refl _) _).alloc (by simp; omega) _⟩
end Go.Proofs.YtealnajogkeckaaDoor
