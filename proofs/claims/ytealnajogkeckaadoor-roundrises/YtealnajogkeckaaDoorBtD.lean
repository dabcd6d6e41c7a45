/-
  bits' Check, Unpack, Class, Inf, Zero, NaN, Most, Least, for every size.
-/
import Derived.Test.YtealnajogkeckaaDoorBtC
namespace Go.Proofs.YtealnajogkeckaaDoor
open Go.RowKit

set_option maxRecDepth 100000 in
set_option maxHeartbeats 1000000 in
theorem unp_no {s : Int} (h : Sn s) (b : Int) (w : World) : Calls Tryd.prog 59 #[.int .u64 b, .int .i64 s] w fun e w' => e = .returned (.tuple #[.agg #[.bool false, .int .i64 0, .int .u64 0, .int .i64 0], .iface 76 (.int .i64 5)]) ∧ Below w.heap.size w w' := by
  have H := fun W => shapeFor_no h b W
  clear h
  go_enter Tryd.func59, Tryd.ntmps59
  go_wp2_with fail
  refine (H _).mono ?_
  rintro e w1 ⟨rfl, hb⟩
  have T : Hid (FlB w1 w.heap.size _ _ _ _) := (FlB.new w (.bool false) (.int .i64 0) (.int .u64 0) (.int .i64 0) 80).step hb
  have B : Hid (Below w.heap.size w w1) := ((Below.refl _ _).alloc (Nat.le_refl _) _).trans (hb.mono (by simp))
  clear hb
  obtain ⟨l, a0, a1, a2, a3, f0, f1, f2, f3⟩ := T.out
  go_wp2
  exact bodyPost_ret (v := .tuple #[.agg #[.bool false, .int .i64 0, .int .u64 0, .int .i64 0], .iface 76 (.int .i64 5)]) (by simp [results, Tryd.results59, go_sem, World.cell?_setCell_same, World.cell?_setCell_other, World.cell?_alloc_lt, *]) rfl ⟨rfl, (((((B.out).setCell (Nat.le_refl _) _).setCell (Nat.le_refl _) _).setCell (Nat.le_refl _) _).setCell (Nat.le_refl _) _).alloc (by simp; omega) _⟩
set_option maxRecDepth 100000 in
set_option maxHeartbeats 1000000 in
theorem unp_big {b : Nat} (h : 4294967296 ≤ b) (w : World) : Calls Tryd.prog 59 #[.int .u64 (b : Int), .int .i64 32] w fun e w' => e = .returned (.tuple #[.agg #[.bool false, .int .i64 0, .int .u64 0, .int .i64 0], .iface 76 (.int .i64 1)]) ∧ Below w.heap.size w w' := by
  have H := fun W => shapeFor_big h W
  clear h
  go_enter Tryd.func59, Tryd.ntmps59
  go_wp2_with fail
  refine (H _).mono ?_
  rintro e w1 ⟨rfl, hb⟩
  have T : Hid (FlB w1 w.heap.size _ _ _ _) := (FlB.new w (.bool false) (.int .i64 0) (.int .u64 0) (.int .i64 0) 80).step hb
  have B : Hid (Below w.heap.size w w1) := ((Below.refl _ _).alloc (Nat.le_refl _) _).trans (hb.mono (by simp))
  clear hb
  obtain ⟨l, a0, a1, a2, a3, f0, f1, f2, f3⟩ := T.out
  go_wp2
  exact bodyPost_ret (v := .tuple #[.agg #[.bool false, .int .i64 0, .int .u64 0, .int .i64 0], .iface 76 (.int .i64 1)]) (by simp [results, Tryd.results59, go_sem, World.cell?_setCell_same, World.cell?_setCell_other, World.cell?_alloc_lt, *]) rfl ⟨rfl, (((((B.out).setCell (Nat.le_refl _) _).setCell (Nat.le_refl _) _).setCell (Nat.le_refl _) _).setCell (Nat.le_refl _) _).alloc (by simp; omega) _⟩
set_option maxRecDepth 100000 in
set_option maxHeartbeats 1000000 in
theorem unp_32 {b : Nat} (h : b < 4294967296) (w : World) : Calls Tryd.prog 59 #[.int .u64 (b : Int), .int .i64 32] w fun e w' => e = .returned (.tuple #[.agg #[.bool (uN 2147483648 2139095040 b), .int .i64 (cl 2139095040 (mg 2147483648 b)), .int .u64 ((uM 2139095040 23 (mg 2147483648 b) : Nat) : Int), .int .i64 (uE 2139095040 23 (-149) (mg 2147483648 b))], .nilIface]) ∧ Below w.heap.size w w' := by
  have H := fun W => shapeFor_32 h W
  have HU := fun W => unpack_32 h W
  generalize uN 2147483648 2139095040 b = x0 at *
  generalize uM 2139095040 23 (mg 2147483648 b) = x2 at *
  generalize uE 2139095040 23 (-149) (mg 2147483648 b) = x3 at *
  generalize cl 2139095040 (mg 2147483648 b) = x1 at *
  clear h
  go_enter Tryd.func59, Tryd.ntmps59
  go_wp2_with fail
  refine (H _).mono ?_
  rintro e w1 ⟨rfl, hb⟩
  have T : Hid (FlB w1 w.heap.size _ _ _ _) := (FlB.new w (.bool false) (.int .i64 0) (.int .u64 0) (.int .i64 0) 80).step hb
  have B : Hid (Below w.heap.size w w1) := ((Below.refl _ _).alloc (Nat.le_refl _) _).trans (hb.mono (by simp))
  clear hb
  obtain ⟨l, a0, a1, a2, a3, f0, f1, f2, f3⟩ := T.out
  go_wp2_with fail
  refine (HU _).mono ?_
  rintro e w2 ⟨rfl, hb⟩
  have T2 : Hid (FlB w2 w.heap.size _ _ _ _) := (T.out.al _).step hb
  have B2 : Hid (Below w.heap.size w w2) := (B.out.alloc (Nat.le_of_lt l) _).trans (hb.mono (by simp; omega))
  clear hb
  obtain ⟨l2, b0, b1, b2, b3, g0, g1, g2, g3⟩ := T2.out
  go_wp2
  exact bodyPost_ret (v := .tuple #[.agg #[.bool x0, .int .i64 x1, .int .u64 (x2 : Int), .int .i64 x3], .nilIface]) (by simp [results, Tryd.results59, go_sem, World.cell?_setCell_same, World.cell?_setCell_other, *]) rfl ⟨rfl, ((((B2.out).setCell (Nat.le_refl _) _).setCell (Nat.le_refl _) _).setCell (Nat.le_refl _) _).setCell (Nat.le_refl _) _⟩
set_option maxRecDepth 100000 in
set_option maxHeartbeats 1000000 in
theorem unp_64 {b : Nat} (h : b < 18446744073709551616) (w : World) : Calls Tryd.prog 59 #[.int .u64 (b : Int), .int .i64 64] w fun e w' => e = .returned (.tuple #[.agg #[.bool (uN 9223372036854775808 9218868437227405312 b), .int .i64 (cl 9218868437227405312 (mg 9223372036854775808 b)), .int .u64 ((uM 9218868437227405312 52 (mg 9223372036854775808 b) : Nat) : Int), .int .i64 (uE 9218868437227405312 52 (-1074) (mg 9223372036854775808 b))], .nilIface]) ∧ Below w.heap.size w w' := by
  have H := fun W => shapeFor_64 h W
  have HU := fun W => unpack_64 h W
  generalize uN 9223372036854775808 9218868437227405312 b = x0 at *
  generalize uM 9218868437227405312 52 (mg 9223372036854775808 b) = x2 at *
  generalize uE 9218868437227405312 52 (-1074) (mg 9223372036854775808 b) = x3 at *
  generalize cl 9218868437227405312 (mg 9223372036854775808 b) = x1 at *
  clear h
  go_enter Tryd.func59, Tryd.ntmps59
  go_wp2_with fail
  refine (H _).mono ?_
  rintro e w1 ⟨rfl, hb⟩
  have T : Hid (FlB w1 w.heap.size _ _ _ _) := (FlB.new w (.bool false) (.int .i64 0) (.int .u64 0) (.int .i64 0) 80).step hb
  have B : Hid (Below w.heap.size w w1) := ((Below.refl _ _).alloc (Nat.le_refl _) _).trans (hb.mono (by simp))
  clear hb
  obtain ⟨l, a0, a1, a2, a3, f0, f1, f2, f3⟩ := T.out
  go_wp2_with fail
  refine (HU _).mono ?_
  rintro e w2 ⟨rfl, hb⟩
  have T2 : Hid (FlB w2 w.heap.size _ _ _ _) := (T.out.al _).step hb
  have B2 : Hid (Below w.heap.size w w2) := (B.out.alloc (Nat.le_of_lt l) _).trans (hb.mono (by simp; omega))
  clear hb
  obtain ⟨l2, b0, b1, b2, b3, g0, g1, g2, g3⟩ := T2.out
  go_wp2
  exact bodyPost_ret (v := .tuple #[.agg #[.bool x0, .int .i64 x1, .int .u64 (x2 : Int), .int .i64 x3], .nilIface]) (by simp [results, Tryd.results59, go_sem, World.cell?_setCell_same, World.cell?_setCell_other, *]) rfl ⟨rfl, ((((B2.out).setCell (Nat.le_refl _) _).setCell (Nat.le_refl _) _).setCell (Nat.le_refl _) _).setCell (Nat.le_refl _) _⟩
set_option maxRecDepth 100000 in
set_option maxHeartbeats 1000000 in
theorem binf_no (c : Bool) {s : Int} (h : Sn s) (w : World) : Calls Tryd.prog 68 #[.bool c, .int .i64 s] w fun e w' => e = .returned (.tuple #[.int .u64 0, .iface 76 (.int .i64 5)]) ∧ Below w.heap.size w w' := by
  have H := fun W => shapeOf_no h W
  go_enter Tryd.func68, Tryd.ntmps68
  go_wp2_with fail
  refine (H _).mono ?_
  rintro e w1 ⟨rfl, hb⟩
  have B : Hid (Below w.heap.size w w1) := hb
  have l := hb.size
  clear hb
  go_wp2
  go_ret2
  exact ⟨rfl, B.out.alloc l _⟩
set_option maxRecDepth 100000 in
set_option maxHeartbeats 1000000 in
theorem binf_32 (c : Bool)  (w : World) : Calls Tryd.prog 68 #[.bool c, .int .i64 32] w fun e w' => e = .returned (.tuple #[.int .u64 ((sgd 2147483648 c 2139095040 : Nat) : Int), .nilIface]) ∧ Below w.heap.size w w' := by
  have H := fun W => shapeOf_32 W
  have HS := fun W => signed_32 (x := 2139095040) (by decide) c W
  rw [show ((2139095040 : Nat) : Int) = 2139095040 from rfl] at HS
  generalize sgd 2147483648 c 2139095040 = r at *
  go_enter Tryd.func68, Tryd.ntmps68
  go_wp2_with fail
  refine (H _).mono ?_
  rintro e w1 ⟨rfl, hb⟩
  have B : Hid (Below w.heap.size w w1) := hb
  have l := hb.size
  clear hb
  go_wp2_with fail
  refine (HS _).mono ?_
  rintro e w2 ⟨rfl, hb⟩
  have B2 : Hid (Below w.heap.size w w2) := (B.out.alloc l _).trans (hb.mono (by simp; omega))
  clear hb
  go_wp2
  go_ret2
  exact ⟨rfl, B2.out⟩
set_option maxRecDepth 100000 in
set_option maxHeartbeats 1000000 in
theorem binf_64 (c : Bool)  (w : World) : Calls Tryd.prog 68 #[.bool c, .int .i64 64] w fun e w' => e = .returned (.tuple #[.int .u64 ((sgd 9223372036854775808 c 9218868437227405312 : Nat) : Int), .nilIface]) ∧ Below w.heap.size w w' := by
  have H := fun W => shapeOf_64 W
  have HS := fun W => signed_64 (x := 9218868437227405312) (by decide) c W
  rw [show ((9218868437227405312 : Nat) : Int) = 9218868437227405312 from rfl] at HS
  generalize sgd 9223372036854775808 c 9218868437227405312 = r at *
  go_enter Tryd.func68, Tryd.ntmps68
  go_wp2_with fail
  refine (H _).mono ?_
  rintro e w1 ⟨rfl, hb⟩
  have B : Hid (Below w.heap.size w w1) := hb
  have l := hb.size
  clear hb
  go_wp2_with fail
  refine (HS _).mono ?_
  rintro e w2 ⟨rfl, hb⟩
  have B2 : Hid (Below w.heap.size w w2) := (B.out.alloc l _).trans (hb.mono (by simp; omega))
  clear hb
  go_wp2
  go_ret2
  exact ⟨rfl, B2.out⟩
set_option maxRecDepth 100000 in
set_option maxHeartbeats 1000000 in
theorem bzero_no (c : Bool) {s : Int} (h : Sn s) (w : World) : Calls Tryd.prog 66 #[.bool c, .int .i64 s] w fun e w' => e = .returned (.tuple #[.int .u64 0, .iface 76 (.int .i64 5)]) ∧ Below w.heap.size w w' := by
  have H := fun W => shapeOf_no h W
  go_enter Tryd.func66, Tryd.ntmps66
  go_wp2_with fail
  refine (H _).mono ?_
  rintro e w1 ⟨rfl, hb⟩
  have B : Hid (Below w.heap.size w w1) := hb
  have l := hb.size
  clear hb
  go_wp2
  go_ret2
  exact ⟨rfl, B.out.alloc l _⟩
set_option maxRecDepth 100000 in
set_option maxHeartbeats 1000000 in
theorem bzero_32 (c : Bool)  (w : World) : Calls Tryd.prog 66 #[.bool c, .int .i64 32] w fun e w' => e = .returned (.tuple #[.int .u64 ((sgd 2147483648 c 0 : Nat) : Int), .nilIface]) ∧ Below w.heap.size w w' := by
  have H := fun W => shapeOf_32 W
  have HS := fun W => signed_32 (x := 0) (by decide) c W
  rw [show ((0 : Nat) : Int) = 0 from rfl] at HS
  generalize sgd 2147483648 c 0 = r at *
  go_enter Tryd.func66, Tryd.ntmps66
  go_wp2_with fail
  refine (H _).mono ?_
  rintro e w1 ⟨rfl, hb⟩
  have B : Hid (Below w.heap.size w w1) := hb
  have l := hb.size
  clear hb
  go_wp2_with fail
  refine (HS _).mono ?_
  rintro e w2 ⟨rfl, hb⟩
  have B2 : Hid (Below w.heap.size w w2) := (B.out.alloc l _).trans (hb.mono (by simp; omega))
  clear hb
  go_wp2
  go_ret2
  exact ⟨rfl, B2.out⟩
set_option maxRecDepth 100000 in
set_option maxHeartbeats 1000000 in
theorem bzero_64 (c : Bool)  (w : World) : Calls Tryd.prog 66 #[.bool c, .int .i64 64] w fun e w' => e = .returned (.tuple #[.int .u64 ((sgd 9223372036854775808 c 0 : Nat) : Int), .nilIface]) ∧ Below w.heap.size w w' := by
  have H := fun W => shapeOf_64 W
  have HS := fun W => signed_64 (x := 0) (by decide) c W
  rw [show ((0 : Nat) : Int) = 0 from rfl] at HS
  generalize sgd 9223372036854775808 c 0 = r at *
  go_enter Tryd.func66, Tryd.ntmps66
  go_wp2_with fail
  refine (H _).mono ?_
  rintro e w1 ⟨rfl, hb⟩
  have B : Hid (Below w.heap.size w w1) := hb
  have l := hb.size
  clear hb
  go_wp2_with fail
  refine (HS _).mono ?_
  rintro e w2 ⟨rfl, hb⟩
  have B2 : Hid (Below w.heap.size w w2) := (B.out.alloc l _).trans (hb.mono (by simp; omega))
  clear hb
  go_wp2
  go_ret2
  exact ⟨rfl, B2.out⟩
set_option maxRecDepth 100000 in
set_option maxHeartbeats 1000000 in
theorem bmost_no {s : Int} (h : Sn s) (w : World) : Calls Tryd.prog 57 #[.int .i64 s] w fun e w' => e = .returned (.tuple #[.int .u64 0, .iface 76 (.int .i64 5)]) ∧ Below w.heap.size w w' := by
  have H := fun W => shapeOf_no h W
  go_enter Tryd.func57, Tryd.ntmps57
  go_wp2_with fail
  refine (H _).mono ?_
  rintro e w1 ⟨rfl, hb⟩
  have B : Hid (Below w.heap.size w w1) := hb
  have l := hb.size
  clear hb
  go_wp2
  go_ret2
  exact ⟨rfl, B.out.alloc l _⟩
set_option maxRecDepth 100000 in
set_option maxHeartbeats 1000000 in
theorem bmost_32  (w : World) : Calls Tryd.prog 57 #[.int .i64 32] w fun e w' => e = .returned (.tuple #[.int .u64 2139095039, .nilIface]) ∧ Below w.heap.size w w' := by
  have H := fun W => shapeOf_32 W
  go_enter Tryd.func57, Tryd.ntmps57
  go_wp2_with fail
  refine (H _).mono ?_
  rintro e w1 ⟨rfl, hb⟩
  have B : Hid (Below w.heap.size w w1) := hb
  have l := hb.size
  clear hb
  go_wp2
  go_ret2
  exact ⟨rfl, B.out.alloc l _⟩
set_option maxRecDepth 100000 in
set_option maxHeartbeats 1000000 in
theorem bmost_64  (w : World) : Calls Tryd.prog 57 #[.int .i64 64] w fun e w' => e = .returned (.tuple #[.int .u64 9218868437227405311, .nilIface]) ∧ Below w.heap.size w w' := by
  have H := fun W => shapeOf_64 W
  go_enter Tryd.func57, Tryd.ntmps57
  go_wp2_with fail
  refine (H _).mono ?_
  rintro e w1 ⟨rfl, hb⟩
  have B : Hid (Below w.heap.size w w1) := hb
  have l := hb.size
  clear hb
  go_wp2
  go_ret2
  exact ⟨rfl, B.out.alloc l _⟩
set_option maxRecDepth 100000 in
set_option maxHeartbeats 1000000 in
theorem bleast_no {s : Int} (h : Sn s) (w : World) : Calls Tryd.prog 58 #[.int .i64 s] w fun e w' => e = .returned (.tuple #[.int .u64 0, .iface 76 (.int .i64 5)]) ∧ Below w.heap.size w w' := by
  have H := fun W => shapeOf_no h W
  go_enter Tryd.func58, Tryd.ntmps58
  go_wp2_with fail
  refine (H _).mono ?_
  rintro e w1 ⟨rfl, hb⟩
  have B : Hid (Below w.heap.size w w1) := hb
  have l := hb.size
  clear hb
  go_wp2
  go_ret2
  exact ⟨rfl, B.out.alloc l _⟩
set_option maxRecDepth 100000 in
set_option maxHeartbeats 1000000 in
theorem bleast_32  (w : World) : Calls Tryd.prog 58 #[.int .i64 32] w fun e w' => e = .returned (.tuple #[.int .u64 1, .nilIface]) ∧ Below w.heap.size w w' := by
  have H := fun W => shapeOf_32 W
  go_enter Tryd.func58, Tryd.ntmps58
  go_wp2_with fail
  refine (H _).mono ?_
  rintro e w1 ⟨rfl, hb⟩
  have B : Hid (Below w.heap.size w w1) := hb
  have l := hb.size
  clear hb
  go_wp2
  go_ret2
  exact ⟨rfl, B.out.alloc l _⟩
set_option maxRecDepth 100000 in
set_option maxHeartbeats 1000000 in
theorem bleast_64  (w : World) : Calls Tryd.prog 58 #[.int .i64 64] w fun e w' => e = .returned (.tuple #[.int .u64 1, .nilIface]) ∧ Below w.heap.size w w' := by
  have H := fun W => shapeOf_64 W
  go_enter Tryd.func58, Tryd.ntmps58
  go_wp2_with fail
  refine (H _).mono ?_
  rintro e w1 ⟨rfl, hb⟩
  have B : Hid (Below w.heap.size w w1) := hb
  have l := hb.size
  clear hb
  go_wp2
  go_ret2
  exact ⟨rfl, B.out.alloc l _⟩
end Go.Proofs.YtealnajogkeckaaDoor
