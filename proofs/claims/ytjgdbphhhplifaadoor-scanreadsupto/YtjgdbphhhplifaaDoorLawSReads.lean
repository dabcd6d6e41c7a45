/-
  The law ScanReads: the walk.
-/
import Derived.Test.YtjgdbphhhplifaaDoorScK
import Derived.Test.YtjgdbphhhplifaaDoorScL
namespace Go.Proofs.YtjgdbphhhplifaaDoor
open Go.RowKit

set_option maxRecDepth 100000 in
set_option maxHeartbeats 4000000 in
theorem reads_none (s : ByteArray) (w : World)
    (SC : ∀ W, Calls Tryd.prog 8 #[.string s] W fun e w' => e = .returned (.tuple #[.agg #[.bool false, .int .i64 0, .string ⟨#[]⟩, .int .i64 0, .bool false, .int .u64 0, .int .i64 0, .bool false], .iface 52 (.int .i64 3)]) ∧ Below W.heap.size W w')
    (RS : ∀ W, Calls Tryd.prog 9 #[.string s] W fun e w' => e = .returned (.tuple #[.agg #[.bool false, .int .i64 0, .string ⟨#[]⟩, .int .i64 0, .bool false, .int .u64 0, .int .i64 0, .bool false], .int .i64 3]) ∧ Below W.heap.size W w')
    (PX : ∀ W, Calls Tryd.prog 10 #[.string s] W fun e w' => e = .returned (.tuple #[.agg #[.bool false, .int .i64 0, .string ⟨#[]⟩, .int .i64 0, .bool false, .int .u64 0, .int .i64 0, .bool false], .int .i64 0, .iface 52 (.int .i64 3)]) ∧ Below W.heap.size W w')
    (RP : ∀ W, Calls Tryd.prog 11 #[.string s] W fun e w' => e = .returned (.tuple #[.agg #[.bool false, .int .i64 0, .string ⟨#[]⟩, .int .i64 0, .bool false, .int .u64 0, .int .i64 0, .bool false], .int .i64 0, .int .i64 3]) ∧ Below W.heap.size W w')
    (VA : ∀ W, Calls Tryd.prog 13 #[.string s] W fun e w' => e = .returned (.bool false) ∧ Below W.heap.size W w') :
    Calls Tryd.prog 3 #[.string s] w fun o w' => o = .returned (.bool true) ∧ Below w.heap.size w w' := by
  have WK := fun V => works_any V
  have N3 := fun V => num_errno 3 V
  go_enter Tryd.func3, Tryd.ntmps3
  go_wp2_with fail
  refine (SC _).mono ?_
  rintro o w1 ⟨rfl, b1⟩
  have B1 : Hid (Below w.heap.size w w1) := b1
  have X1_1 : Hid (Bx (w1.alloc (.cells #[.bool false, .int .i64 0, .string ⟨#[]⟩, .int .i64 0, .bool false, .int .u64 0, .int .i64 0, .bool false] 26)) w1.heap.size #[.bool false, .int .i64 0, .string ⟨#[]⟩, .int .i64 0, .bool false, .int .u64 0, .int .i64 0, .bool false]) := Bx.new _ _ _
  clear b1
  go_wp2_with fail
  refine (RS _).mono ?_
  rintro o w2 ⟨rfl, b2⟩
  have B2 : Hid (Below w.heap.size w w2) := (B1.out.alloc B1.out.size _).trans (b2.mono (by have := B1.out.size; simp; omega))
  have X1_2 : Hid (Bx (w2.alloc (.cells #[.bool false, .int .i64 0, .string ⟨#[]⟩, .int .i64 0, .bool false, .int .u64 0, .int .i64 0, .bool false] 26)) w1.heap.size #[.bool false, .int .i64 0, .string ⟨#[]⟩, .int .i64 0, .bool false, .int .u64 0, .int .i64 0, .bool false]) := (X1_1.out.step b2).alloc _
  have X2_2 : Hid (Bx (w2.alloc (.cells #[.bool false, .int .i64 0, .string ⟨#[]⟩, .int .i64 0, .bool false, .int .u64 0, .int .i64 0, .bool false] 26)) w2.heap.size #[.bool false, .int .i64 0, .string ⟨#[]⟩, .int .i64 0, .bool false, .int .u64 0, .int .i64 0, .bool false]) := Bx.new _ _ _
  clear b2 X1_1
  go_wp2_with fail
  refine (PX _).mono ?_
  rintro o w3 ⟨rfl, b3⟩
  have B3 : Hid (Below w.heap.size w w3) := (B2.out.alloc B2.out.size _).trans (b3.mono (by have := B2.out.size; simp; omega))
  have X1_3 : Hid (Bx (w3.alloc (.cells #[.bool false, .int .i64 0, .string ⟨#[]⟩, .int .i64 0, .bool false, .int .u64 0, .int .i64 0, .bool false] 26)) w1.heap.size #[.bool false, .int .i64 0, .string ⟨#[]⟩, .int .i64 0, .bool false, .int .u64 0, .int .i64 0, .bool false]) := (X1_2.out.step b3).alloc _
  have X2_3 : Hid (Bx (w3.alloc (.cells #[.bool false, .int .i64 0, .string ⟨#[]⟩, .int .i64 0, .bool false, .int .u64 0, .int .i64 0, .bool false] 26)) w2.heap.size #[.bool false, .int .i64 0, .string ⟨#[]⟩, .int .i64 0, .bool false, .int .u64 0, .int .i64 0, .bool false]) := (X2_2.out.step b3).alloc _
  have X3_3 : Hid (Bx (w3.alloc (.cells #[.bool false, .int .i64 0, .string ⟨#[]⟩, .int .i64 0, .bool false, .int .u64 0, .int .i64 0, .bool false] 26)) w3.heap.size #[.bool false, .int .i64 0, .string ⟨#[]⟩, .int .i64 0, .bool false, .int .u64 0, .int .i64 0, .bool false]) := Bx.new _ _ _
  clear b3 X1_2 X2_2
  go_wp2_with fail
  refine (RP _).mono ?_
  rintro o w4 ⟨rfl, b4⟩
  have B4 : Hid (Below w.heap.size w w4) := (B3.out.alloc B3.out.size _).trans (b4.mono (by have := B3.out.size; simp; omega))
  have X1_4 : Hid (Bx w4 w1.heap.size #[.bool false, .int .i64 0, .string ⟨#[]⟩, .int .i64 0, .bool false, .int .u64 0, .int .i64 0, .bool false]) := X1_3.out.step b4
  have X2_4 : Hid (Bx w4 w2.heap.size #[.bool false, .int .i64 0, .string ⟨#[]⟩, .int .i64 0, .bool false, .int .u64 0, .int .i64 0, .bool false]) := X2_3.out.step b4
  have X3_4 : Hid (Bx w4 w3.heap.size #[.bool false, .int .i64 0, .string ⟨#[]⟩, .int .i64 0, .bool false, .int .u64 0, .int .i64 0, .bool false]) := X3_3.out.step b4
  clear b4 X1_3 X2_3 X3_3
  obtain ⟨l1, c1⟩ := X1_4.out
  have a10 : w4.cell? ⟨w1.heap.size, 0, none⟩ = some (.bool false) := c1 0
  have a11 : w4.cell? ⟨w1.heap.size, 1, none⟩ = some (.int .i64 0) := c1 1
  have a12 : w4.cell? ⟨w1.heap.size, 2, none⟩ = some (.string ⟨#[]⟩) := c1 2
  have a13 : w4.cell? ⟨w1.heap.size, 3, none⟩ = some (.int .i64 0) := c1 3
  have a14 : w4.cell? ⟨w1.heap.size, 4, none⟩ = some (.bool false) := c1 4
  have a15 : w4.cell? ⟨w1.heap.size, 5, none⟩ = some (.int .u64 0) := c1 5
  have a16 : w4.cell? ⟨w1.heap.size, 6, none⟩ = some (.int .i64 0) := c1 6
  have a17 : w4.cell? ⟨w1.heap.size, 7, none⟩ = some (.bool false) := c1 7
  clear c1
  obtain ⟨l2, c2⟩ := X2_4.out
  have a20 : w4.cell? ⟨w2.heap.size, 0, none⟩ = some (.bool false) := c2 0
  have a21 : w4.cell? ⟨w2.heap.size, 1, none⟩ = some (.int .i64 0) := c2 1
  have a22 : w4.cell? ⟨w2.heap.size, 2, none⟩ = some (.string ⟨#[]⟩) := c2 2
  have a23 : w4.cell? ⟨w2.heap.size, 3, none⟩ = some (.int .i64 0) := c2 3
  have a24 : w4.cell? ⟨w2.heap.size, 4, none⟩ = some (.bool false) := c2 4
  have a25 : w4.cell? ⟨w2.heap.size, 5, none⟩ = some (.int .u64 0) := c2 5
  have a26 : w4.cell? ⟨w2.heap.size, 6, none⟩ = some (.int .i64 0) := c2 6
  have a27 : w4.cell? ⟨w2.heap.size, 7, none⟩ = some (.bool false) := c2 7
  clear c2
  obtain ⟨l3, c3⟩ := X3_4.out
  have a30 : w4.cell? ⟨w3.heap.size, 0, none⟩ = some (.bool false) := c3 0
  have a31 : w4.cell? ⟨w3.heap.size, 1, none⟩ = some (.int .i64 0) := c3 1
  have a32 : w4.cell? ⟨w3.heap.size, 2, none⟩ = some (.string ⟨#[]⟩) := c3 2
  have a33 : w4.cell? ⟨w3.heap.size, 3, none⟩ = some (.int .i64 0) := c3 3
  have a34 : w4.cell? ⟨w3.heap.size, 4, none⟩ = some (.bool false) := c3 4
  have a35 : w4.cell? ⟨w3.heap.size, 5, none⟩ = some (.int .u64 0) := c3 5
  have a36 : w4.cell? ⟨w3.heap.size, 6, none⟩ = some (.int .i64 0) := c3 6
  have a37 : w4.cell? ⟨w3.heap.size, 7, none⟩ = some (.bool false) := c3 7
  clear c3
  go_wp2_with fail
  refine (N3 _).mono ?_
  rintro o wx ⟨rfl, rfl⟩
  go_wp2_with fail
  refine (N3 _).mono ?_
  rintro o wx ⟨rfl, rfl⟩
  go_wp2_with fail
  refine (VA _).mono ?_
  rintro o w5 ⟨rfl, b5⟩
  have B5 : Hid (Below w.heap.size w w5) := (B4.out.alloc B4.out.size _).trans (b5.mono (by have := B4.out.size; simp; omega))
  clear b5
  go_wp2_with fail
  refine (WK _).mono ?_
  rintro o w6 ⟨rfl, b6⟩
  have B6 : Hid (Below w.heap.size w w6) := B5.out.trans (b6.mono B5.out.size)
  clear b6
  go_wp2
  go_ret
  exact ⟨rfl, B6.out⟩
set_option maxRecDepth 100000 in
set_option maxHeartbeats 4000000 in
theorem reads_part (s : ByteArray) (v0 : Bool) (v1 : Int) (v2 : ByteArray) (v3 : Int) (v4 : Bool) (v5 v6 : Int) (v7 : Bool) (n : Int) (w : World)
    (SC : ∀ W, Calls Tryd.prog 8 #[.string s] W fun e w' => e = .returned (.tuple #[.agg #[.bool false, .int .i64 0, .string ⟨#[]⟩, .int .i64 0, .bool false, .int .u64 0, .int .i64 0, .bool false], .iface 52 (.int .i64 3)]) ∧ Below W.heap.size W w')
    (RS : ∀ W, Calls Tryd.prog 9 #[.string s] W fun e w' => e = .returned (.tuple #[.agg #[.bool false, .int .i64 0, .string ⟨#[]⟩, .int .i64 0, .bool false, .int .u64 0, .int .i64 0, .bool false], .int .i64 3]) ∧ Below W.heap.size W w')
    (PX : ∀ W, Calls Tryd.prog 10 #[.string s] W fun e w' => e = .returned (.tuple #[.agg #[.bool v0, .int .i64 v1, .string v2, .int .i64 v3, .bool v4, .int .u64 v5, .int .i64 v6, .bool v7], .int .i64 n, .nilIface]) ∧ Below W.heap.size W w')
    (RP : ∀ W, Calls Tryd.prog 11 #[.string s] W fun e w' => e = .returned (.tuple #[.agg #[.bool v0, .int .i64 v1, .string v2, .int .i64 v3, .bool v4, .int .u64 v5, .int .i64 v6, .bool v7], .int .i64 n, .int .i64 0]) ∧ Below W.heap.size W w')
    (VA : ∀ W, Calls Tryd.prog 13 #[.string s] W fun e w' => e = .returned (.bool false) ∧ Below W.heap.size W w') :
    Calls Tryd.prog 3 #[.string s] w fun o w' => o = .returned (.bool true) ∧ Below w.heap.size w w' := by
  have WK := fun V => works_any V
  have N0 := fun V => num_nil V
  have N3 := fun V => num_errno 3 V
  have eT := str_eq v2
  go_enter Tryd.func3, Tryd.ntmps3
  go_wp2_with fail
  refine (SC _).mono ?_
  rintro o w1 ⟨rfl, b1⟩
  have B1 : Hid (Below w.heap.size w w1) := b1
  have X1_1 : Hid (Bx (w1.alloc (.cells #[.bool false, .int .i64 0, .string ⟨#[]⟩, .int .i64 0, .bool false, .int .u64 0, .int .i64 0, .bool false] 26)) w1.heap.size #[.bool false, .int .i64 0, .string ⟨#[]⟩, .int .i64 0, .bool false, .int .u64 0, .int .i64 0, .bool false]) := Bx.new _ _ _
  clear b1
  go_wp2_with fail
  refine (RS _).mono ?_
  rintro o w2 ⟨rfl, b2⟩
  have B2 : Hid (Below w.heap.size w w2) := (B1.out.alloc B1.out.size _).trans (b2.mono (by have := B1.out.size; simp; omega))
  have X1_2 : Hid (Bx (w2.alloc (.cells #[.bool false, .int .i64 0, .string ⟨#[]⟩, .int .i64 0, .bool false, .int .u64 0, .int .i64 0, .bool false] 26)) w1.heap.size #[.bool false, .int .i64 0, .string ⟨#[]⟩, .int .i64 0, .bool false, .int .u64 0, .int .i64 0, .bool false]) := (X1_1.out.step b2).alloc _
  have X2_2 : Hid (Bx (w2.alloc (.cells #[.bool false, .int .i64 0, .string ⟨#[]⟩, .int .i64 0, .bool false, .int .u64 0, .int .i64 0, .bool false] 26)) w2.heap.size #[.bool false, .int .i64 0, .string ⟨#[]⟩, .int .i64 0, .bool false, .int .u64 0, .int .i64 0, .bool false]) := Bx.new _ _ _
  clear b2 X1_1
  go_wp2_with fail
  refine (PX _).mono ?_
  rintro o w3 ⟨rfl, b3⟩
  have B3 : Hid (Below w.heap.size w w3) := (B2.out.alloc B2.out.size _).trans (b3.mono (by have := B2.out.size; simp; omega))
  have X1_3 : Hid (Bx (w3.alloc (.cells #[.bool v0, .int .i64 v1, .string v2, .int .i64 v3, .bool v4, .int .u64 v5, .int .i64 v6, .bool v7] 26)) w1.heap.size #[.bool false, .int .i64 0, .string ⟨#[]⟩, .int .i64 0, .bool false, .int .u64 0, .int .i64 0, .bool false]) := (X1_2.out.step b3).alloc _
  have X2_3 : Hid (Bx (w3.alloc (.cells #[.bool v0, .int .i64 v1, .string v2, .int .i64 v3, .bool v4, .int .u64 v5, .int .i64 v6, .bool v7] 26)) w2.heap.size #[.bool false, .int .i64 0, .string ⟨#[]⟩, .int .i64 0, .bool false, .int .u64 0, .int .i64 0, .bool false]) := (X2_2.out.step b3).alloc _
  have X3_3 : Hid (Bx (w3.alloc (.cells #[.bool v0, .int .i64 v1, .string v2, .int .i64 v3, .bool v4, .int .u64 v5, .int .i64 v6, .bool v7] 26)) w3.heap.size #[.bool v0, .int .i64 v1, .string v2, .int .i64 v3, .bool v4, .int .u64 v5, .int .i64 v6, .bool v7]) := Bx.new _ _ _
  clear b3 X1_2 X2_2
  go_wp2_with fail
  refine (RP _).mono ?_
  rintro o w4 ⟨rfl, b4⟩
  have B4 : Hid (Below w.heap.size w w4) := (B3.out.alloc B3.out.size _).trans (b4.mono (by have := B3.out.size; simp; omega))
  have X1_4 : Hid (Bx w4 w1.heap.size #[.bool false, .int .i64 0, .string ⟨#[]⟩, .int .i64 0, .bool false, .int .u64 0, .int .i64 0, .bool false]) := X1_3.out.step b4
  have X2_4 : Hid (Bx w4 w2.heap.size #[.bool false, .int .i64 0, .string ⟨#[]⟩, .int .i64 0, .bool false, .int .u64 0, .int .i64 0, .bool false]) := X2_3.out.step b4
  have X3_4 : Hid (Bx w4 w3.heap.size #[.bool v0, .int .i64 v1, .string v2, .int .i64 v3, .bool v4, .int .u64 v5, .int .i64 v6, .bool v7]) := X3_3.out.step b4
  clear b4 X1_3 X2_3 X3_3
  obtain ⟨l1, c1⟩ := X1_4.out
  have a10 : w4.cell? ⟨w1.heap.size, 0, none⟩ = some (.bool false) := c1 0
  have a11 : w4.cell? ⟨w1.heap.size, 1, none⟩ = some (.int .i64 0) := c1 1
  have a12 : w4.cell? ⟨w1.heap.size, 2, none⟩ = some (.string ⟨#[]⟩) := c1 2
  have a13 : w4.cell? ⟨w1.heap.size, 3, none⟩ = some (.int .i64 0) := c1 3
  have a14 : w4.cell? ⟨w1.heap.size, 4, none⟩ = some (.bool false) := c1 4
  have a15 : w4.cell? ⟨w1.heap.size, 5, none⟩ = some (.int .u64 0) := c1 5
  have a16 : w4.cell? ⟨w1.heap.size, 6, none⟩ = some (.int .i64 0) := c1 6
  have a17 : w4.cell? ⟨w1.heap.size, 7, none⟩ = some (.bool false) := c1 7
  clear c1
  obtain ⟨l2, c2⟩ := X2_4.out
  have a20 : w4.cell? ⟨w2.heap.size, 0, none⟩ = some (.bool false) := c2 0
  have a21 : w4.cell? ⟨w2.heap.size, 1, none⟩ = some (.int .i64 0) := c2 1
  have a22 : w4.cell? ⟨w2.heap.size, 2, none⟩ = some (.string ⟨#[]⟩) := c2 2
  have a23 : w4.cell? ⟨w2.heap.size, 3, none⟩ = some (.int .i64 0) := c2 3
  have a24 : w4.cell? ⟨w2.heap.size, 4, none⟩ = some (.bool false) := c2 4
  have a25 : w4.cell? ⟨w2.heap.size, 5, none⟩ = some (.int .u64 0) := c2 5
  have a26 : w4.cell? ⟨w2.heap.size, 6, none⟩ = some (.int .i64 0) := c2 6
  have a27 : w4.cell? ⟨w2.heap.size, 7, none⟩ = some (.bool false) := c2 7
  clear c2
  obtain ⟨l3, c3⟩ := X3_4.out
  have a30 : w4.cell? ⟨w3.heap.size, 0, none⟩ = some (.bool v0) := c3 0
  have a31 : w4.cell? ⟨w3.heap.size, 1, none⟩ = some (.int .i64 v1) := c3 1
  have a32 : w4.cell? ⟨w3.heap.size, 2, none⟩ = some (.string v2) := c3 2
  have a33 : w4.cell? ⟨w3.heap.size, 3, none⟩ = some (.int .i64 v3) := c3 3
  have a34 : w4.cell? ⟨w3.heap.size, 4, none⟩ = some (.bool v4) := c3 4
  have a35 : w4.cell? ⟨w3.heap.size, 5, none⟩ = some (.int .u64 v5) := c3 5
  have a36 : w4.cell? ⟨w3.heap.size, 6, none⟩ = some (.int .i64 v6) := c3 6
  have a37 : w4.cell? ⟨w3.heap.size, 7, none⟩ = some (.bool v7) := c3 7
  clear c3
  go_wp2_with fail
  refine (N3 _).mono ?_
  rintro o wx ⟨rfl, rfl⟩
  go_wp2_with fail
  refine (N0 _).mono ?_
  rintro o wx ⟨rfl, rfl⟩
  go_wp2_with fail
  refine (VA _).mono ?_
  rintro o w5 ⟨rfl, b5⟩
  have B5 : Hid (Below w.heap.size w w5) := (B4.out.alloc B4.out.size _).trans (b5.mono (by have := B4.out.size; simp; omega))
  clear b5
  go_wp2_with fail
  refine (WK _).mono ?_
  rintro o w6 ⟨rfl, b6⟩
  have B6 : Hid (Below w.heap.size w w6) := B5.out.trans (b6.mono B5.out.size)
  clear b6
  go_wp2
  go_ret
  exact ⟨rfl, B6.out⟩
set_option maxRecDepth 100000 in
set_option maxHeartbeats 4000000 in
theorem reads_all (s : ByteArray) (v0 : Bool) (v1 : Int) (v2 : ByteArray) (v3 : Int) (v4 : Bool) (v5 v6 : Int) (v7 : Bool) (n : Int) (w : World)
    (SC : ∀ W, Calls Tryd.prog 8 #[.string s] W fun e w' => e = .returned (.tuple #[.agg #[.bool v0, .int .i64 v1, .string v2, .int .i64 v3, .bool v4, .int .u64 v5, .int .i64 v6, .bool v7], .nilIface]) ∧ Below W.heap.size W w')
    (RS : ∀ W, Calls Tryd.prog 9 #[.string s] W fun e w' => e = .returned (.tuple #[.agg #[.bool v0, .int .i64 v1, .string v2, .int .i64 v3, .bool v4, .int .u64 v5, .int .i64 v6, .bool v7], .int .i64 0]) ∧ Below W.heap.size W w')
    (PX : ∀ W, Calls Tryd.prog 10 #[.string s] W fun e w' => e = .returned (.tuple #[.agg #[.bool v0, .int .i64 v1, .string v2, .int .i64 v3, .bool v4, .int .u64 v5, .int .i64 v6, .bool v7], .int .i64 n, .nilIface]) ∧ Below W.heap.size W w')
    (RP : ∀ W, Calls Tryd.prog 11 #[.string s] W fun e w' => e = .returned (.tuple #[.agg #[.bool v0, .int .i64 v1, .string v2, .int .i64 v3, .bool v4, .int .u64 v5, .int .i64 v6, .bool v7], .int .i64 n, .int .i64 0]) ∧ Below W.heap.size W w')
    (VA : ∀ W, Calls Tryd.prog 13 #[.string s] W fun e w' => e = .returned (.bool true) ∧ Below W.heap.size W w') :
    Calls Tryd.prog 3 #[.string s] w fun o w' => o = .returned (.bool true) ∧ Below w.heap.size w w' := by
  have WK := fun V => works_any V
  have N0 := fun V => num_nil V
  have eT := str_eq v2
  go_enter Tryd.func3, Tryd.ntmps3
  go_wp2_with fail
  refine (SC _).mono ?_
  rintro o w1 ⟨rfl, b1⟩
  have B1 : Hid (Below w.heap.size w w1) := b1
  have X1_1 : Hid (Bx (w1.alloc (.cells #[.bool v0, .int .i64 v1, .string v2, .int .i64 v3, .bool v4, .int .u64 v5, .int .i64 v6, .bool v7] 26)) w1.heap.size #[.bool v0, .int .i64 v1, .string v2, .int .i64 v3, .bool v4, .int .u64 v5, .int .i64 v6, .bool v7]) := Bx.new _ _ _
  clear b1
  go_wp2_with fail
  refine (RS _).mono ?_
  rintro o w2 ⟨rfl, b2⟩
  have B2 : Hid (Below w.heap.size w w2) := (B1.out.alloc B1.out.size _).trans (b2.mono (by have := B1.out.size; simp; omega))
  have X1_2 : Hid (Bx (w2.alloc (.cells #[.bool v0, .int .i64 v1, .string v2, .int .i64 v3, .bool v4, .int .u64 v5, .int .i64 v6, .bool v7] 26)) w1.heap.size #[.bool v0, .int .i64 v1, .string v2, .int .i64 v3, .bool v4, .int .u64 v5, .int .i64 v6, .bool v7]) := (X1_1.out.step b2).alloc _
  have X2_2 : Hid (Bx (w2.alloc (.cells #[.bool v0, .int .i64 v1, .string v2, .int .i64 v3, .bool v4, .int .u64 v5, .int .i64 v6, .bool v7] 26)) w2.heap.size #[.bool v0, .int .i64 v1, .string v2, .int .i64 v3, .bool v4, .int .u64 v5, .int .i64 v6, .bool v7]) := Bx.new _ _ _
  clear b2 X1_1
  go_wp2_with fail
  refine (PX _).mono ?_
  rintro o w3 ⟨rfl, b3⟩
  have B3 : Hid (Below w.heap.size w w3) := (B2.out.alloc B2.out.size _).trans (b3.mono (by have := B2.out.size; simp; omega))
  have X1_3 : Hid (Bx (w3.alloc (.cells #[.bool v0, .int .i64 v1, .string v2, .int .i64 v3, .bool v4, .int .u64 v5, .int .i64 v6, .bool v7] 26)) w1.heap.size #[.bool v0, .int .i64 v1, .string v2, .int .i64 v3, .bool v4, .int .u64 v5, .int .i64 v6, .bool v7]) := (X1_2.out.step b3).alloc _
  have X2_3 : Hid (Bx (w3.alloc (.cells #[.bool v0, .int .i64 v1, .string v2, .int .i64 v3, .bool v4, .int .u64 v5, .int .i64 v6, .bool v7] 26)) w2.heap.size #[.bool v0, .int .i64 v1, .string v2, .int .i64 v3, .bool v4, .int .u64 v5, .int .i64 v6, .bool v7]) := (X2_2.out.step b3).alloc _
  have X3_3 : Hid (Bx (w3.alloc (.cells #[.bool v0, .int .i64 v1, .string v2, .int .i64 v3, .bool v4, .int .u64 v5, .int .i64 v6, .bool v7] 26)) w3.heap.size #[.bool v0, .int .i64 v1, .string v2, .int .i64 v3, .bool v4, .int .u64 v5, .int .i64 v6, .bool v7]) := Bx.new _ _ _
  clear b3 X1_2 X2_2
  go_wp2_with fail
  refine (RP _).mono ?_
  rintro o w4 ⟨rfl, b4⟩
  have B4 : Hid (Below w.heap.size w w4) := (B3.out.alloc B3.out.size _).trans (b4.mono (by have := B3.out.size; simp; omega))
  have X1_4 : Hid (Bx w4 w1.heap.size #[.bool v0, .int .i64 v1, .string v2, .int .i64 v3, .bool v4, .int .u64 v5, .int .i64 v6, .bool v7]) := X1_3.out.step b4
  have X2_4 : Hid (Bx w4 w2.heap.size #[.bool v0, .int .i64 v1, .string v2, .int .i64 v3, .bool v4, .int .u64 v5, .int .i64 v6, .bool v7]) := X2_3.out.step b4
  have X3_4 : Hid (Bx w4 w3.heap.size #[.bool v0, .int .i64 v1, .string v2, .int .i64 v3, .bool v4, .int .u64 v5, .int .i64 v6, .bool v7]) := X3_3.out.step b4
  clear b4 X1_3 X2_3 X3_3
  obtain ⟨l1, c1⟩ := X1_4.out
  have a10 : w4.cell? ⟨w1.heap.size, 0, none⟩ = some (.bool v0) := c1 0
  have a11 : w4.cell? ⟨w1.heap.size, 1, none⟩ = some (.int .i64 v1) := c1 1
  have a12 : w4.cell? ⟨w1.heap.size, 2, none⟩ = some (.string v2) := c1 2
  have a13 : w4.cell? ⟨w1.heap.size, 3, none⟩ = some (.int .i64 v3) := c1 3
  have a14 : w4.cell? ⟨w1.heap.size, 4, none⟩ = some (.bool v4) := c1 4
  have a15 : w4.cell? ⟨w1.heap.size, 5, none⟩ = some (.int .u64 v5) := c1 5
  have a16 : w4.cell? ⟨w1.heap.size, 6, none⟩ = some (.int .i64 v6) := c1 6
  have a17 : w4.cell? ⟨w1.heap.size, 7, none⟩ = some (.bool v7) := c1 7
  clear c1
  obtain ⟨l2, c2⟩ := X2_4.out
  have a20 : w4.cell? ⟨w2.heap.size, 0, none⟩ = some (.bool v0) := c2 0
  have a21 : w4.cell? ⟨w2.heap.size, 1, none⟩ = some (.int .i64 v1) := c2 1
  have a22 : w4.cell? ⟨w2.heap.size, 2, none⟩ = some (.string v2) := c2 2
  have a23 : w4.cell? ⟨w2.heap.size, 3, none⟩ = some (.int .i64 v3) := c2 3
  have a24 : w4.cell? ⟨w2.heap.size, 4, none⟩ = some (.bool v4) := c2 4
  have a25 : w4.cell? ⟨w2.heap.size, 5, none⟩ = some (.int .u64 v5) := c2 5
  have a26 : w4.cell? ⟨w2.heap.size, 6, none⟩ = some (.int .i64 v6) := c2 6
  have a27 : w4.cell? ⟨w2.heap.size, 7, none⟩ = some (.bool v7) := c2 7
  clear c2
  obtain ⟨l3, c3⟩ := X3_4.out
  have a30 : w4.cell? ⟨w3.heap.size, 0, none⟩ = some (.bool v0) := c3 0
  have a31 : w4.cell? ⟨w3.heap.size, 1, none⟩ = some (.int .i64 v1) := c3 1
  have a32 : w4.cell? ⟨w3.heap.size, 2, none⟩ = some (.string v2) := c3 2
  have a33 : w4.cell? ⟨w3.heap.size, 3, none⟩ = some (.int .i64 v3) := c3 3
  have a34 : w4.cell? ⟨w3.heap.size, 4, none⟩ = some (.bool v4) := c3 4
  have a35 : w4.cell? ⟨w3.heap.size, 5, none⟩ = some (.int .u64 v5) := c3 5
  have a36 : w4.cell? ⟨w3.heap.size, 6, none⟩ = some (.int .i64 v6) := c3 6
  have a37 : w4.cell? ⟨w3.heap.size, 7, none⟩ = some (.bool v7) := c3 7
  clear c3
  go_wp2_with fail
  refine (N0 _).mono ?_
  rintro o wx ⟨rfl, rfl⟩
  go_wp2_with fail
  refine (N0 _).mono ?_
  rintro o wx ⟨rfl, rfl⟩
  go_wp2_with fail
  refine (VA _).mono ?_
  rintro o w5 ⟨rfl, b5⟩
  have B5 : Hid (Below w.heap.size w w5) := (B4.out.alloc B4.out.size _).trans (b5.mono (by have := B4.out.size; simp; omega))
  clear b5
  go_wp2_with fail
  refine (WK _).mono ?_
  rintro o w6 ⟨rfl, b6⟩
  have B6 : Hid (Below w.heap.size w w6) := B5.out.trans (b6.mono B5.out.size)
  clear b6
  go_wp2
  go_ret
  exact ⟨rfl, B6.out⟩
theorem reads_law (l : List UInt8) (hl : l.length ≤ 1048576) (w : World) : Calls Tryd.prog 3 #[.string (bl l)] w fun o w' => o = .returned (.bool true) ∧ Below w.heap.size w w' := by
  have SC := fun W => scan_any l hl W
  have RS := fun W => rscan_any l hl W
  have PX := fun W => prefix_any2 l hl W
  have RP := fun W => rprefix_any l hl W
  have VA := fun W => svalid_any l hl W
  cases q : pfx l with
  | none =>
    rw [scn_none q] at SC RS VA
    rw [q] at PX RP
    exact reads_none (bl l) w SC RS PX RP VA
  | some x =>
    obtain ⟨p, n⟩ := x
    rw [scn_some q] at SC RS VA
    rw [q] at PX RP
    by_cases z : n = l.length
    · rw [if_pos z] at SC RS VA
      exact reads_all (bl l) _ _ _ _ _ _ _ _ _ w SC RS PX RP VA
    · rw [if_neg z] at SC RS VA
      exact reads_part (bl l) _ _ _ _ _ _ _ _ _ w SC RS PX RP VA
end Go.Proofs.YtjgdbphhhplifaaDoor
