/-
  The law ScanGrammar, case by case.
-/
import Derived.Test.YtjgdbphhhplifaaDoorScGu
import Derived.Test.YtjgdbphhhplifaaDoorScO
namespace Go.Proofs.YtjgdbphhhplifaaDoor
open Go.RowKit

set_option maxRecDepth 100000 in
set_option maxHeartbeats 8000000 in
theorem gram_C00 (S W P ES E U T1 T2 : ByteArray) (hx gr : Bool) (a : Option Addr) (n c : Nat) (w : World)
    (SG1 : (∀ V, Calls Tryd.prog 17 #[.string S] V fun e w' => e = .returned (.bool true) ∧ w' = V))
    (SG2 : (∀ V, Calls Tryd.prog 17 #[.string ES] V fun e w' => e = .returned (.bool true) ∧ w' = V))
    (DW : (∀ V, Calls Tryd.prog 18 #[.string W, .bool hx] V fun e w' => e = .returned (.bool true) ∧ w' = V))
    (DP : (∀ V, Calls Tryd.prog 18 #[.string P, .bool hx] V fun e w' => e = .returned (.bool true) ∧ w' = V))
    (DE : (∀ V, Calls Tryd.prog 18 #[.string E, .bool false] V fun e w' => e = .returned (.bool true) ∧ w' = V))
    (hP : P.toList.isEmpty = true)
    (zW : W.size ≤ 3000) (zP : P.size ≤ 3000) (zE : E.size ≤ 3000) (hl : ¬ (3000 : Int) < (W.size : Int) + (P.size : Int) + (E.size : Int))
    (eU : W ++ P = U) (hU : U.toList.isEmpty = false) (hE : E.toList.isEmpty = true)
    (TX1 : ∀ V, Below w.heap.size w V → Calls Tryd.prog 19 #[.agg #[.string S, .string W, .string P, .string ES, .string E, .bool false, .bool hx, .bool true, .bool gr, .slice a n c], .slice none 0 0] V fun e w' => e = .returned (.string T1) ∧ Below V.heap.size V w')
    (TX2 : ∀ V, Below w.heap.size w V → Calls Tryd.prog 19 #[.agg #[.string S, .string W, .string P, .string ES, .string E, .bool false, .bool hx, .bool true, .bool gr, .slice a n c], .slice a n c] V fun e w' => e = .returned (.string T2) ∧ Below V.heap.size V w')
    (SC1 : ∀ V, Calls Tryd.prog 8 #[.string T1] V fun e w' => e = .returned (.tuple #[.agg #[.bool false, .int .i64 0, .string ⟨#[]⟩, .int .i64 0, .bool false, .int .u64 0, .int .i64 0, .bool false], .iface 52 (.int .i64 3)]) ∧ Below V.heap.size V w')
    (SC2 : ∀ V, Calls Tryd.prog 8 #[.string T2] V fun e w' => e = .returned (.tuple #[.agg #[.bool false, .int .i64 0, .string ⟨#[]⟩, .int .i64 0, .bool false, .int .u64 0, .int .i64 0, .bool false], .iface 52 (.int .i64 3)]) ∧ Below V.heap.size V w') :
    Calls Tryd.prog 5 #[.agg #[.string S, .string W, .string P, .string ES, .string E, .bool false, .bool hx, .bool true, .bool gr, .slice a n c]] w fun o w' => o = .returned (.bool true) ∧ Below w.heap.size w w' := by
  have WK := fun V => works_any V
  have nWP : ¬ 9223372036854775807 < W.size + P.size := by omega
  have X0 : Hid (Bx (w.alloc (.cells #[.string S, .string W, .string P, .string ES, .string E, .bool false, .bool hx, .bool true, .bool gr, .slice a n c] 44)) w.heap.size #[.string S, .string W, .string P, .string ES, .string E, .bool false, .bool hx, .bool true, .bool gr, .slice a n c]) := Bx.new _ _ _
  have B0 : Hid (Below w.heap.size w (w.alloc (.cells #[.string S, .string W, .string P, .string ES, .string E, .bool false, .bool hx, .bool true, .bool gr, .slice a n c] 44))) := (Below.refl _ _).alloc (Nat.le_refl _) _
  have k0_0 : (w.alloc (.cells #[.string S, .string W, .string P, .string ES, .string E, .bool false, .bool hx, .bool true, .bool gr, .slice a n c] 44)).cell? ⟨w.heap.size, 0, none⟩ = some (.string S) := X0.out.cell 0
  have k0_1 : (w.alloc (.cells #[.string S, .string W, .string P, .string ES, .string E, .bool false, .bool hx, .bool true, .bool gr, .slice a n c] 44)).cell? ⟨w.heap.size, 1, none⟩ = some (.string W) := X0.out.cell 1
  have k0_2 : (w.alloc (.cells #[.string S, .string W, .string P, .string ES, .string E, .bool false, .bool hx, .bool true, .bool gr, .slice a n c] 44)).cell? ⟨w.heap.size, 2, none⟩ = some (.string P) := X0.out.cell 2
  have k0_3 : (w.alloc (.cells #[.string S, .string W, .string P, .string ES, .string E, .bool false, .bool hx, .bool true, .bool gr, .slice a n c] 44)).cell? ⟨w.heap.size, 3, none⟩ = some (.string ES) := X0.out.cell 3
  have k0_4 : (w.alloc (.cells #[.string S, .string W, .string P, .string ES, .string E, .bool false, .bool hx, .bool true, .bool gr, .slice a n c] 44)).cell? ⟨w.heap.size, 4, none⟩ = some (.string E) := X0.out.cell 4
  have k0_5 : (w.alloc (.cells #[.string S, .string W, .string P, .string ES, .string E, .bool false, .bool hx, .bool true, .bool gr, .slice a n c] 44)).cell? ⟨w.heap.size, 5, none⟩ = some (.bool false) := X0.out.cell 5
  have k0_6 : (w.alloc (.cells #[.string S, .string W, .string P, .string ES, .string E, .bool false, .bool hx, .bool true, .bool gr, .slice a n c] 44)).cell? ⟨w.heap.size, 6, none⟩ = some (.bool hx) := X0.out.cell 6
  have k0_7 : (w.alloc (.cells #[.string S, .string W, .string P, .string ES, .string E, .bool false, .bool hx, .bool true, .bool gr, .slice a n c] 44)).cell? ⟨w.heap.size, 7, none⟩ = some (.bool true) := X0.out.cell 7
  have k0_8 : (w.alloc (.cells #[.string S, .string W, .string P, .string ES, .string E, .bool false, .bool hx, .bool true, .bool gr, .slice a n c] 44)).cell? ⟨w.heap.size, 8, none⟩ = some (.bool gr) := X0.out.cell 8
  have k0_9 : (w.alloc (.cells #[.string S, .string W, .string P, .string ES, .string E, .bool false, .bool hx, .bool true, .bool gr, .slice a n c] 44)).cell? ⟨w.heap.size, 9, none⟩ = some (.slice a n c) := X0.out.cell 9
  go_enter Tryd.func5, Tryd.ntmps5
  go_wp2_with fail
  refine (SG1 _).mono ?_
  rintro o wx ⟨rfl, rfl⟩
  go_wp2_with fail
  refine (SG2 _).mono ?_
  rintro o wx ⟨rfl, rfl⟩
  go_wp2_with fail
  refine (DW _).mono ?_
  rintro o wx ⟨rfl, rfl⟩
  go_wp2_with fail
  refine (DP _).mono ?_
  rintro o wx ⟨rfl, rfl⟩
  go_wp2_with fail
  refine (DE _).mono ?_
  rintro o wx ⟨rfl, rfl⟩
  go_wp2
  have HWK : Hid (∀ V, Calls Tryd.prog 14 #[] V fun e w' => e = .returned (.bool true) ∧ Below V.heap.size V w') := WK
  clear WK SG1 SG2 DW DP DE
  go_region_held3 (fun w' => w'.cell? ⟨w.heap.size, 0, none⟩ = some (.string S) ∧ w'.cell? ⟨w.heap.size, 1, none⟩ = some (.string W) ∧ w'.cell? ⟨w.heap.size, 2, none⟩ = some (.string P) ∧ w'.cell? ⟨w.heap.size, 3, none⟩ = some (.string ES) ∧ w'.cell? ⟨w.heap.size, 4, none⟩ = some (.string E) ∧ w'.cell? ⟨w.heap.size, 5, none⟩ = some (.bool false) ∧ w'.cell? ⟨w.heap.size, 6, none⟩ = some (.bool hx) ∧ w'.cell? ⟨w.heap.size, 7, none⟩ = some (.bool true) ∧ w'.cell? ⟨w.heap.size, 8, none⟩ = some (.bool gr) ∧ w'.cell? ⟨w.heap.size, 9, none⟩ = some (.slice a n c)) (first | exact ⟨k2_0, k2_1, k2_2, k2_3, k2_4, k2_5, k2_6, k2_7, k2_8, k2_9⟩ | exact ⟨k1_0, k1_1, k1_2, k1_3, k1_4, k1_5, k1_6, k1_7, k1_8, k1_9⟩ | exact ⟨k0_0, k0_1, k0_2, k0_3, k0_4, k0_5, k0_6, k0_7, k0_8, k0_9⟩)
    (first
      | (go_at_call_of 19 (Value.slice none 0 0); refine (TX1 _ B0.out.drew).mono ?_; rintro o w1 ⟨rfl, b1⟩; have X1 : Hid (Bx w1 w.heap.size #[.string S, .string W, .string P, .string ES, .string E, .bool false, .bool hx, .bool true, .bool gr, .slice a n c]) := X0.out.drew.step b1; have B1 : Hid (Below w.heap.size w w1) := (B0.out.drew).trans (b1.mono (B0.out.drew).size); clear b1; have k1_0 : w1.cell? ⟨w.heap.size, 0, none⟩ = some (.string S) := X1.out.cell 0; have k1_1 : w1.cell? ⟨w.heap.size, 1, none⟩ = some (.string W) := X1.out.cell 1; have k1_2 : w1.cell? ⟨w.heap.size, 2, none⟩ = some (.string P) := X1.out.cell 2; have k1_3 : w1.cell? ⟨w.heap.size, 3, none⟩ = some (.string ES) := X1.out.cell 3; have k1_4 : w1.cell? ⟨w.heap.size, 4, none⟩ = some (.string E) := X1.out.cell 4; have k1_5 : w1.cell? ⟨w.heap.size, 5, none⟩ = some (.bool false) := X1.out.cell 5; have k1_6 : w1.cell? ⟨w.heap.size, 6, none⟩ = some (.bool hx) := X1.out.cell 6; have k1_7 : w1.cell? ⟨w.heap.size, 7, none⟩ = some (.bool true) := X1.out.cell 7; have k1_8 : w1.cell? ⟨w.heap.size, 8, none⟩ = some (.bool gr) := X1.out.cell 8; have k1_9 : w1.cell? ⟨w.heap.size, 9, none⟩ = some (.slice a n c) := X1.out.cell 9)
      | (go_at_call_of 19 (Value.slice a n c); refine (TX2 _ B1.out).mono ?_; rintro o w2 ⟨rfl, b2⟩; have X2 : Hid (Bx w2 w.heap.size #[.string S, .string W, .string P, .string ES, .string E, .bool false, .bool hx, .bool true, .bool gr, .slice a n c]) := X1.out.step b2; have B2 : Hid (Below w.heap.size w w2) := (B1.out).trans (b2.mono (B1.out).size); clear b2; have k2_0 : w2.cell? ⟨w.heap.size, 0, none⟩ = some (.string S) := X2.out.cell 0; have k2_1 : w2.cell? ⟨w.heap.size, 1, none⟩ = some (.string W) := X2.out.cell 1; have k2_2 : w2.cell? ⟨w.heap.size, 2, none⟩ = some (.string P) := X2.out.cell 2; have k2_3 : w2.cell? ⟨w.heap.size, 3, none⟩ = some (.string ES) := X2.out.cell 3; have k2_4 : w2.cell? ⟨w.heap.size, 4, none⟩ = some (.string E) := X2.out.cell 4; have k2_5 : w2.cell? ⟨w.heap.size, 5, none⟩ = some (.bool false) := X2.out.cell 5; have k2_6 : w2.cell? ⟨w.heap.size, 6, none⟩ = some (.bool hx) := X2.out.cell 6; have k2_7 : w2.cell? ⟨w.heap.size, 7, none⟩ = some (.bool true) := X2.out.cell 7; have k2_8 : w2.cell? ⟨w.heap.size, 8, none⟩ = some (.bool gr) := X2.out.cell 8; have k2_9 : w2.cell? ⟨w.heap.size, 9, none⟩ = some (.slice a n c) := X2.out.cell 9))
  all_goals
    clear TX1 TX2
    go_wp2_with fail
    refine (SC1 _).mono ?_
    rintro o w3 ⟨rfl, b3⟩
    have B3 : Hid (Below w.heap.size w w3) := B2.out.trans (b3.mono B2.out.size)
    have X3 : Hid (Bx w3 w.heap.size #[.string S, .string W, .string P, .string ES, .string E, .bool false, .bool hx, .bool true, .bool gr, .slice a n c]) := X2.out.step b3
    clear b3
    have Y3 : Hid (Bx (w3.alloc (.cells #[.bool false, .int .i64 0, .string ⟨#[]⟩, .int .i64 0, .bool false, .int .u64 0, .int .i64 0, .bool false] 26)) w3.heap.size #[.bool false, .int .i64 0, .string ⟨#[]⟩, .int .i64 0, .bool false, .int .u64 0, .int .i64 0, .bool false]) := Bx.new _ _ _
    go_wp2_with fail
    refine (SC2 _).mono ?_
    rintro o w4 ⟨rfl, b4⟩
    have B4 : Hid (Below w.heap.size w w4) := (B3.out.alloc B3.out.size _).trans (b4.mono (by have := B3.out.size; simp; omega))
    have X4 : Hid (Bx w4 w.heap.size #[.string S, .string W, .string P, .string ES, .string E, .bool false, .bool hx, .bool true, .bool gr, .slice a n c]) := (X3.out.alloc _).step b4
    have Y4 : Hid (Bx w4 w3.heap.size #[.bool false, .int .i64 0, .string ⟨#[]⟩, .int .i64 0, .bool false, .int .u64 0, .int .i64 0, .bool false]) := Y3.out.step b4
    clear b4 Y3
    have l4 := X4.out.lt
    have m4 := Y4.out.lt
    have f0 : w4.cell? ⟨w.heap.size, 0, none⟩ = some (.string S) := X4.out.cell 0
    have f6 : w4.cell? ⟨w.heap.size, 6, none⟩ = some (.bool hx) := X4.out.cell 6
    have y0 : w4.cell? ⟨w3.heap.size, 0, none⟩ = some (.bool false) := Y4.out.cell 0
    have y1 : w4.cell? ⟨w3.heap.size, 1, none⟩ = some (.int .i64 0) := Y4.out.cell 1
    have y2 : w4.cell? ⟨w3.heap.size, 2, none⟩ = some (.string ⟨#[]⟩) := Y4.out.cell 2
    have y3 : w4.cell? ⟨w3.heap.size, 3, none⟩ = some (.int .i64 0) := Y4.out.cell 3
    have y4 : w4.cell? ⟨w3.heap.size, 4, none⟩ = some (.bool false) := Y4.out.cell 4
    have y5 : w4.cell? ⟨w3.heap.size, 5, none⟩ = some (.int .u64 0) := Y4.out.cell 5
    have y6 : w4.cell? ⟨w3.heap.size, 6, none⟩ = some (.int .i64 0) := Y4.out.cell 6
    have y7 : w4.cell? ⟨w3.heap.size, 7, none⟩ = some (.bool false) := Y4.out.cell 7
    go_wp2_with fail
    refine (HWK.out _).mono ?_
    rintro o w5 ⟨rfl, b5⟩
    have B5 : Hid (Below w.heap.size w w5) := (B4.out.alloc B4.out.size _).trans (b5.mono (by have := B4.out.size; simp; omega))
    clear b5
    go_wp2
    go_ret
    exact ⟨rfl, B5.out⟩
set_option maxRecDepth 100000 in
set_option maxHeartbeats 8000000 in
theorem gram_C01 (S W P ES E U T1 T2 : ByteArray) (hx gr : Bool) (a : Option Addr) (n c : Nat) (w : World)
    (SG1 : (∀ V, Calls Tryd.prog 17 #[.string S] V fun e w' => e = .returned (.bool true) ∧ w' = V))
    (SG2 : (∀ V, Calls Tryd.prog 17 #[.string ES] V fun e w' => e = .returned (.bool true) ∧ w' = V))
    (DW : (∀ V, Calls Tryd.prog 18 #[.string W, .bool hx] V fun e w' => e = .returned (.bool true) ∧ w' = V))
    (DP : (∀ V, Calls Tryd.prog 18 #[.string P, .bool hx] V fun e w' => e = .returned (.bool true) ∧ w' = V))
    (DE : (∀ V, Calls Tryd.prog 18 #[.string E, .bool false] V fun e w' => e = .returned (.bool true) ∧ w' = V))
    (zW : W.size ≤ 3000) (zP : P.size ≤ 3000) (zE : E.size ≤ 3000) (hl : ¬ (3000 : Int) < (W.size : Int) + (P.size : Int) + (E.size : Int))
    (eU : W ++ P = U) (hU : U.toList.isEmpty = false) (hE : E.toList.isEmpty = true)
    (TX1 : ∀ V, Below w.heap.size w V → Calls Tryd.prog 19 #[.agg #[.string S, .string W, .string P, .string ES, .string E, .bool true, .bool hx, .bool true, .bool gr, .slice a n c], .slice none 0 0] V fun e w' => e = .returned (.string T1) ∧ Below V.heap.size V w')
    (TX2 : ∀ V, Below w.heap.size w V → Calls Tryd.prog 19 #[.agg #[.string S, .string W, .string P, .string ES, .string E, .bool true, .bool hx, .bool true, .bool gr, .slice a n c], .slice a n c] V fun e w' => e = .returned (.string T2) ∧ Below V.heap.size V w')
    (SC1 : ∀ V, Calls Tryd.prog 8 #[.string T1] V fun e w' => e = .returned (.tuple #[.agg #[.bool false, .int .i64 0, .string ⟨#[]⟩, .int .i64 0, .bool false, .int .u64 0, .int .i64 0, .bool false], .iface 52 (.int .i64 3)]) ∧ Below V.heap.size V w')
    (SC2 : ∀ V, Calls Tryd.prog 8 #[.string T2] V fun e w' => e = .returned (.tuple #[.agg #[.bool false, .int .i64 0, .string ⟨#[]⟩, .int .i64 0, .bool false, .int .u64 0, .int .i64 0, .bool false], .iface 52 (.int .i64 3)]) ∧ Below V.heap.size V w') :
    Calls Tryd.prog 5 #[.agg #[.string S, .string W, .string P, .string ES, .string E, .bool true, .bool hx, .bool true, .bool gr, .slice a n c]] w fun o w' => o = .returned (.bool true) ∧ Below w.heap.size w w' := by
  have WK := fun V => works_any V
  have nWP : ¬ 9223372036854775807 < W.size + P.size := by omega
  have X0 : Hid (Bx (w.alloc (.cells #[.string S, .string W, .string P, .string ES, .string E, .bool true, .bool hx, .bool true, .bool gr, .slice a n c] 44)) w.heap.size #[.string S, .string W, .string P, .string ES, .string E, .bool true, .bool hx, .bool true, .bool gr, .slice a n c]) := Bx.new _ _ _
  have B0 : Hid (Below w.heap.size w (w.alloc (.cells #[.string S, .string W, .string P, .string ES, .string E, .bool true, .bool hx, .bool true, .bool gr, .slice a n c] 44))) := (Below.refl _ _).alloc (Nat.le_refl _) _
  have k0_0 : (w.alloc (.cells #[.string S, .string W, .string P, .string ES, .string E, .bool true, .bool hx, .bool true, .bool gr, .slice a n c] 44)).cell? ⟨w.heap.size, 0, none⟩ = some (.string S) := X0.out.cell 0
  have k0_1 : (w.alloc (.cells #[.string S, .string W, .string P, .string ES, .string E, .bool true, .bool hx, .bool true, .bool gr, .slice a n c] 44)).cell? ⟨w.heap.size, 1, none⟩ = some (.string W) := X0.out.cell 1
  have k0_2 : (w.alloc (.cells #[.string S, .string W, .string P, .string ES, .string E, .bool true, .bool hx, .bool true, .bool gr, .slice a n c] 44)).cell? ⟨w.heap.size, 2, none⟩ = some (.string P) := X0.out.cell 2
  have k0_3 : (w.alloc (.cells #[.string S, .string W, .string P, .string ES, .string E, .bool true, .bool hx, .bool true, .bool gr, .slice a n c] 44)).cell? ⟨w.heap.size, 3, none⟩ = some (.string ES) := X0.out.cell 3
  have k0_4 : (w.alloc (.cells #[.string S, .string W, .string P, .string ES, .string E, .bool true, .bool hx, .bool true, .bool gr, .slice a n c] 44)).cell? ⟨w.heap.size, 4, none⟩ = some (.string E) := X0.out.cell 4
  have k0_5 : (w.alloc (.cells #[.string S, .string W, .string P, .string ES, .string E, .bool true, .bool hx, .bool true, .bool gr, .slice a n c] 44)).cell? ⟨w.heap.size, 5, none⟩ = some (.bool true) := X0.out.cell 5
  have k0_6 : (w.alloc (.cells #[.string S, .string W, .string P, .string ES, .string E, .bool true, .bool hx, .bool true, .bool gr, .slice a n c] 44)).cell? ⟨w.heap.size, 6, none⟩ = some (.bool hx) := X0.out.cell 6
  have k0_7 : (w.alloc (.cells #[.string S, .string W, .string P, .string ES, .string E, .bool true, .bool hx, .bool true, .bool gr, .slice a n c] 44)).cell? ⟨w.heap.size, 7, none⟩ = some (.bool true) := X0.out.cell 7
  have k0_8 : (w.alloc (.cells #[.string S, .string W, .string P, .string ES, .string E, .bool true, .bool hx, .bool true, .bool gr, .slice a n c] 44)).cell? ⟨w.heap.size, 8, none⟩ = some (.bool gr) := X0.out.cell 8
  have k0_9 : (w.alloc (.cells #[.string S, .string W, .string P, .string ES, .string E, .bool true, .bool hx, .bool true, .bool gr, .slice a n c] 44)).cell? ⟨w.heap.size, 9, none⟩ = some (.slice a n c) := X0.out.cell 9
  go_enter Tryd.func5, Tryd.ntmps5
  go_wp2_with fail
  refine (SG1 _).mono ?_
  rintro o wx ⟨rfl, rfl⟩
  go_wp2_with fail
  refine (SG2 _).mono ?_
  rintro o wx ⟨rfl, rfl⟩
  go_wp2_with fail
  refine (DW _).mono ?_
  rintro o wx ⟨rfl, rfl⟩
  go_wp2_with fail
  refine (DP _).mono ?_
  rintro o wx ⟨rfl, rfl⟩
  go_wp2_with fail
  refine (DE _).mono ?_
  rintro o wx ⟨rfl, rfl⟩
  go_wp2
  have HWK : Hid (∀ V, Calls Tryd.prog 14 #[] V fun e w' => e = .returned (.bool true) ∧ Below V.heap.size V w') := WK
  clear WK SG1 SG2 DW DP DE
  go_region_held3 (fun w' => w'.cell? ⟨w.heap.size, 0, none⟩ = some (.string S) ∧ w'.cell? ⟨w.heap.size, 1, none⟩ = some (.string W) ∧ w'.cell? ⟨w.heap.size, 2, none⟩ = some (.string P) ∧ w'.cell? ⟨w.heap.size, 3, none⟩ = some (.string ES) ∧ w'.cell? ⟨w.heap.size, 4, none⟩ = some (.string E) ∧ w'.cell? ⟨w.heap.size, 5, none⟩ = some (.bool true) ∧ w'.cell? ⟨w.heap.size, 6, none⟩ = some (.bool hx) ∧ w'.cell? ⟨w.heap.size, 7, none⟩ = some (.bool true) ∧ w'.cell? ⟨w.heap.size, 8, none⟩ = some (.bool gr) ∧ w'.cell? ⟨w.heap.size, 9, none⟩ = some (.slice a n c)) (first | exact ⟨k2_0, k2_1, k2_2, k2_3, k2_4, k2_5, k2_6, k2_7, k2_8, k2_9⟩ | exact ⟨k1_0, k1_1, k1_2, k1_3, k1_4, k1_5, k1_6, k1_7, k1_8, k1_9⟩ | exact ⟨k0_0, k0_1, k0_2, k0_3, k0_4, k0_5, k0_6, k0_7, k0_8, k0_9⟩)
    (first
      | (go_at_call_of 19 (Value.slice none 0 0); refine (TX1 _ B0.out.drew).mono ?_; rintro o w1 ⟨rfl, b1⟩; have X1 : Hid (Bx w1 w.heap.size #[.string S, .string W, .string P, .string ES, .string E, .bool true, .bool hx, .bool true, .bool gr, .slice a n c]) := X0.out.drew.step b1; have B1 : Hid (Below w.heap.size w w1) := (B0.out.drew).trans (b1.mono (B0.out.drew).size); clear b1; have k1_0 : w1.cell? ⟨w.heap.size, 0, none⟩ = some (.string S) := X1.out.cell 0; have k1_1 : w1.cell? ⟨w.heap.size, 1, none⟩ = some (.string W) := X1.out.cell 1; have k1_2 : w1.cell? ⟨w.heap.size, 2, none⟩ = some (.string P) := X1.out.cell 2; have k1_3 : w1.cell? ⟨w.heap.size, 3, none⟩ = some (.string ES) := X1.out.cell 3; have k1_4 : w1.cell? ⟨w.heap.size, 4, none⟩ = some (.string E) := X1.out.cell 4; have k1_5 : w1.cell? ⟨w.heap.size, 5, none⟩ = some (.bool true) := X1.out.cell 5; have k1_6 : w1.cell? ⟨w.heap.size, 6, none⟩ = some (.bool hx) := X1.out.cell 6; have k1_7 : w1.cell? ⟨w.heap.size, 7, none⟩ = some (.bool true) := X1.out.cell 7; have k1_8 : w1.cell? ⟨w.heap.size, 8, none⟩ = some (.bool gr) := X1.out.cell 8; have k1_9 : w1.cell? ⟨w.heap.size, 9, none⟩ = some (.slice a n c) := X1.out.cell 9)
      | (go_at_call_of 19 (Value.slice a n c); refine (TX2 _ B1.out).mono ?_; rintro o w2 ⟨rfl, b2⟩; have X2 : Hid (Bx w2 w.heap.size #[.string S, .string W, .string P, .string ES, .string E, .bool true, .bool hx, .bool true, .bool gr, .slice a n c]) := X1.out.step b2; have B2 : Hid (Below w.heap.size w w2) := (B1.out).trans (b2.mono (B1.out).size); clear b2; have k2_0 : w2.cell? ⟨w.heap.size, 0, none⟩ = some (.string S) := X2.out.cell 0; have k2_1 : w2.cell? ⟨w.heap.size, 1, none⟩ = some (.string W) := X2.out.cell 1; have k2_2 : w2.cell? ⟨w.heap.size, 2, none⟩ = some (.string P) := X2.out.cell 2; have k2_3 : w2.cell? ⟨w.heap.size, 3, none⟩ = some (.string ES) := X2.out.cell 3; have k2_4 : w2.cell? ⟨w.heap.size, 4, none⟩ = some (.string E) := X2.out.cell 4; have k2_5 : w2.cell? ⟨w.heap.size, 5, none⟩ = some (.bool true) := X2.out.cell 5; have k2_6 : w2.cell? ⟨w.heap.size, 6, none⟩ = some (.bool hx) := X2.out.cell 6; have k2_7 : w2.cell? ⟨w.heap.size, 7, none⟩ = some (.bool true) := X2.out.cell 7; have k2_8 : w2.cell? ⟨w.heap.size, 8, none⟩ = some (.bool gr) := X2.out.cell 8; have k2_9 : w2.cell? ⟨w.heap.size, 9, none⟩ = some (.slice a n c) := X2.out.cell 9))
  all_goals
    clear TX1 TX2
    go_wp2_with fail
    refine (SC1 _).mono ?_
    rintro o w3 ⟨rfl, b3⟩
    have B3 : Hid (Below w.heap.size w w3) := B2.out.trans (b3.mono B2.out.size)
    have X3 : Hid (Bx w3 w.heap.size #[.string S, .string W, .string P, .string ES, .string E, .bool true, .bool hx, .bool true, .bool gr, .slice a n c]) := X2.out.step b3
    clear b3
    have Y3 : Hid (Bx (w3.alloc (.cells #[.bool false, .int .i64 0, .string ⟨#[]⟩, .int .i64 0, .bool false, .int .u64 0, .int .i64 0, .bool false] 26)) w3.heap.size #[.bool false, .int .i64 0, .string ⟨#[]⟩, .int .i64 0, .bool false, .int .u64 0, .int .i64 0, .bool false]) := Bx.new _ _ _
    go_wp2_with fail
    refine (SC2 _).mono ?_
    rintro o w4 ⟨rfl, b4⟩
    have B4 : Hid (Below w.heap.size w w4) := (B3.out.alloc B3.out.size _).trans (b4.mono (by have := B3.out.size; simp; omega))
    have X4 : Hid (Bx w4 w.heap.size #[.string S, .string W, .string P, .string ES, .string E, .bool true, .bool hx, .bool true, .bool gr, .slice a n c]) := (X3.out.alloc _).step b4
    have Y4 : Hid (Bx w4 w3.heap.size #[.bool false, .int .i64 0, .string ⟨#[]⟩, .int .i64 0, .bool false, .int .u64 0, .int .i64 0, .bool false]) := Y3.out.step b4
    clear b4 Y3
    have l4 := X4.out.lt
    have m4 := Y4.out.lt
    have f0 : w4.cell? ⟨w.heap.size, 0, none⟩ = some (.string S) := X4.out.cell 0
    have f6 : w4.cell? ⟨w.heap.size, 6, none⟩ = some (.bool hx) := X4.out.cell 6
    have y0 : w4.cell? ⟨w3.heap.size, 0, none⟩ = some (.bool false) := Y4.out.cell 0
    have y1 : w4.cell? ⟨w3.heap.size, 1, none⟩ = some (.int .i64 0) := Y4.out.cell 1
    have y2 : w4.cell? ⟨w3.heap.size, 2, none⟩ = some (.string ⟨#[]⟩) := Y4.out.cell 2
    have y3 : w4.cell? ⟨w3.heap.size, 3, none⟩ = some (.int .i64 0) := Y4.out.cell 3
    have y4 : w4.cell? ⟨w3.heap.size, 4, none⟩ = some (.bool false) := Y4.out.cell 4
    have y5 : w4.cell? ⟨w3.heap.size, 5, none⟩ = some (.int .u64 0) := Y4.out.cell 5
    have y6 : w4.cell? ⟨w3.heap.size, 6, none⟩ = some (.int .i64 0) := Y4.out.cell 6
    have y7 : w4.cell? ⟨w3.heap.size, 7, none⟩ = some (.bool false) := Y4.out.cell 7
    go_wp2_with fail
    refine (HWK.out _).mono ?_
    rintro o w5 ⟨rfl, b5⟩
    have B5 : Hid (Below w.heap.size w w5) := (B4.out.alloc B4.out.size _).trans (b5.mono (by have := B4.out.size; simp; omega))
    clear b5
    go_wp2
    go_ret
    exact ⟨rfl, B5.out⟩
set_option maxRecDepth 100000 in
set_option maxHeartbeats 8000000 in
theorem gram_C10 (S W P ES E U T1 T2 : ByteArray) (gr : Bool) (a : Option Addr) (n c : Nat) (v0 : Bool) (v2 : ByteArray) (v3 : Int) (v4 : Bool) (v5 v6 : Int) (v7 : Bool) (w : World)
    (SG1 : (∀ V, Calls Tryd.prog 17 #[.string S] V fun e w' => e = .returned (.bool true) ∧ w' = V))
    (SG2 : (∀ V, Calls Tryd.prog 17 #[.string ES] V fun e w' => e = .returned (.bool true) ∧ w' = V))
    (DW : (∀ V, Calls Tryd.prog 18 #[.string W, .bool false] V fun e w' => e = .returned (.bool true) ∧ w' = V))
    (DP : (∀ V, Calls Tryd.prog 18 #[.string P, .bool false] V fun e w' => e = .returned (.bool true) ∧ w' = V))
    (DE : (∀ V, Calls Tryd.prog 18 #[.string E, .bool false] V fun e w' => e = .returned (.bool true) ∧ w' = V))
    (hP : P.toList.isEmpty = true)
    (zW : W.size ≤ 3000) (zP : P.size ≤ 3000) (zE : E.size ≤ 3000) (hl : ¬ (3000 : Int) < (W.size : Int) + (P.size : Int) + (E.size : Int))
    (eU : W ++ P = U) (hU : U.toList.isEmpty = false) (hE : E.toList.isEmpty = false)
    (hS : (S.toList == [45]) = v0)
    (TX1 : ∀ V, Below w.heap.size w V → Calls Tryd.prog 19 #[.agg #[.string S, .string W, .string P, .string ES, .string E, .bool false, .bool false, .bool true, .bool gr, .slice a n c], .slice none 0 0] V fun e w' => e = .returned (.string T1) ∧ Below V.heap.size V w')
    (TX2 : ∀ V, Below w.heap.size w V → Calls Tryd.prog 19 #[.agg #[.string S, .string W, .string P, .string ES, .string E, .bool false, .bool false, .bool true, .bool gr, .slice a n c], .slice a n c] V fun e w' => e = .returned (.string T2) ∧ Below V.heap.size V w')
    (SC1 : ∀ V, Calls Tryd.prog 8 #[.string T1] V fun e w' => e = .returned (.tuple #[.agg #[.bool v0, .int .i64 1, .string v2, .int .i64 v3, .bool v4, .int .u64 v5, .int .i64 v6, .bool v7], .nilIface]) ∧ Below V.heap.size V w')
    (SC2 : ∀ V, Calls Tryd.prog 8 #[.string T2] V fun e w' => e = .returned (.tuple #[.agg #[.bool v0, .int .i64 1, .string v2, .int .i64 v3, .bool v4, .int .u64 v5, .int .i64 v6, .bool v7], .nilIface]) ∧ Below V.heap.size V w') :
    Calls Tryd.prog 5 #[.agg #[.string S, .string W, .string P, .string ES, .string E, .bool false, .bool false, .bool true, .bool gr, .slice a n c]] w fun o w' => o = .returned (.bool true) ∧ Below w.heap.size w w' := by
  have WK := fun V => works_any V
  have nWP : ¬ 9223372036854775807 < W.size + P.size := by omega
  have eT := str_eq v2
  have eN : (v2.toList != v2.toList) = false := by simp
  have X0 : Hid (Bx (w.alloc (.cells #[.string S, .string W, .string P, .string ES, .string E, .bool false, .bool false, .bool true, .bool gr, .slice a n c] 44)) w.heap.size #[.string S, .string W, .string P, .string ES, .string E, .bool false, .bool false, .bool true, .bool gr, .slice a n c]) := Bx.new _ _ _
  have B0 : Hid (Below w.heap.size w (w.alloc (.cells #[.string S, .string W, .string P, .string ES, .string E, .bool false, .bool false, .bool true, .bool gr, .slice a n c] 44))) := (Below.refl _ _).alloc (Nat.le_refl _) _
  have k0_0 : (w.alloc (.cells #[.string S, .string W, .string P, .string ES, .string E, .bool false, .bool false, .bool true, .bool gr, .slice a n c] 44)).cell? ⟨w.heap.size, 0, none⟩ = some (.string S) := X0.out.cell 0
  have k0_1 : (w.alloc (.cells #[.string S, .string W, .string P, .string ES, .string E, .bool false, .bool false, .bool true, .bool gr, .slice a n c] 44)).cell? ⟨w.heap.size, 1, none⟩ = some (.string W) := X0.out.cell 1
  have k0_2 : (w.alloc (.cells #[.string S, .string W, .string P, .string ES, .string E, .bool false, .bool false, .bool true, .bool gr, .slice a n c] 44)).cell? ⟨w.heap.size, 2, none⟩ = some (.string P) := X0.out.cell 2
  have k0_3 : (w.alloc (.cells #[.string S, .string W, .string P, .string ES, .string E, .bool false, .bool false, .bool true, .bool gr, .slice a n c] 44)).cell? ⟨w.heap.size, 3, none⟩ = some (.string ES) := X0.out.cell 3
  have k0_4 : (w.alloc (.cells #[.string S, .string W, .string P, .string ES, .string E, .bool false, .bool false, .bool true, .bool gr, .slice a n c] 44)).cell? ⟨w.heap.size, 4, none⟩ = some (.string E) := X0.out.cell 4
  have k0_5 : (w.alloc (.cells #[.string S, .string W, .string P, .string ES, .string E, .bool false, .bool false, .bool true, .bool gr, .slice a n c] 44)).cell? ⟨w.heap.size, 5, none⟩ = some (.bool false) := X0.out.cell 5
  have k0_6 : (w.alloc (.cells #[.string S, .string W, .string P, .string ES, .string E, .bool false, .bool false, .bool true, .bool gr, .slice a n c] 44)).cell? ⟨w.heap.size, 6, none⟩ = some (.bool false) := X0.out.cell 6
  have k0_7 : (w.alloc (.cells #[.string S, .string W, .string P, .string ES, .string E, .bool false, .bool false, .bool true, .bool gr, .slice a n c] 44)).cell? ⟨w.heap.size, 7, none⟩ = some (.bool true) := X0.out.cell 7
  have k0_8 : (w.alloc (.cells #[.string S, .string W, .string P, .string ES, .string E, .bool false, .bool false, .bool true, .bool gr, .slice a n c] 44)).cell? ⟨w.heap.size, 8, none⟩ = some (.bool gr) := X0.out.cell 8
  have k0_9 : (w.alloc (.cells #[.string S, .string W, .string P, .string ES, .string E, .bool false, .bool false, .bool true, .bool gr, .slice a n c] 44)).cell? ⟨w.heap.size, 9, none⟩ = some (.slice a n c) := X0.out.cell 9
  go_enter Tryd.func5, Tryd.ntmps5
  go_wp2_with fail
  refine (SG1 _).mono ?_
  rintro o wx ⟨rfl, rfl⟩
  go_wp2_with fail
  refine (SG2 _).mono ?_
  rintro o wx ⟨rfl, rfl⟩
  go_wp2_with fail
  refine (DW _).mono ?_
  rintro o wx ⟨rfl, rfl⟩
  go_wp2_with fail
  refine (DP _).mono ?_
  rintro o wx ⟨rfl, rfl⟩
  go_wp2_with fail
  refine (DE _).mono ?_
  rintro o wx ⟨rfl, rfl⟩
  go_wp2
  have HWK : Hid (∀ V, Calls Tryd.prog 14 #[] V fun e w' => e = .returned (.bool true) ∧ Below V.heap.size V w') := WK
  clear WK SG1 SG2 DW DP DE
  go_region_held3 (fun w' => w'.cell? ⟨w.heap.size, 0, none⟩ = some (.string S) ∧ w'.cell? ⟨w.heap.size, 1, none⟩ = some (.string W) ∧ w'.cell? ⟨w.heap.size, 2, none⟩ = some (.string P) ∧ w'.cell? ⟨w.heap.size, 3, none⟩ = some (.string ES) ∧ w'.cell? ⟨w.heap.size, 4, none⟩ = some (.string E) ∧ w'.cell? ⟨w.heap.size, 5, none⟩ = some (.bool false) ∧ w'.cell? ⟨w.heap.size, 6, none⟩ = some (.bool false) ∧ w'.cell? ⟨w.heap.size, 7, none⟩ = some (.bool true) ∧ w'.cell? ⟨w.heap.size, 8, none⟩ = some (.bool gr) ∧ w'.cell? ⟨w.heap.size, 9, none⟩ = some (.slice a n c)) (first | exact ⟨k2_0, k2_1, k2_2, k2_3, k2_4, k2_5, k2_6, k2_7, k2_8, k2_9⟩ | exact ⟨k1_0, k1_1, k1_2, k1_3, k1_4, k1_5, k1_6, k1_7, k1_8, k1_9⟩ | exact ⟨k0_0, k0_1, k0_2, k0_3, k0_4, k0_5, k0_6, k0_7, k0_8, k0_9⟩)
    (first
      | (go_at_call_of 19 (Value.slice none 0 0); refine (TX1 _ B0.out.drew).mono ?_; rintro o w1 ⟨rfl, b1⟩; have X1 : Hid (Bx w1 w.heap.size #[.string S, .string W, .string P, .string ES, .string E, .bool false, .bool false, .bool true, .bool gr, .slice a n c]) := X0.out.drew.step b1; have B1 : Hid (Below w.heap.size w w1) := (B0.out.drew).trans (b1.mono (B0.out.drew).size); clear b1; have k1_0 : w1.cell? ⟨w.heap.size, 0, none⟩ = some (.string S) := X1.out.cell 0; have k1_1 : w1.cell? ⟨w.heap.size, 1, none⟩ = some (.string W) := X1.out.cell 1; have k1_2 : w1.cell? ⟨w.heap.size, 2, none⟩ = some (.string P) := X1.out.cell 2; have k1_3 : w1.cell? ⟨w.heap.size, 3, none⟩ = some (.string ES) := X1.out.cell 3; have k1_4 : w1.cell? ⟨w.heap.size, 4, none⟩ = some (.string E) := X1.out.cell 4; have k1_5 : w1.cell? ⟨w.heap.size, 5, none⟩ = some (.bool false) := X1.out.cell 5; have k1_6 : w1.cell? ⟨w.heap.size, 6, none⟩ = some (.bool false) := X1.out.cell 6; have k1_7 : w1.cell? ⟨w.heap.size, 7, none⟩ = some (.bool true) := X1.out.cell 7; have k1_8 : w1.cell? ⟨w.heap.size, 8, none⟩ = some (.bool gr) := X1.out.cell 8; have k1_9 : w1.cell? ⟨w.heap.size, 9, none⟩ = some (.slice a n c) := X1.out.cell 9)
      | (go_at_call_of 19 (Value.slice a n c); refine (TX2 _ B1.out).mono ?_; rintro o w2 ⟨rfl, b2⟩; have X2 : Hid (Bx w2 w.heap.size #[.string S, .string W, .string P, .string ES, .string E, .bool false, .bool false, .bool true, .bool gr, .slice a n c]) := X1.out.step b2; have B2 : Hid (Below w.heap.size w w2) := (B1.out).trans (b2.mono (B1.out).size); clear b2; have k2_0 : w2.cell? ⟨w.heap.size, 0, none⟩ = some (.string S) := X2.out.cell 0; have k2_1 : w2.cell? ⟨w.heap.size, 1, none⟩ = some (.string W) := X2.out.cell 1; have k2_2 : w2.cell? ⟨w.heap.size, 2, none⟩ = some (.string P) := X2.out.cell 2; have k2_3 : w2.cell? ⟨w.heap.size, 3, none⟩ = some (.string ES) := X2.out.cell 3; have k2_4 : w2.cell? ⟨w.heap.size, 4, none⟩ = some (.string E) := X2.out.cell 4; have k2_5 : w2.cell? ⟨w.heap.size, 5, none⟩ = some (.bool false) := X2.out.cell 5; have k2_6 : w2.cell? ⟨w.heap.size, 6, none⟩ = some (.bool false) := X2.out.cell 6; have k2_7 : w2.cell? ⟨w.heap.size, 7, none⟩ = some (.bool true) := X2.out.cell 7; have k2_8 : w2.cell? ⟨w.heap.size, 8, none⟩ = some (.bool gr) := X2.out.cell 8; have k2_9 : w2.cell? ⟨w.heap.size, 9, none⟩ = some (.slice a n c) := X2.out.cell 9))
  all_goals
    clear TX1 TX2
    go_wp2_with fail
    refine (SC1 _).mono ?_
    rintro o w3 ⟨rfl, b3⟩
    have B3 : Hid (Below w.heap.size w w3) := B2.out.trans (b3.mono B2.out.size)
    have X3 : Hid (Bx w3 w.heap.size #[.string S, .string W, .string P, .string ES, .string E, .bool false, .bool false, .bool true, .bool gr, .slice a n c]) := X2.out.step b3
    clear b3
    have Y3 : Hid (Bx (w3.alloc (.cells #[.bool v0, .int .i64 1, .string v2, .int .i64 v3, .bool v4, .int .u64 v5, .int .i64 v6, .bool v7] 26)) w3.heap.size #[.bool v0, .int .i64 1, .string v2, .int .i64 v3, .bool v4, .int .u64 v5, .int .i64 v6, .bool v7]) := Bx.new _ _ _
    go_wp2_with fail
    refine (SC2 _).mono ?_
    rintro o w4 ⟨rfl, b4⟩
    have B4 : Hid (Below w.heap.size w w4) := (B3.out.alloc B3.out.size _).trans (b4.mono (by have := B3.out.size; simp; omega))
    have X4 : Hid (Bx w4 w.heap.size #[.string S, .string W, .string P, .string ES, .string E, .bool false, .bool false, .bool true, .bool gr, .slice a n c]) := (X3.out.alloc _).step b4
    have Y4 : Hid (Bx w4 w3.heap.size #[.bool v0, .int .i64 1, .string v2, .int .i64 v3, .bool v4, .int .u64 v5, .int .i64 v6, .bool v7]) := Y3.out.step b4
    clear b4 Y3
    have l4 := X4.out.lt
    have m4 := Y4.out.lt
    have f0 : w4.cell? ⟨w.heap.size, 0, none⟩ = some (.string S) := X4.out.cell 0
    have f6 : w4.cell? ⟨w.heap.size, 6, none⟩ = some (.bool false) := X4.out.cell 6
    have y0 : w4.cell? ⟨w3.heap.size, 0, none⟩ = some (.bool v0) := Y4.out.cell 0
    have y1 : w4.cell? ⟨w3.heap.size, 1, none⟩ = some (.int .i64 1) := Y4.out.cell 1
    have y2 : w4.cell? ⟨w3.heap.size, 2, none⟩ = some (.string v2) := Y4.out.cell 2
    have y3 : w4.cell? ⟨w3.heap.size, 3, none⟩ = some (.int .i64 v3) := Y4.out.cell 3
    have y4 : w4.cell? ⟨w3.heap.size, 4, none⟩ = some (.bool v4) := Y4.out.cell 4
    have y5 : w4.cell? ⟨w3.heap.size, 5, none⟩ = some (.int .u64 v5) := Y4.out.cell 5
    have y6 : w4.cell? ⟨w3.heap.size, 6, none⟩ = some (.int .i64 v6) := Y4.out.cell 6
    have y7 : w4.cell? ⟨w3.heap.size, 7, none⟩ = some (.bool v7) := Y4.out.cell 7
    go_wp2_with fail
    refine (HWK.out _).mono ?_
    rintro o w5 ⟨rfl, b5⟩
    have B5 : Hid (Below w.heap.size w w5) := (B4.out.alloc B4.out.size _).trans (b5.mono (by have := B4.out.size; simp; omega))
    clear b5
    go_wp2
    go_ret
    exact ⟨rfl, B5.out⟩
set_option maxRecDepth 100000 in
set_option maxHeartbeats 8000000 in
theorem gram_C11 (S W P ES E U T1 T2 : ByteArray) (gr : Bool) (a : Option Addr) (n c : Nat) (v0 : Bool) (v2 : ByteArray) (v3 : Int) (v4 : Bool) (v5 v6 : Int) (v7 : Bool) (w : World)
    (SG1 : (∀ V, Calls Tryd.prog 17 #[.string S] V fun e w' => e = .returned (.bool true) ∧ w' = V))
    (SG2 : (∀ V, Calls Tryd.prog 17 #[.string ES] V fun e w' => e = .returned (.bool true) ∧ w' = V))
    (DW : (∀ V, Calls Tryd.prog 18 #[.string W, .bool false] V fun e w' => e = .returned (.bool true) ∧ w' = V))
    (DP : (∀ V, Calls Tryd.prog 18 #[.string P, .bool false] V fun e w' => e = .returned (.bool true) ∧ w' = V))
    (DE : (∀ V, Calls Tryd.prog 18 #[.string E, .bool false] V fun e w' => e = .returned (.bool true) ∧ w' = V))
    (zW : W.size ≤ 3000) (zP : P.size ≤ 3000) (zE : E.size ≤ 3000) (hl : ¬ (3000 : Int) < (W.size : Int) + (P.size : Int) + (E.size : Int))
    (eU : W ++ P = U) (hU : U.toList.isEmpty = false) (hE : E.toList.isEmpty = false)
    (hS : (S.toList == [45]) = v0)
    (TX1 : ∀ V, Below w.heap.size w V → Calls Tryd.prog 19 #[.agg #[.string S, .string W, .string P, .string ES, .string E, .bool true, .bool false, .bool true, .bool gr, .slice a n c], .slice none 0 0] V fun e w' => e = .returned (.string T1) ∧ Below V.heap.size V w')
    (TX2 : ∀ V, Below w.heap.size w V → Calls Tryd.prog 19 #[.agg #[.string S, .string W, .string P, .string ES, .string E, .bool true, .bool false, .bool true, .bool gr, .slice a n c], .slice a n c] V fun e w' => e = .returned (.string T2) ∧ Below V.heap.size V w')
    (SC1 : ∀ V, Calls Tryd.prog 8 #[.string T1] V fun e w' => e = .returned (.tuple #[.agg #[.bool v0, .int .i64 1, .string v2, .int .i64 v3, .bool v4, .int .u64 v5, .int .i64 v6, .bool v7], .nilIface]) ∧ Below V.heap.size V w')
    (SC2 : ∀ V, Calls Tryd.prog 8 #[.string T2] V fun e w' => e = .returned (.tuple #[.agg #[.bool v0, .int .i64 1, .string v2, .int .i64 v3, .bool v4, .int .u64 v5, .int .i64 v6, .bool v7], .nilIface]) ∧ Below V.heap.size V w') :
    Calls Tryd.prog 5 #[.agg #[.string S, .string W, .string P, .string ES, .string E, .bool true, .bool false, .bool true, .bool gr, .slice a n c]] w fun o w' => o = .returned (.bool true) ∧ Below w.heap.size w w' := by
  have WK := fun V => works_any V
  have nWP : ¬ 9223372036854775807 < W.size + P.size := by omega
  have eT := str_eq v2
  have eN : (v2.toList != v2.toList) = false := by simp
  have X0 : Hid (Bx (w.alloc (.cells #[.string S, .string W, .string P, .string ES, .string E, .bool true, .bool false, .bool true, .bool gr, .slice a n c] 44)) w.heap.size #[.string S, .string W, .string P, .string ES, .string E, .bool true, .bool false, .bool true, .bool gr, .slice a n c]) := Bx.new _ _ _
  have B0 : Hid (Below w.heap.size w (w.alloc (.cells #[.string S, .string W, .string P, .string ES, .string E, .bool true, .bool false, .bool true, .bool gr, .slice a n c] 44))) := (Below.refl _ _).alloc (Nat.le_refl _) _
  have k0_0 : (w.alloc (.cells #[.string S, .string W, .string P, .string ES, .string E, .bool true, .bool false, .bool true, .bool gr, .slice a n c] 44)).cell? ⟨w.heap.size, 0, none⟩ = some (.string S) := X0.out.cell 0
  have k0_1 : (w.alloc (.cells #[.string S, .string W, .string P, .string ES, .string E, .bool true, .bool false, .bool true, .bool gr, .slice a n c] 44)).cell? ⟨w.heap.size, 1, none⟩ = some (.string W) := X0.out.cell 1
  have k0_2 : (w.alloc (.cells #[.string S, .string W, .string P, .string ES, .string E, .bool true, .bool false, .bool true, .bool gr, .slice a n c] 44)).cell? ⟨w.heap.size, 2, none⟩ = some (.string P) := X0.out.cell 2
  have k0_3 : (w.alloc (.cells #[.string S, .string W, .string P, .string ES, .string E, .bool true, .bool false, .bool true, .bool gr, .slice a n c] 44)).cell? ⟨w.heap.size, 3, none⟩ = some (.string ES) := X0.out.cell 3
  have k0_4 : (w.alloc (.cells #[.string S, .string W, .string P, .string ES, .string E, .bool true, .bool false, .bool true, .bool gr, .slice a n c] 44)).cell? ⟨w.heap.size, 4, none⟩ = some (.string E) := X0.out.cell 4
  have k0_5 : (w.alloc (.cells #[.string S, .string W, .string P, .string ES, .string E, .bool true, .bool false, .bool true, .bool gr, .slice a n c] 44)).cell? ⟨w.heap.size, 5, none⟩ = some (.bool true) := X0.out.cell 5
  have k0_6 : (w.alloc (.cells #[.string S, .string W, .string P, .string ES, .string E, .bool true, .bool false, .bool true, .bool gr, .slice a n c] 44)).cell? ⟨w.heap.size, 6, none⟩ = some (.bool false) := X0.out.cell 6
  have k0_7 : (w.alloc (.cells #[.string S, .string W, .string P, .string ES, .string E, .bool true, .bool false, .bool true, .bool gr, .slice a n c] 44)).cell? ⟨w.heap.size, 7, none⟩ = some (.bool true) := X0.out.cell 7
  have k0_8 : (w.alloc (.cells #[.string S, .string W, .string P, .string ES, .string E, .bool true, .bool false, .bool true, .bool gr, .slice a n c] 44)).cell? ⟨w.heap.size, 8, none⟩ = some (.bool gr) := X0.out.cell 8
  have k0_9 : (w.alloc (.cells #[.string S, .string W, .string P, .string ES, .string E, .bool true, .bool false, .bool true, .bool gr, .slice a n c] 44)).cell? ⟨w.heap.size, 9, none⟩ = some (.slice a n c) := X0.out.cell 9
  go_enter Tryd.func5, Tryd.ntmps5
  go_wp2_with fail
  refine (SG1 _).mono ?_
  rintro o wx ⟨rfl, rfl⟩
  go_wp2_with fail
  refine (SG2 _).mono ?_
  rintro o wx ⟨rfl, rfl⟩
  go_wp2_with fail
  refine (DW _).mono ?_
  rintro o wx ⟨rfl, rfl⟩
  go_wp2_with fail
  refine (DP _).mono ?_
  rintro o wx ⟨rfl, rfl⟩
  go_wp2_with fail
  refine (DE _).mono ?_
  rintro o wx ⟨rfl, rfl⟩
  go_wp2
  have HWK : Hid (∀ V, Calls Tryd.prog 14 #[] V fun e w' => e = .returned (.bool true) ∧ Below V.heap.size V w') := WK
  clear WK SG1 SG2 DW DP DE
  go_region_held3 (fun w' => w'.cell? ⟨w.heap.size, 0, none⟩ = some (.string S) ∧ w'.cell? ⟨w.heap.size, 1, none⟩ = some (.string W) ∧ w'.cell? ⟨w.heap.size, 2, none⟩ = some (.string P) ∧ w'.cell? ⟨w.heap.size, 3, none⟩ = some (.string ES) ∧ w'.cell? ⟨w.heap.size, 4, none⟩ = some (.string E) ∧ w'.cell? ⟨w.heap.size, 5, none⟩ = some (.bool true) ∧ w'.cell? ⟨w.heap.size, 6, none⟩ = some (.bool false) ∧ w'.cell? ⟨w.heap.size, 7, none⟩ = some (.bool true) ∧ w'.cell? ⟨w.heap.size, 8, none⟩ = some (.bool gr) ∧ w'.cell? ⟨w.heap.size, 9, none⟩ = some (.slice a n c)) (first | exact ⟨k2_0, k2_1, k2_2, k2_3, k2_4, k2_5, k2_6, k2_7, k2_8, k2_9⟩ | exact ⟨k1_0, k1_1, k1_2, k1_3, k1_4, k1_5, k1_6, k1_7, k1_8, k1_9⟩ | exact ⟨k0_0, k0_1, k0_2, k0_3, k0_4, k0_5, k0_6, k0_7, k0_8, k0_9⟩)
    (first
      | (go_at_call_of 19 (Value.slice none 0 0); refine (TX1 _ B0.out.drew).mono ?_; rintro o w1 ⟨rfl, b1⟩; have X1 : Hid (Bx w1 w.heap.size #[.string S, .string W, .string P, .string ES, .string E, .bool true, .bool false, .bool true, .bool gr, .slice a n c]) := X0.out.drew.step b1; have B1 : Hid (Below w.heap.size w w1) := (B0.out.drew).trans (b1.mono (B0.out.drew).size); clear b1; have k1_0 : w1.cell? ⟨w.heap.size, 0, none⟩ = some (.string S) := X1.out.cell 0; have k1_1 : w1.cell? ⟨w.heap.size, 1, none⟩ = some (.string W) := X1.out.cell 1; have k1_2 : w1.cell? ⟨w.heap.size, 2, none⟩ = some (.string P) := X1.out.cell 2; have k1_3 : w1.cell? ⟨w.heap.size, 3, none⟩ = some (.string ES) := X1.out.cell 3; have k1_4 : w1.cell? ⟨w.heap.size, 4, none⟩ = some (.string E) := X1.out.cell 4; have k1_5 : w1.cell? ⟨w.heap.size, 5, none⟩ = some (.bool true) := X1.out.cell 5; have k1_6 : w1.cell? ⟨w.heap.size, 6, none⟩ = some (.bool false) := X1.out.cell 6; have k1_7 : w1.cell? ⟨w.heap.size, 7, none⟩ = some (.bool true) := X1.out.cell 7; have k1_8 : w1.cell? ⟨w.heap.size, 8, none⟩ = some (.bool gr) := X1.out.cell 8; have k1_9 : w1.cell? ⟨w.heap.size, 9, none⟩ = some (.slice a n c) := X1.out.cell 9)
      | (go_at_call_of 19 (Value.slice a n c); refine (TX2 _ B1.out).mono ?_; rintro o w2 ⟨rfl, b2⟩; have X2 : Hid (Bx w2 w.heap.size #[.string S, .string W, .string P, .string ES, .string E, .bool true, .bool false, .bool true, .bool gr, .slice a n c]) := X1.out.step b2; have B2 : Hid (Below w.heap.size w w2) := (B1.out).trans (b2.mono (B1.out).size); clear b2; have k2_0 : w2.cell? ⟨w.heap.size, 0, none⟩ = some (.string S) := X2.out.cell 0; have k2_1 : w2.cell? ⟨w.heap.size, 1, none⟩ = some (.string W) := X2.out.cell 1; have k2_2 : w2.cell? ⟨w.heap.size, 2, none⟩ = some (.string P) := X2.out.cell 2; have k2_3 : w2.cell? ⟨w.heap.size, 3, none⟩ = some (.string ES) := X2.out.cell 3; have k2_4 : w2.cell? ⟨w.heap.size, 4, none⟩ = some (.string E) := X2.out.cell 4; have k2_5 : w2.cell? ⟨w.heap.size, 5, none⟩ = some (.bool true) := X2.out.cell 5; have k2_6 : w2.cell? ⟨w.heap.size, 6, none⟩ = some (.bool false) := X2.out.cell 6; have k2_7 : w2.cell? ⟨w.heap.size, 7, none⟩ = some (.bool true) := X2.out.cell 7; have k2_8 : w2.cell? ⟨w.heap.size, 8, none⟩ = some (.bool gr) := X2.out.cell 8; have k2_9 : w2.cell? ⟨w.heap.size, 9, none⟩ = some (.slice a n c) := X2.out.cell 9))
  all_goals
    clear TX1 TX2
    go_wp2_with fail
    refine (SC1 _).mono ?_
    rintro o w3 ⟨rfl, b3⟩
    have B3 : Hid (Below w.heap.size w w3) := B2.out.trans (b3.mono B2.out.size)
    have X3 : Hid (Bx w3 w.heap.size #[.string S, .string W, .string P, .string ES, .string E, .bool true, .bool false, .bool true, .bool gr, .slice a n c]) := X2.out.step b3
    clear b3
    have Y3 : Hid (Bx (w3.alloc (.cells #[.bool v0, .int .i64 1, .string v2, .int .i64 v3, .bool v4, .int .u64 v5, .int .i64 v6, .bool v7] 26)) w3.heap.size #[.bool v0, .int .i64 1, .string v2, .int .i64 v3, .bool v4, .int .u64 v5, .int .i64 v6, .bool v7]) := Bx.new _ _ _
    go_wp2_with fail
    refine (SC2 _).mono ?_
    rintro o w4 ⟨rfl, b4⟩
    have B4 : Hid (Below w.heap.size w w4) := (B3.out.alloc B3.out.size _).trans (b4.mono (by have := B3.out.size; simp; omega))
    have X4 : Hid (Bx w4 w.heap.size #[.string S, .string W, .string P, .string ES, .string E, .bool true, .bool false, .bool true, .bool gr, .slice a n c]) := (X3.out.alloc _).step b4
    have Y4 : Hid (Bx w4 w3.heap.size #[.bool v0, .int .i64 1, .string v2, .int .i64 v3, .bool v4, .int .u64 v5, .int .i64 v6, .bool v7]) := Y3.out.step b4
    clear b4 Y3
    have l4 := X4.out.lt
    have m4 := Y4.out.lt
    have f0 : w4.cell? ⟨w.heap.size, 0, none⟩ = some (.string S) := X4.out.cell 0
    have f6 : w4.cell? ⟨w.heap.size, 6, none⟩ = some (.bool false) := X4.out.cell 6
    have y0 : w4.cell? ⟨w3.heap.size, 0, none⟩ = some (.bool v0) := Y4.out.cell 0
    have y1 : w4.cell? ⟨w3.heap.size, 1, none⟩ = some (.int .i64 1) := Y4.out.cell 1
    have y2 : w4.cell? ⟨w3.heap.size, 2, none⟩ = some (.string v2) := Y4.out.cell 2
    have y3 : w4.cell? ⟨w3.heap.size, 3, none⟩ = some (.int .i64 v3) := Y4.out.cell 3
    have y4 : w4.cell? ⟨w3.heap.size, 4, none⟩ = some (.bool v4) := Y4.out.cell 4
    have y5 : w4.cell? ⟨w3.heap.size, 5, none⟩ = some (.int .u64 v5) := Y4.out.cell 5
    have y6 : w4.cell? ⟨w3.heap.size, 6, none⟩ = some (.int .i64 v6) := Y4.out.cell 6
    have y7 : w4.cell? ⟨w3.heap.size, 7, none⟩ = some (.bool v7) := Y4.out.cell 7
    go_wp2_with fail
    refine (HWK.out _).mono ?_
    rintro o w5 ⟨rfl, b5⟩
    have B5 : Hid (Below w.heap.size w w5) := (B4.out.alloc B4.out.size _).trans (b5.mono (by have := B4.out.size; simp; omega))
    clear b5
    go_wp2
    go_ret
    exact ⟨rfl, B5.out⟩
set_option maxRecDepth 100000 in
set_option maxHeartbeats 8000000 in
theorem gram_C20 (S W P ES E U T1 T2 : ByteArray) (gr : Bool) (a : Option Addr) (n c : Nat) (v0 : Bool) (v2 : ByteArray) (v3 : Int) (v4 : Bool) (v5 v6 : Int) (v7 : Bool) (w : World)
    (SG1 : (∀ V, Calls Tryd.prog 17 #[.string S] V fun e w' => e = .returned (.bool true) ∧ w' = V))
    (SG2 : (∀ V, Calls Tryd.prog 17 #[.string ES] V fun e w' => e = .returned (.bool true) ∧ w' = V))
    (DW : (∀ V, Calls Tryd.prog 18 #[.string W, .bool true] V fun e w' => e = .returned (.bool true) ∧ w' = V))
    (DP : (∀ V, Calls Tryd.prog 18 #[.string P, .bool true] V fun e w' => e = .returned (.bool true) ∧ w' = V))
    (DE : (∀ V, Calls Tryd.prog 18 #[.string E, .bool false] V fun e w' => e = .returned (.bool true) ∧ w' = V))
    (hP : P.toList.isEmpty = true)
    (zW : W.size ≤ 3000) (zP : P.size ≤ 3000) (zE : E.size ≤ 3000) (hl : ¬ (3000 : Int) < (W.size : Int) + (P.size : Int) + (E.size : Int))
    (eU : W ++ P = U) (hU : U.toList.isEmpty = false) (hE : E.toList.isEmpty = false)
    (hS : (S.toList == [45]) = v0)
    (TX1 : ∀ V, Below w.heap.size w V → Calls Tryd.prog 19 #[.agg #[.string S, .string W, .string P, .string ES, .string E, .bool false, .bool true, .bool true, .bool gr, .slice a n c], .slice none 0 0] V fun e w' => e = .returned (.string T1) ∧ Below V.heap.size V w')
    (TX2 : ∀ V, Below w.heap.size w V → Calls Tryd.prog 19 #[.agg #[.string S, .string W, .string P, .string ES, .string E, .bool false, .bool true, .bool true, .bool gr, .slice a n c], .slice a n c] V fun e w' => e = .returned (.string T2) ∧ Below V.heap.size V w')
    (SC1 : ∀ V, Calls Tryd.prog 8 #[.string T1] V fun e w' => e = .returned (.tuple #[.agg #[.bool v0, .int .i64 2, .string v2, .int .i64 v3, .bool v4, .int .u64 v5, .int .i64 v6, .bool v7], .nilIface]) ∧ Below V.heap.size V w')
    (SC2 : ∀ V, Calls Tryd.prog 8 #[.string T2] V fun e w' => e = .returned (.tuple #[.agg #[.bool v0, .int .i64 2, .string v2, .int .i64 v3, .bool v4, .int .u64 v5, .int .i64 v6, .bool v7], .nilIface]) ∧ Below V.heap.size V w') :
    Calls Tryd.prog 5 #[.agg #[.string S, .string W, .string P, .string ES, .string E, .bool false, .bool true, .bool true, .bool gr, .slice a n c]] w fun o w' => o = .returned (.bool true) ∧ Below w.heap.size w w' := by
  have WK := fun V => works_any V
  have nWP : ¬ 9223372036854775807 < W.size + P.size := by omega
  have eT := str_eq v2
  have eN : (v2.toList != v2.toList) = false := by simp
  have X0 : Hid (Bx (w.alloc (.cells #[.string S, .string W, .string P, .string ES, .string E, .bool false, .bool true, .bool true, .bool gr, .slice a n c] 44)) w.heap.size #[.string S, .string W, .string P, .string ES, .string E, .bool false, .bool true, .bool true, .bool gr, .slice a n c]) := Bx.new _ _ _
  have B0 : Hid (Below w.heap.size w (w.alloc (.cells #[.string S, .string W, .string P, .string ES, .string E, .bool false, .bool true, .bool true, .bool gr, .slice a n c] 44))) := (Below.refl _ _).alloc (Nat.le_refl _) _
  have k0_0 : (w.alloc (.cells #[.string S, .string W, .string P, .string ES, .string E, .bool false, .bool true, .bool true, .bool gr, .slice a n c] 44)).cell? ⟨w.heap.size, 0, none⟩ = some (.string S) := X0.out.cell 0
  have k0_1 : (w.alloc (.cells #[.string S, .string W, .string P, .string ES, .string E, .bool false, .bool true, .bool true, .bool gr, .slice a n c] 44)).cell? ⟨w.heap.size, 1, none⟩ = some (.string W) := X0.out.cell 1
  have k0_2 : (w.alloc (.cells #[.string S, .string W, .string P, .string ES, .string E, .bool false, .bool true, .bool true, .bool gr, .slice a n c] 44)).cell? ⟨w.heap.size, 2, none⟩ = some (.string P) := X0.out.cell 2
  have k0_3 : (w.alloc (.cells #[.string S, .string W, .string P, .string ES, .string E, .bool false, .bool true, .bool true, .bool gr, .slice a n c] 44)).cell? ⟨w.heap.size, 3, none⟩ = some (.string ES) := X0.out.cell 3
  have k0_4 : (w.alloc (.cells #[.string S, .string W, .string P, .string ES, .string E, .bool false, .bool true, .bool true, .bool gr, .slice a n c] 44)).cell? ⟨w.heap.size, 4, none⟩ = some (.string E) := X0.out.cell 4
  have k0_5 : (w.alloc (.cells #[.string S, .string W, .string P, .string ES, .string E, .bool false, .bool true, .bool true, .bool gr, .slice a n c] 44)).cell? ⟨w.heap.size, 5, none⟩ = some (.bool false) := X0.out.cell 5
  have k0_6 : (w.alloc (.cells #[.string S, .string W, .string P, .string ES, .string E, .bool false, .bool true, .bool true, .bool gr, .slice a n c] 44)).cell? ⟨w.heap.size, 6, none⟩ = some (.bool true) := X0.out.cell 6
  have k0_7 : (w.alloc (.cells #[.string S, .string W, .string P, .string ES, .string E, .bool false, .bool true, .bool true, .bool gr, .slice a n c] 44)).cell? ⟨w.heap.size, 7, none⟩ = some (.bool true) := X0.out.cell 7
  have k0_8 : (w.alloc (.cells #[.string S, .string W, .string P, .string ES, .string E, .bool false, .bool true, .bool true, .bool gr, .slice a n c] 44)).cell? ⟨w.heap.size, 8, none⟩ = some (.bool gr) := X0.out.cell 8
  have k0_9 : (w.alloc (.cells #[.string S, .string W, .string P, .string ES, .string E, .bool false, .bool true, .bool true, .bool gr, .slice a n c] 44)).cell? ⟨w.heap.size, 9, none⟩ = some (.slice a n c) := X0.out.cell 9
  go_enter Tryd.func5, Tryd.ntmps5
  go_wp2_with fail
  refine (SG1 _).mono ?_
  rintro o wx ⟨rfl, rfl⟩
  go_wp2_with fail
  refine (SG2 _).mono ?_
  rintro o wx ⟨rfl, rfl⟩
  go_wp2_with fail
  refine (DW _).mono ?_
  rintro o wx ⟨rfl, rfl⟩
  go_wp2_with fail
  refine (DP _).mono ?_
  rintro o wx ⟨rfl, rfl⟩
  go_wp2_with fail
  refine (DE _).mono ?_
  rintro o wx ⟨rfl, rfl⟩
  go_wp2
  have HWK : Hid (∀ V, Calls Tryd.prog 14 #[] V fun e w' => e = .returned (.bool true) ∧ Below V.heap.size V w') := WK
  clear WK SG1 SG2 DW DP DE
  go_region_held3 (fun w' => w'.cell? ⟨w.heap.size, 0, none⟩ = some (.string S) ∧ w'.cell? ⟨w.heap.size, 1, none⟩ = some (.string W) ∧ w'.cell? ⟨w.heap.size, 2, none⟩ = some (.string P) ∧ w'.cell? ⟨w.heap.size, 3, none⟩ = some (.string ES) ∧ w'.cell? ⟨w.heap.size, 4, none⟩ = some (.string E) ∧ w'.cell? ⟨w.heap.size, 5, none⟩ = some (.bool false) ∧ w'.cell? ⟨w.heap.size, 6, none⟩ = some (.bool true) ∧ w'.cell? ⟨w.heap.size, 7, none⟩ = some (.bool true) ∧ w'.cell? ⟨w.heap.size, 8, none⟩ = some (.bool gr) ∧ w'.cell? ⟨w.heap.size, 9, none⟩ = some (.slice a n c)) (first | exact ⟨k2_0, k2_1, k2_2, k2_3, k2_4, k2_5, k2_6, k2_7, k2_8, k2_9⟩ | exact ⟨k1_0, k1_1, k1_2, k1_3, k1_4, k1_5, k1_6, k1_7, k1_8, k1_9⟩ | exact ⟨k0_0, k0_1, k0_2, k0_3, k0_4, k0_5, k0_6, k0_7, k0_8, k0_9⟩)
    (first
      | (go_at_call_of 19 (Value.slice none 0 0); refine (TX1 _ B0.out.drew).mono ?_; rintro o w1 ⟨rfl, b1⟩; have X1 : Hid (Bx w1 w.heap.size #[.string S, .string W, .string P, .string ES, .string E, .bool false, .bool true, .bool true, .bool gr, .slice a n c]) := X0.out.drew.step b1; have B1 : Hid (Below w.heap.size w w1) := (B0.out.drew).trans (b1.mono (B0.out.drew).size); clear b1; have k1_0 : w1.cell? ⟨w.heap.size, 0, none⟩ = some (.string S) := X1.out.cell 0; have k1_1 : w1.cell? ⟨w.heap.size, 1, none⟩ = some (.string W) := X1.out.cell 1; have k1_2 : w1.cell? ⟨w.heap.size, 2, none⟩ = some (.string P) := X1.out.cell 2; have k1_3 : w1.cell? ⟨w.heap.size, 3, none⟩ = some (.string ES) := X1.out.cell 3; have k1_4 : w1.cell? ⟨w.heap.size, 4, none⟩ = some (.string E) := X1.out.cell 4; have k1_5 : w1.cell? ⟨w.heap.size, 5, none⟩ = some (.bool false) := X1.out.cell 5; have k1_6 : w1.cell? ⟨w.heap.size, 6, none⟩ = some (.bool true) := X1.out.cell 6; have k1_7 : w1.cell? ⟨w.heap.size, 7, none⟩ = some (.bool true) := X1.out.cell 7; have k1_8 : w1.cell? ⟨w.heap.size, 8, none⟩ = some (.bool gr) := X1.out.cell 8; have k1_9 : w1.cell? ⟨w.heap.size, 9, none⟩ = some (.slice a n c) := X1.out.cell 9)
      | (go_at_call_of 19 (Value.slice a n c); refine (TX2 _ B1.out).mono ?_; rintro o w2 ⟨rfl, b2⟩; have X2 : Hid (Bx w2 w.heap.size #[.string S, .string W, .string P, .string ES, .string E, .bool false, .bool true, .bool true, .bool gr, .slice a n c]) := X1.out.step b2; have B2 : Hid (Below w.heap.size w w2) := (B1.out).trans (b2.mono (B1.out).size); clear b2; have k2_0 : w2.cell? ⟨w.heap.size, 0, none⟩ = some (.string S) := X2.out.cell 0; have k2_1 : w2.cell? ⟨w.heap.size, 1, none⟩ = some (.string W) := X2.out.cell 1; have k2_2 : w2.cell? ⟨w.heap.size, 2, none⟩ = some (.string P) := X2.out.cell 2; have k2_3 : w2.cell? ⟨w.heap.size, 3, none⟩ = some (.string ES) := X2.out.cell 3; have k2_4 : w2.cell? ⟨w.heap.size, 4, none⟩ = some (.string E) := X2.out.cell 4; have k2_5 : w2.cell? ⟨w.heap.size, 5, none⟩ = some (.bool false) := X2.out.cell 5; have k2_6 : w2.cell? ⟨w.heap.size, 6, none⟩ = some (.bool true) := X2.out.cell 6; have k2_7 : w2.cell? ⟨w.heap.size, 7, none⟩ = some (.bool true) := X2.out.cell 7; have k2_8 : w2.cell? ⟨w.heap.size, 8, none⟩ = some (.bool gr) := X2.out.cell 8; have k2_9 : w2.cell? ⟨w.heap.size, 9, none⟩ = some (.slice a n c) := X2.out.cell 9))
  all_goals
    clear TX1 TX2
    go_wp2_with fail
    refine (SC1 _).mono ?_
    rintro o w3 ⟨rfl, b3⟩
    have B3 : Hid (Below w.heap.size w w3) := B2.out.trans (b3.mono B2.out.size)
    have X3 : Hid (Bx w3 w.heap.size #[.string S, .string W, .string P, .string ES, .string E, .bool false, .bool true, .bool true, .bool gr, .slice a n c]) := X2.out.step b3
    clear b3
    have Y3 : Hid (Bx (w3.alloc (.cells #[.bool v0, .int .i64 2, .string v2, .int .i64 v3, .bool v4, .int .u64 v5, .int .i64 v6, .bool v7] 26)) w3.heap.size #[.bool v0, .int .i64 2, .string v2, .int .i64 v3, .bool v4, .int .u64 v5, .int .i64 v6, .bool v7]) := Bx.new _ _ _
    go_wp2_with fail
    refine (SC2 _).mono ?_
    rintro o w4 ⟨rfl, b4⟩
    have B4 : Hid (Below w.heap.size w w4) := (B3.out.alloc B3.out.size _).trans (b4.mono (by have := B3.out.size; simp; omega))
    have X4 : Hid (Bx w4 w.heap.size #[.string S, .string W, .string P, .string ES, .string E, .bool false, .bool true, .bool true, .bool gr, .slice a n c]) := (X3.out.alloc _).step b4
    have Y4 : Hid (Bx w4 w3.heap.size #[.bool v0, .int .i64 2, .string v2, .int .i64 v3, .bool v4, .int .u64 v5, .int .i64 v6, .bool v7]) := Y3.out.step b4
    clear b4 Y3
    have l4 := X4.out.lt
    have m4 := Y4.out.lt
    have f0 : w4.cell? ⟨w.heap.size, 0, none⟩ = some (.string S) := X4.out.cell 0
    have f6 : w4.cell? ⟨w.heap.size, 6, none⟩ = some (.bool true) := X4.out.cell 6
    have y0 : w4.cell? ⟨w3.heap.size, 0, none⟩ = some (.bool v0) := Y4.out.cell 0
    have y1 : w4.cell? ⟨w3.heap.size, 1, none⟩ = some (.int .i64 2) := Y4.out.cell 1
    have y2 : w4.cell? ⟨w3.heap.size, 2, none⟩ = some (.string v2) := Y4.out.cell 2
    have y3 : w4.cell? ⟨w3.heap.size, 3, none⟩ = some (.int .i64 v3) := Y4.out.cell 3
    have y4 : w4.cell? ⟨w3.heap.size, 4, none⟩ = some (.bool v4) := Y4.out.cell 4
    have y5 : w4.cell? ⟨w3.heap.size, 5, none⟩ = some (.int .u64 v5) := Y4.out.cell 5
    have y6 : w4.cell? ⟨w3.heap.size, 6, none⟩ = some (.int .i64 v6) := Y4.out.cell 6
    have y7 : w4.cell? ⟨w3.heap.size, 7, none⟩ = some (.bool v7) := Y4.out.cell 7
    go_wp2_with fail
    refine (HWK.out _).mono ?_
    rintro o w5 ⟨rfl, b5⟩
    have B5 : Hid (Below w.heap.size w w5) := (B4.out.alloc B4.out.size _).trans (b5.mono (by have := B4.out.size; simp; omega))
    clear b5
    go_wp2
    go_ret
    exact ⟨rfl, B5.out⟩
set_option maxRecDepth 100000 in
set_option maxHeartbeats 8000000 in
theorem gram_C21 (S W P ES E U T1 T2 : ByteArray) (gr : Bool) (a : Option Addr) (n c : Nat) (v0 : Bool) (v2 : ByteArray) (v3 : Int) (v4 : Bool) (v5 v6 : Int) (v7 : Bool) (w : World)
    (SG1 : (∀ V, Calls Tryd.prog 17 #[.string S] V fun e w' => e = .returned (.bool true) ∧ w' = V))
    (SG2 : (∀ V, Calls Tryd.prog 17 #[.string ES] V fun e w' => e = .returned (.bool true) ∧ w' = V))
    (DW : (∀ V, Calls Tryd.prog 18 #[.string W, .bool true] V fun e w' => e = .returned (.bool true) ∧ w' = V))
    (DP : (∀ V, Calls Tryd.prog 18 #[.string P, .bool true] V fun e w' => e = .returned (.bool true) ∧ w' = V))
    (DE : (∀ V, Calls Tryd.prog 18 #[.string E, .bool false] V fun e w' => e = .returned (.bool true) ∧ w' = V))
    (zW : W.size ≤ 3000) (zP : P.size ≤ 3000) (zE : E.size ≤ 3000) (hl : ¬ (3000 : Int) < (W.size : Int) + (P.size : Int) + (E.size : Int))
    (eU : W ++ P = U) (hU : U.toList.isEmpty = false) (hE : E.toList.isEmpty = false)
    (hS : (S.toList == [45]) = v0)
    (TX1 : ∀ V, Below w.heap.size w V → Calls Tryd.prog 19 #[.agg #[.string S, .string W, .string P, .string ES, .string E, .bool true, .bool true, .bool true, .bool gr, .slice a n c], .slice none 0 0] V fun e w' => e = .returned (.string T1) ∧ Below V.heap.size V w')
    (TX2 : ∀ V, Below w.heap.size w V → Calls Tryd.prog 19 #[.agg #[.string S, .string W, .string P, .string ES, .string E, .bool true, .bool true, .bool true, .bool gr, .slice a n c], .slice a n c] V fun e w' => e = .returned (.string T2) ∧ Below V.heap.size V w')
    (SC1 : ∀ V, Calls Tryd.prog 8 #[.string T1] V fun e w' => e = .returned (.tuple #[.agg #[.bool v0, .int .i64 2, .string v2, .int .i64 v3, .bool v4, .int .u64 v5, .int .i64 v6, .bool v7], .nilIface]) ∧ Below V.heap.size V w')
    (SC2 : ∀ V, Calls Tryd.prog 8 #[.string T2] V fun e w' => e = .returned (.tuple #[.agg #[.bool v0, .int .i64 2, .string v2, .int .i64 v3, .bool v4, .int .u64 v5, .int .i64 v6, .bool v7], .nilIface]) ∧ Below V.heap.size V w') :
    Calls Tryd.prog 5 #[.agg #[.string S, .string W, .string P, .string ES, .string E, .bool true, .bool true, .bool true, .bool gr, .slice a n c]] w fun o w' => o = .returned (.bool true) ∧ Below w.heap.size w w' := by
  have WK := fun V => works_any V
  have nWP : ¬ 9223372036854775807 < W.size + P.size := by omega
  have eT := str_eq v2
  have eN : (v2.toList != v2.toList) = false := by simp
  have X0 : Hid (Bx (w.alloc (.cells #[.string S, .string W, .string P, .string ES, .string E, .bool true, .bool true, .bool true, .bool gr, .slice a n c] 44)) w.heap.size #[.string S, .string W, .string P, .string ES, .string E, .bool true, .bool true, .bool true, .bool gr, .slice a n c]) := Bx.new _ _ _
  have B0 : Hid (Below w.heap.size w (w.alloc (.cells #[.string S, .string W, .string P, .string ES, .string E, .bool true, .bool true, .bool true, .bool gr, .slice a n c] 44))) := (Below.refl _ _).alloc (Nat.le_refl _) _
  have k0_0 : (w.alloc (.cells #[.string S, .string W, .string P, .string ES, .string E, .bool true, .bool true, .bool true, .bool gr, .slice a n c] 44)).cell? ⟨w.heap.size, 0, none⟩ = some (.string S) := X0.out.cell 0
  have k0_1 : (w.alloc (.cells #[.string S, .string W, .string P, .string ES, .string E, .bool true, .bool true, .bool true, .bool gr, .slice a n c] 44)).cell? ⟨w.heap.size, 1, none⟩ = some (.string W) := X0.out.cell 1
  have k0_2 : (w.alloc (.cells #[.string S, .string W, .string P, .string ES, .string E, .bool true, .bool true, .bool true, .bool gr, .slice a n c] 44)).cell? ⟨w.heap.size, 2, none⟩ = some (.string P) := X0.out.cell 2
  have k0_3 : (w.alloc (.cells #[.string S, .string W, .string P, .string ES, .string E, .bool true, .bool true, .bool true, .bool gr, .slice a n c] 44)).cell? ⟨w.heap.size, 3, none⟩ = some (.string ES) := X0.out.cell 3
  have k0_4 : (w.alloc (.cells #[.string S, .string W, .string P, .string ES, .string E, .bool true, .bool true, .bool true, .bool gr, .slice a n c] 44)).cell? ⟨w.heap.size, 4, none⟩ = some (.string E) := X0.out.cell 4
  have k0_5 : (w.alloc (.cells #[.string S, .string W, .string P, .string ES, .string E, .bool true, .bool true, .bool true, .bool gr, .slice a n c] 44)).cell? ⟨w.heap.size, 5, none⟩ = some (.bool true) := X0.out.cell 5
  have k0_6 : (w.alloc (.cells #[.string S, .string W, .string P, .string ES, .string E, .bool true, .bool true, .bool true, .bool gr, .slice a n c] 44)).cell? ⟨w.heap.size, 6, none⟩ = some (.bool true) := X0.out.cell 6
  have k0_7 : (w.alloc (.cells #[.string S, .string W, .string P, .string ES, .string E, .bool true, .bool true, .bool true, .bool gr, .slice a n c] 44)).cell? ⟨w.heap.size, 7, none⟩ = some (.bool true) := X0.out.cell 7
  have k0_8 : (w.alloc (.cells #[.string S, .string W, .string P, .string ES, .string E, .bool true, .bool true, .bool true, .bool gr, .slice a n c] 44)).cell? ⟨w.heap.size, 8, none⟩ = some (.bool gr) := X0.out.cell 8
  have k0_9 : (w.alloc (.cells #[.string S, .string W, .string P, .string ES, .string E, .bool true, .bool true, .bool true, .bool gr, .slice a n c] 44)).cell? ⟨w.heap.size, 9, none⟩ = some (.slice a n c) := X0.out.cell 9
  go_enter Tryd.func5, Tryd.ntmps5
  go_wp2_with fail
  refine (SG1 _).mono ?_
  rintro o wx ⟨rfl, rfl⟩
  go_wp2_with fail
  refine (SG2 _).mono ?_
  rintro o wx ⟨rfl, rfl⟩
  go_wp2_with fail
  refine (DW _).mono ?_
  rintro o wx ⟨rfl, rfl⟩
  go_wp2_with fail
  refine (DP _).mono ?_
  rintro o wx ⟨rfl, rfl⟩
  go_wp2_with fail
  refine (DE _).mono ?_
  rintro o wx ⟨rfl, rfl⟩
  go_wp2
  have HWK : Hid (∀ V, Calls Tryd.prog 14 #[] V fun e w' => e = .returned (.bool true) ∧ Below V.heap.size V w') := WK
  clear WK SG1 SG2 DW DP DE
  go_region_held3 (fun w' => w'.cell? ⟨w.heap.size, 0, none⟩ = some (.string S) ∧ w'.cell? ⟨w.heap.size, 1, none⟩ = some (.string W) ∧ w'.cell? ⟨w.heap.size, 2, none⟩ = some (.string P) ∧ w'.cell? ⟨w.heap.size, 3, none⟩ = some (.string ES) ∧ w'.cell? ⟨w.heap.size, 4, none⟩ = some (.string E) ∧ w'.cell? ⟨w.heap.size, 5, none⟩ = some (.bool true) ∧ w'.cell? ⟨w.heap.size, 6, none⟩ = some (.bool true) ∧ w'.cell? ⟨w.heap.size, 7, none⟩ = some (.bool true) ∧ w'.cell? ⟨w.heap.size, 8, none⟩ = some (.bool gr) ∧ w'.cell? ⟨w.heap.size, 9, none⟩ = some (.slice a n c)) (first | exact ⟨k2_0, k2_1, k2_2, k2_3, k2_4, k2_5, k2_6, k2_7, k2_8, k2_9⟩ | exact ⟨k1_0, k1_1, k1_2, k1_3, k1_4, k1_5, k1_6, k1_7, k1_8, k1_9⟩ | exact ⟨k0_0, k0_1, k0_2, k0_3, k0_4, k0_5, k0_6, k0_7, k0_8, k0_9⟩)
    (first
      | (go_at_call_of 19 (Value.slice none 0 0); refine (TX1 _ B0.out.drew).mono ?_; rintro o w1 ⟨rfl, b1⟩; have X1 : Hid (Bx w1 w.heap.size #[.string S, .string W, .string P, .string ES, .string E, .bool true, .bool true, .bool true, .bool gr, .slice a n c]) := X0.out.drew.step b1; have B1 : Hid (Below w.heap.size w w1) := (B0.out.drew).trans (b1.mono (B0.out.drew).size); clear b1; have k1_0 : w1.cell? ⟨w.heap.size, 0, none⟩ = some (.string S) := X1.out.cell 0; have k1_1 : w1.cell? ⟨w.heap.size, 1, none⟩ = some (.string W) := X1.out.cell 1; have k1_2 : w1.cell? ⟨w.heap.size, 2, none⟩ = some (.string P) := X1.out.cell 2; have k1_3 : w1.cell? ⟨w.heap.size, 3, none⟩ = some (.string ES) := X1.out.cell 3; have k1_4 : w1.cell? ⟨w.heap.size, 4, none⟩ = some (.string E) := X1.out.cell 4; have k1_5 : w1.cell? ⟨w.heap.size, 5, none⟩ = some (.bool true) := X1.out.cell 5; have k1_6 : w1.cell? ⟨w.heap.size, 6, none⟩ = some (.bool true) := X1.out.cell 6; have k1_7 : w1.cell? ⟨w.heap.size, 7, none⟩ = some (.bool true) := X1.out.cell 7; have k1_8 : w1.cell? ⟨w.heap.size, 8, none⟩ = some (.bool gr) := X1.out.cell 8; have k1_9 : w1.cell? ⟨w.heap.size, 9, none⟩ = some (.slice a n c) := X1.out.cell 9)
      | (go_at_call_of 19 (Value.slice a n c); refine (TX2 _ B1.out).mono ?_; rintro o w2 ⟨rfl, b2⟩; have X2 : Hid (Bx w2 w.heap.size #[.string S, .string W, .string P, .string ES, .string E, .bool true, .bool true, .bool true, .bool gr, .slice a n c]) := X1.out.step b2; have B2 : Hid (Below w.heap.size w w2) := (B1.out).trans (b2.mono (B1.out).size); clear b2; have k2_0 : w2.cell? ⟨w.heap.size, 0, none⟩ = some (.string S) := X2.out.cell 0; have k2_1 : w2.cell? ⟨w.heap.size, 1, none⟩ = some (.string W) := X2.out.cell 1; have k2_2 : w2.cell? ⟨w.heap.size, 2, none⟩ = some (.string P) := X2.out.cell 2; have k2_3 : w2.cell? ⟨w.heap.size, 3, none⟩ = some (.string ES) := X2.out.cell 3; have k2_4 : w2.cell? ⟨w.heap.size, 4, none⟩ = some (.string E) := X2.out.cell 4; have k2_5 : w2.cell? ⟨w.heap.size, 5, none⟩ = some (.bool true) := X2.out.cell 5; have k2_6 : w2.cell? ⟨w.heap.size, 6, none⟩ = some (.bool true) := X2.out.cell 6; have k2_7 : w2.cell? ⟨w.heap.size, 7, none⟩ = some (.bool true) := X2.out.cell 7; have k2_8 : w2.cell? ⟨w.heap.size, 8, none⟩ = some (.bool gr) := X2.out.cell 8; have k2_9 : w2.cell? ⟨w.heap.size, 9, none⟩ = some (.slice a n c) := X2.out.cell 9))
  all_goals
    clear TX1 TX2
    go_wp2_with fail
    refine (SC1 _).mono ?_
    rintro o w3 ⟨rfl, b3⟩
    have B3 : Hid (Below w.heap.size w w3) := B2.out.trans (b3.mono B2.out.size)
    have X3 : Hid (Bx w3 w.heap.size #[.string S, .string W, .string P, .string ES, .string E, .bool true, .bool true, .bool true, .bool gr, .slice a n c]) := X2.out.step b3
    clear b3
    have Y3 : Hid (Bx (w3.alloc (.cells #[.bool v0, .int .i64 2, .string v2, .int .i64 v3, .bool v4, .int .u64 v5, .int .i64 v6, .bool v7] 26)) w3.heap.size #[.bool v0, .int .i64 2, .string v2, .int .i64 v3, .bool v4, .int .u64 v5, .int .i64 v6, .bool v7]) := Bx.new _ _ _
    go_wp2_with fail
    refine (SC2 _).mono ?_
    rintro o w4 ⟨rfl, b4⟩
    have B4 : Hid (Below w.heap.size w w4) := (B3.out.alloc B3.out.size _).trans (b4.mono (by have := B3.out.size; simp; omega))
    have X4 : Hid (Bx w4 w.heap.size #[.string S, .string W, .string P, .string ES, .string E, .bool true, .bool true, .bool true, .bool gr, .slice a n c]) := (X3.out.alloc _).step b4
    have Y4 : Hid (Bx w4 w3.heap.size #[.bool v0, .int .i64 2, .string v2, .int .i64 v3, .bool v4, .int .u64 v5, .int .i64 v6, .bool v7]) := Y3.out.step b4
    clear b4 Y3
    have l4 := X4.out.lt
    have m4 := Y4.out.lt
    have f0 : w4.cell? ⟨w.heap.size, 0, none⟩ = some (.string S) := X4.out.cell 0
    have f6 : w4.cell? ⟨w.heap.size, 6, none⟩ = some (.bool true) := X4.out.cell 6
    have y0 : w4.cell? ⟨w3.heap.size, 0, none⟩ = some (.bool v0) := Y4.out.cell 0
    have y1 : w4.cell? ⟨w3.heap.size, 1, none⟩ = some (.int .i64 2) := Y4.out.cell 1
    have y2 : w4.cell? ⟨w3.heap.size, 2, none⟩ = some (.string v2) := Y4.out.cell 2
    have y3 : w4.cell? ⟨w3.heap.size, 3, none⟩ = some (.int .i64 v3) := Y4.out.cell 3
    have y4 : w4.cell? ⟨w3.heap.size, 4, none⟩ = some (.bool v4) := Y4.out.cell 4
    have y5 : w4.cell? ⟨w3.heap.size, 5, none⟩ = some (.int .u64 v5) := Y4.out.cell 5
    have y6 : w4.cell? ⟨w3.heap.size, 6, none⟩ = some (.int .i64 v6) := Y4.out.cell 6
    have y7 : w4.cell? ⟨w3.heap.size, 7, none⟩ = some (.bool v7) := Y4.out.cell 7
    go_wp2_with fail
    refine (HWK.out _).mono ?_
    rintro o w5 ⟨rfl, b5⟩
    have B5 : Hid (Below w.heap.size w w5) := (B4.out.alloc B4.out.size _).trans (b5.mono (by have := B4.out.size; simp; omega))
    clear b5
    go_wp2
    go_ret
    exact ⟨rfl, B5.out⟩
end Go.Proofs.YtjgdbphhhplifaaDoor
