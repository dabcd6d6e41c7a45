/-
  The law ScanGrammar, case by case.
-/
import Derived.Test.YtjgdbphhhplifaaDoorScGu
import Derived.Test.YtjgdbphhhplifaaDoorScO
namespace Go.Proofs.YtjgdbphhhplifaaDoor
open Go.RowKit

set_option maxRecDepth 100000 in
set_option maxHeartbeats 4000000 in
theorem gram_e0 (S W P ES E : ByteArray) (pt hx he gr : Bool) (a : Option Addr) (n c : Nat) (w : World)
    (SG1 : (∀ V, Calls Tryd.prog 17 #[.string S] V fun e w' => e = .returned (.bool false) ∧ w' = V)) :
    Calls Tryd.prog 5 #[.agg #[.string S, .string W, .string P, .string ES, .string E, .bool pt, .bool hx, .bool he, .bool gr, .slice a n c]] w fun o w' => o = .returned (.bool true) ∧ Below w.heap.size w w' := by
  have WK := fun V => works_any V
  go_enter Tryd.func5, Tryd.ntmps5
  go_wp2_with fail
  refine (SG1 _).mono ?_
  rintro o wx ⟨rfl, rfl⟩
  go_wp2_with fail
  refine (WK _).mono ?_
  rintro o w1 ⟨rfl, b1⟩
  go_wp2
  go_ret
  exact ⟨rfl, ((Below.refl _ _).alloc (Nat.le_refl _) _).trans (b1.mono (by simp))⟩
set_option maxRecDepth 100000 in
set_option maxHeartbeats 4000000 in
theorem gram_e1 (S W P ES E : ByteArray) (pt hx he gr : Bool) (a : Option Addr) (n c : Nat) (w : World)
    (SG1 : (∀ V, Calls Tryd.prog 17 #[.string S] V fun e w' => e = .returned (.bool true) ∧ w' = V))
    (SG2 : (∀ V, Calls Tryd.prog 17 #[.string ES] V fun e w' => e = .returned (.bool false) ∧ w' = V)) :
    Calls Tryd.prog 5 #[.agg #[.string S, .string W, .string P, .string ES, .string E, .bool pt, .bool hx, .bool he, .bool gr, .slice a n c]] w fun o w' => o = .returned (.bool true) ∧ Below w.heap.size w w' := by
  have WK := fun V => works_any V
  go_enter Tryd.func5, Tryd.ntmps5
  go_wp2_with fail
  refine (SG1 _).mono ?_
  rintro o wx ⟨rfl, rfl⟩
  go_wp2_with fail
  refine (SG2 _).mono ?_
  rintro o wx ⟨rfl, rfl⟩
  go_wp2_with fail
  refine (WK _).mono ?_
  rintro o w1 ⟨rfl, b1⟩
  go_wp2
  go_ret
  exact ⟨rfl, ((Below.refl _ _).alloc (Nat.le_refl _) _).trans (b1.mono (by simp))⟩
set_option maxRecDepth 100000 in
set_option maxHeartbeats 4000000 in
theorem gram_e2 (S W P ES E : ByteArray) (pt hx he gr : Bool) (a : Option Addr) (n c : Nat) (w : World)
    (SG1 : (∀ V, Calls Tryd.prog 17 #[.string S] V fun e w' => e = .returned (.bool true) ∧ w' = V))
    (SG2 : (∀ V, Calls Tryd.prog 17 #[.string ES] V fun e w' => e = .returned (.bool true) ∧ w' = V))
    (DW : (∀ V, Calls Tryd.prog 18 #[.string W, .bool hx] V fun e w' => e = .returned (.bool false) ∧ w' = V)) :
    Calls Tryd.prog 5 #[.agg #[.string S, .string W, .string P, .string ES, .string E, .bool pt, .bool hx, .bool he, .bool gr, .slice a n c]] w fun o w' => o = .returned (.bool true) ∧ Below w.heap.size w w' := by
  have WK := fun V => works_any V
  go_enter Tryd.func5, Tryd.ntmps5
  go_wp2_with fail
  refine (SG1 _).mono ?_
  rintro o wx ⟨rfl, rfl⟩
  go_wp2_with fail
  refine (SG2 _).mono ?_
  rintro o wx ⟨rfl, rfl⟩
  go_wp2_with fail
  refine (DW _).mono ?_
  rintro o wx ⟨rfl, rfl⟩
  go_wp2_with fail
  refine (WK _).mono ?_
  rintro o w1 ⟨rfl, b1⟩
  go_wp2
  go_ret
  exact ⟨rfl, ((Below.refl _ _).alloc (Nat.le_refl _) _).trans (b1.mono (by simp))⟩
set_option maxRecDepth 100000 in
set_option maxHeartbeats 4000000 in
theorem gram_e3 (S W P ES E : ByteArray) (pt hx he gr : Bool) (a : Option Addr) (n c : Nat) (w : World)
    (SG1 : (∀ V, Calls Tryd.prog 17 #[.string S] V fun e w' => e = .returned (.bool true) ∧ w' = V))
    (SG2 : (∀ V, Calls Tryd.prog 17 #[.string ES] V fun e w' => e = .returned (.bool true) ∧ w' = V))
    (DW : (∀ V, Calls Tryd.prog 18 #[.string W, .bool hx] V fun e w' => e = .returned (.bool true) ∧ w' = V))
    (DP : (∀ V, Calls Tryd.prog 18 #[.string P, .bool hx] V fun e w' => e = .returned (.bool false) ∧ w' = V)) :
    Calls Tryd.prog 5 #[.agg #[.string S, .string W, .string P, .string ES, .string E, .bool pt, .bool hx, .bool he, .bool gr, .slice a n c]] w fun o w' => o = .returned (.bool true) ∧ Below w.heap.size w w' := by
  have WK := fun V => works_any V
  go_enter Tryd.func5, Tryd.ntmps5
  go_wp2_with fail
  refine (SG1 _).mono ?_
  rintro o wx ⟨rfl, rfl⟩
  go_wp2_with fail
  refine (SG2 _).mono ?_
  rintro o wx ⟨rfl, rfl⟩
  go_wp2_with fail
  refine (DW _).mono ?_
  rintro o wx ⟨rfl, rfl⟩
  go_wp2_with fail
  refine (DP _).mono ?_
  rintro o wx ⟨rfl, rfl⟩
  go_wp2_with fail
  refine (WK _).mono ?_
  rintro o w1 ⟨rfl, b1⟩
  go_wp2
  go_ret
  exact ⟨rfl, ((Below.refl _ _).alloc (Nat.le_refl _) _).trans (b1.mono (by simp))⟩
set_option maxRecDepth 100000 in
set_option maxHeartbeats 4000000 in
theorem gram_e4 (S W P ES E : ByteArray) (pt hx he gr : Bool) (a : Option Addr) (n c : Nat) (w : World)
    (SG1 : (∀ V, Calls Tryd.prog 17 #[.string S] V fun e w' => e = .returned (.bool true) ∧ w' = V))
    (SG2 : (∀ V, Calls Tryd.prog 17 #[.string ES] V fun e w' => e = .returned (.bool true) ∧ w' = V))
    (DW : (∀ V, Calls Tryd.prog 18 #[.string W, .bool hx] V fun e w' => e = .returned (.bool true) ∧ w' = V))
    (DP : (∀ V, Calls Tryd.prog 18 #[.string P, .bool hx] V fun e w' => e = .returned (.bool true) ∧ w' = V))
    (DE : (∀ V, Calls Tryd.prog 18 #[.string E, .bool false] V fun e w' => e = .returned (.bool false) ∧ w' = V)) :
    Calls Tryd.prog 5 #[.agg #[.string S, .string W, .string P, .string ES, .string E, .bool pt, .bool hx, .bool he, .bool gr, .slice a n c]] w fun o w' => o = .returned (.bool true) ∧ Below w.heap.size w w' := by
  have WK := fun V => works_any V
  go_enter Tryd.func5, Tryd.ntmps5
  go_wp2_with fail
  refine (SG1 _).mono ?_
  rintro o wx ⟨rfl, rfl⟩
  go_wp2_with fail
  refine (SG2 _).mono ?_
  rintro o wx ⟨rfl, rfl⟩
  go_wp2_with fail
  refine (DW _).mono ?_
  rintro o wx ⟨rfl, rfl⟩
  go_wp2_with fail
  refine (DP _).mono ?_
  rintro o wx ⟨rfl, rfl⟩
  go_wp2_with fail
  refine (DE _).mono ?_
  rintro o wx ⟨rfl, rfl⟩
  go_wp2_with fail
  refine (WK _).mono ?_
  rintro o w1 ⟨rfl, b1⟩
  go_wp2
  go_ret
  exact ⟨rfl, ((Below.refl _ _).alloc (Nat.le_refl _) _).trans (b1.mono (by simp))⟩
set_option maxRecDepth 100000 in
set_option maxHeartbeats 4000000 in
theorem gram_e5 (S W P ES E : ByteArray) (hx he gr : Bool) (a : Option Addr) (n c : Nat) (w : World)
    (SG1 : (∀ V, Calls Tryd.prog 17 #[.string S] V fun e w' => e = .returned (.bool true) ∧ w' = V))
    (SG2 : (∀ V, Calls Tryd.prog 17 #[.string ES] V fun e w' => e = .returned (.bool true) ∧ w' = V))
    (DW : (∀ V, Calls Tryd.prog 18 #[.string W, .bool hx] V fun e w' => e = .returned (.bool true) ∧ w' = V))
    (DP : (∀ V, Calls Tryd.prog 18 #[.string P, .bool hx] V fun e w' => e = .returned (.bool true) ∧ w' = V))
    (DE : (∀ V, Calls Tryd.prog 18 #[.string E, .bool false] V fun e w' => e = .returned (.bool true) ∧ w' = V))
    (hP : P.toList.isEmpty = false) :
    Calls Tryd.prog 5 #[.agg #[.string S, .string W, .string P, .string ES, .string E, .bool false, .bool hx, .bool he, .bool gr, .slice a n c]] w fun o w' => o = .returned (.bool true) ∧ Below w.heap.size w w' := by
  have WK := fun V => works_any V
  go_enter Tryd.func5, Tryd.ntmps5
  go_wp2_with fail
  refine (SG1 _).mono ?_
  rintro o wx ⟨rfl, rfl⟩
  go_wp2_with fail
  refine (SG2 _).mono ?_
  rintro o wx ⟨rfl, rfl⟩
  go_wp2_with fail
  refine (DW _).mono ?_
  rintro o wx ⟨rfl, rfl⟩
  go_wp2_with fail
  refine (DP _).mono ?_
  rintro o wx ⟨rfl, rfl⟩
  go_wp2_with fail
  refine (DE _).mono ?_
  rintro o wx ⟨rfl, rfl⟩
  go_wp2_with fail
  refine (WK _).mono ?_
  rintro o w1 ⟨rfl, b1⟩
  go_wp2
  go_ret
  exact ⟨rfl, ((Below.refl _ _).alloc (Nat.le_refl _) _).trans (b1.mono (by simp))⟩
set_option maxRecDepth 100000 in
set_option maxHeartbeats 4000000 in
theorem gram_e6 (S W P ES E : ByteArray) (hx he gr : Bool) (a : Option Addr) (n c : Nat) (w : World)
    (SG1 : (∀ V, Calls Tryd.prog 17 #[.string S] V fun e w' => e = .returned (.bool true) ∧ w' = V))
    (SG2 : (∀ V, Calls Tryd.prog 17 #[.string ES] V fun e w' => e = .returned (.bool true) ∧ w' = V))
    (DW : (∀ V, Calls Tryd.prog 18 #[.string W, .bool hx] V fun e w' => e = .returned (.bool true) ∧ w' = V))
    (DP : (∀ V, Calls Tryd.prog 18 #[.string P, .bool hx] V fun e w' => e = .returned (.bool true) ∧ w' = V))
    (DE : (∀ V, Calls Tryd.prog 18 #[.string E, .bool false] V fun e w' => e = .returned (.bool true) ∧ w' = V))
    (zW : W.size ≤ 140737488355328)
    (zP : P.size ≤ 140737488355328)
    (zE : E.size ≤ 140737488355328)
    (hl : (3000 : Int) < (W.size : Int) + (P.size : Int) + (E.size : Int)) :
    Calls Tryd.prog 5 #[.agg #[.string S, .string W, .string P, .string ES, .string E, .bool true, .bool hx, .bool he, .bool gr, .slice a n c]] w fun o w' => o = .returned (.bool true) ∧ Below w.heap.size w w' := by
  have WK := fun V => works_any V
  go_enter Tryd.func5, Tryd.ntmps5
  go_wp2_with fail
  refine (SG1 _).mono ?_
  rintro o wx ⟨rfl, rfl⟩
  go_wp2_with fail
  refine (SG2 _).mono ?_
  rintro o wx ⟨rfl, rfl⟩
  go_wp2_with fail
  refine (DW _).mono ?_
  rintro o wx ⟨rfl, rfl⟩
  go_wp2_with fail
  refine (DP _).mono ?_
  rintro o wx ⟨rfl, rfl⟩
  go_wp2_with fail
  refine (DE _).mono ?_
  rintro o wx ⟨rfl, rfl⟩
  go_wp2_with fail
  refine (WK _).mono ?_
  rintro o w1 ⟨rfl, b1⟩
  go_wp2
  go_ret
  exact ⟨rfl, ((Below.refl _ _).alloc (Nat.le_refl _) _).trans (b1.mono (by simp))⟩
set_option maxRecDepth 100000 in
set_option maxHeartbeats 4000000 in
theorem gram_e7 (S W P ES E : ByteArray) (hx he gr : Bool) (a : Option Addr) (n c : Nat) (w : World)
    (SG1 : (∀ V, Calls Tryd.prog 17 #[.string S] V fun e w' => e = .returned (.bool true) ∧ w' = V))
    (SG2 : (∀ V, Calls Tryd.prog 17 #[.string ES] V fun e w' => e = .returned (.bool true) ∧ w' = V))
    (DW : (∀ V, Calls Tryd.prog 18 #[.string W, .bool hx] V fun e w' => e = .returned (.bool true) ∧ w' = V))
    (DP : (∀ V, Calls Tryd.prog 18 #[.string P, .bool hx] V fun e w' => e = .returned (.bool true) ∧ w' = V))
    (DE : (∀ V, Calls Tryd.prog 18 #[.string E, .bool false] V fun e w' => e = .returned (.bool true) ∧ w' = V))
    (zW : W.size ≤ 140737488355328)
    (zP : P.size ≤ 140737488355328)
    (zE : E.size ≤ 140737488355328)
    (hP : P.toList.isEmpty = true)
    (hl : (3000 : Int) < (W.size : Int) + (P.size : Int) + (E.size : Int)) :
    Calls Tryd.prog 5 #[.agg #[.string S, .string W, .string P, .string ES, .string E, .bool false, .bool hx, .bool he, .bool gr, .slice a n c]] w fun o w' => o = .returned (.bool true) ∧ Below w.heap.size w w' := by
  have WK := fun V => works_any V
  go_enter Tryd.func5, Tryd.ntmps5
  go_wp2_with fail
  refine (SG1 _).mono ?_
  rintro o wx ⟨rfl, rfl⟩
  go_wp2_with fail
  refine (SG2 _).mono ?_
  rintro o wx ⟨rfl, rfl⟩
  go_wp2_with fail
  refine (DW _).mono ?_
  rintro o wx ⟨rfl, rfl⟩
  go_wp2_with fail
  refine (DP _).mono ?_
  rintro o wx ⟨rfl, rfl⟩
  go_wp2_with fail
  refine (DE _).mono ?_
  rintro o wx ⟨rfl, rfl⟩
  go_wp2_with fail
  refine (WK _).mono ?_
  rintro o w1 ⟨rfl, b1⟩
  go_wp2
  go_ret
  exact ⟨rfl, ((Below.refl _ _).alloc (Nat.le_refl _) _).trans (b1.mono (by simp))⟩
end Go.Proofs.YtjgdbphhhplifaaDoor
