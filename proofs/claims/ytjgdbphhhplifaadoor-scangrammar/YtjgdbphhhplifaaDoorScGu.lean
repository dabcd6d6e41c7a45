/-
  The law's text, whole.
-/
import Derived.Test.YtjgdbphhhplifaaDoorScGt
namespace Go.Proofs.YtjgdbphhhplifaaDoor
open Go.RowKit

set_option maxHeartbeats 1000000 in
theorem text_any (hx gr pt he : Bool) (S W P ES E B C D : List UInt8) (ga : Option Addr) (gn gc : Nat) (ao : Option Addr) (n c : Nat) (w : World)
    (zS : S.length ≤ 1) (zES : ES.length ≤ 1) (zB : B.length ≤ 3001) (zC : C.length ≤ 3001) (zD : D.length ≤ 3001)
    (BR0 : ∀ V, Below w.heap.size w V → Calls Tryd.prog 40 #[.string (bl W), .slice ao n c, .int .i64 0] V fun e w' => e = .returned (.string (bl B)) ∧ Below V.heap.size V w')
    (BR1 : ∀ V, Below w.heap.size w V → Calls Tryd.prog 40 #[.string (bl P), .slice ao n c, .int .i64 1] V fun e w' => e = .returned (.string (bl C)) ∧ Below V.heap.size V w')
    (BR2 : ∀ V, Below w.heap.size w V → Calls Tryd.prog 40 #[.string (bl E), .slice ao n c, .int .i64 2] V fun e w' => e = .returned (.string (bl D)) ∧ Below V.heap.size V w') :
    Calls Tryd.prog 19 #[.agg #[.string (bl S), .string (bl W), .string (bl P), .string (bl ES), .string (bl E), .bool pt, .bool hx, .bool he, .bool gr, .slice ga gn gc], .slice ao n c] w fun e w' => e = .returned (.string (bl (gtx hx gr pt he S B C ES D))) ∧ Below w.heap.size w w' := by
  cases hx with
  | false =>
    cases gr with
    | false =>
      cases pt with
      | false =>
        cases he with
        | false =>
          have := text_0000 (bl S) (bl W) (bl P) (bl ES) (bl E) (bl B) (bl (S ++ B)) ga gn gc ao n c w BR0 (bl_append _ _) (by rw [bl_size]; omega) (by rw [bl_size]; omega) (by rw [bl_size]; simp only [List.length_append]; omega)
          have e : gtx false false false false S B C ES D = (S ++ B) := by simp [gtx, pre, mtx, etx]
          rw [e]
          exact this
        | true =>
          have := text_0001 (bl S) (bl W) (bl P) (bl ES) (bl E) (bl B) (bl D) (bl (S ++ B)) (bl ((S ++ B) ++ [101])) (bl (((S ++ B) ++ [101]) ++ ES)) (bl ((((S ++ B) ++ [101]) ++ ES) ++ D)) ga gn gc ao n c w BR0 BR2 (bl_append _ _) (bl_append _ _) (bl_append _ _) (bl_append _ _) (by rw [bl_size]; omega) (by rw [bl_size]; omega) (by rw [bl_size]; omega) (by rw [bl_size]; omega) (by rw [bl_size]; simp only [List.length_append]; omega) (by rw [bl_size]; simp only [List.length_append, List.length_cons, List.length_nil]; omega) (by rw [bl_size]; simp only [List.length_append, List.length_cons, List.length_nil]; omega) (by rw [bl_size]; simp only [List.length_append, List.length_cons, List.length_nil]; omega)
          have e : gtx false false false true S B C ES D = ((((S ++ B) ++ [101]) ++ ES) ++ D) := by simp [gtx, pre, mtx, etx, ltr]
          rw [e]
          exact this
      | true =>
        cases he with
        | false =>
          have := text_0010 (bl S) (bl W) (bl P) (bl ES) (bl E) (bl B) (bl C) (bl (S ++ B)) (bl ((S ++ B) ++ [46])) (bl (((S ++ B) ++ [46]) ++ C)) ga gn gc ao n c w BR0 BR1 (bl_append _ _) (bl_append _ _) (bl_append _ _) (by rw [bl_size]; omega) (by rw [bl_size]; omega) (by rw [bl_size]; omega) (by rw [bl_size]; simp only [List.length_append]; omega) (by rw [bl_size]; simp only [List.length_append, List.length_cons, List.length_nil]; omega) (by rw [bl_size]; simp only [List.length_append, List.length_cons, List.length_nil]; omega)
          have e : gtx false false true false S B C ES D = (((S ++ B) ++ [46]) ++ C) := by simp [gtx, pre, mtx, etx]
          rw [e]
          exact this
        | true =>
          have := text_0011 (bl S) (bl W) (bl P) (bl ES) (bl E) (bl B) (bl C) (bl D) (bl (S ++ B)) (bl ((S ++ B) ++ [46])) (bl (((S ++ B) ++ [46]) ++ C)) (bl ((((S ++ B) ++ [46]) ++ C) ++ [101])) (bl (((((S ++ B) ++ [46]) ++ C) ++ [101]) ++ ES)) (bl ((((((S ++ B) ++ [46]) ++ C) ++ [101]) ++ ES) ++ D)) ga gn gc ao n c w BR0 BR1 BR2 (bl_append _ _) (bl_append _ _) (bl_append _ _) (bl_append _ _) (bl_append _ _) (bl_append _ _) (by rw [bl_size]; omega) (by rw [bl_size]; omega) (by rw [bl_size]; omega) (by rw [bl_size]; omega) (by rw [bl_size]; omega) (by rw [bl_size]; simp only [List.length_append]; omega) (by rw [bl_size]; simp only [List.length_append, List.length_cons, List.length_nil]; omega) (by rw [bl_size]; simp only [List.length_append, List.length_cons, List.length_nil]; omega) (by rw [bl_size]; simp only [List.length_append, List.length_cons, List.length_nil]; omega) (by rw [bl_size]; simp only [List.length_append, List.length_cons, List.length_nil]; omega) (by rw [bl_size]; simp only [List.length_append, List.length_cons, List.length_nil]; omega)
          have e : gtx false false true true S B C ES D = ((((((S ++ B) ++ [46]) ++ C) ++ [101]) ++ ES) ++ D) := by simp [gtx, pre, mtx, etx, ltr]
          rw [e]
          exact this
    | true =>
      cases pt with
      | false =>
        cases he with
        | false =>
          have := text_0100 (bl S) (bl W) (bl P) (bl ES) (bl E) (bl B) (bl (S ++ B)) ga gn gc ao n c w BR0 (bl_append _ _) (by rw [bl_size]; omega) (by rw [bl_size]; omega) (by rw [bl_size]; simp only [List.length_append]; omega)
          have e : gtx false true false false S B C ES D = (S ++ B) := by simp [gtx, pre, mtx, etx]
          rw [e]
          exact this
        | true =>
          have := text_0101 (bl S) (bl W) (bl P) (bl ES) (bl E) (bl B) (bl D) (bl (S ++ B)) (bl ((S ++ B) ++ [69])) (bl (((S ++ B) ++ [69]) ++ ES)) (bl ((((S ++ B) ++ [69]) ++ ES) ++ D)) ga gn gc ao n c w BR0 BR2 (bl_append _ _) (bl_append _ _) (bl_append _ _) (bl_append _ _) (by rw [bl_size]; omega) (by rw [bl_size]; omega) (by rw [bl_size]; omega) (by rw [bl_size]; omega) (by rw [bl_size]; simp only [List.length_append]; omega) (by rw [bl_size]; simp only [List.length_append, List.length_cons, List.length_nil]; omega) (by rw [bl_size]; simp only [List.length_append, List.length_cons, List.length_nil]; omega) (by rw [bl_size]; simp only [List.length_append, List.length_cons, List.length_nil]; omega)
          have e : gtx false true false true S B C ES D = ((((S ++ B) ++ [69]) ++ ES) ++ D) := by simp [gtx, pre, mtx, etx, ltr]
          rw [e]
          exact this
      | true =>
        cases he with
        | false =>
          have := text_0110 (bl S) (bl W) (bl P) (bl ES) (bl E) (bl B) (bl C) (bl (S ++ B)) (bl ((S ++ B) ++ [46])) (bl (((S ++ B) ++ [46]) ++ C)) ga gn gc ao n c w BR0 BR1 (bl_append _ _) (bl_append _ _) (bl_append _ _) (by rw [bl_size]; omega) (by rw [bl_size]; omega) (by rw [bl_size]; omega) (by rw [bl_size]; simp only [List.length_append]; omega) (by rw [bl_size]; simp only [List.length_append, List.length_cons, List.length_nil]; omega) (by rw [bl_size]; simp only [List.length_append, List.length_cons, List.length_nil]; omega)
          have e : gtx false true true false S B C ES D = (((S ++ B) ++ [46]) ++ C) := by simp [gtx, pre, mtx, etx]
          rw [e]
          exact this
        | true =>
          have := text_0111 (bl S) (bl W) (bl P) (bl ES) (bl E) (bl B) (bl C) (bl D) (bl (S ++ B)) (bl ((S ++ B) ++ [46])) (bl (((S ++ B) ++ [46]) ++ C)) (bl ((((S ++ B) ++ [46]) ++ C) ++ [69])) (bl (((((S ++ B) ++ [46]) ++ C) ++ [69]) ++ ES)) (bl ((((((S ++ B) ++ [46]) ++ C) ++ [69]) ++ ES) ++ D)) ga gn gc ao n c w BR0 BR1 BR2 (bl_append _ _) (bl_append _ _) (bl_append _ _) (bl_append _ _) (bl_append _ _) (bl_append _ _) (by rw [bl_size]; omega) (by rw [bl_size]; omega) (by rw [bl_size]; omega) (by rw [bl_size]; omega) (by rw [bl_size]; omega) (by rw [bl_size]; simp only [List.length_append]; omega) (by rw [bl_size]; simp only [List.length_append, List.length_cons, List.length_nil]; omega) (by rw [bl_size]; simp only [List.length_append, List.length_cons, List.length_nil]; omega) (by rw [bl_size]; simp only [List.length_append, List.length_cons, List.length_nil]; omega) (by rw [bl_size]; simp only [List.length_append, List.length_cons, List.length_nil]; omega) (by rw [bl_size]; simp only [List.length_append, List.length_cons, List.length_nil]; omega)
          have e : gtx false true true true S B C ES D = ((((((S ++ B) ++ [46]) ++ C) ++ [69]) ++ ES) ++ D) := by simp [gtx, pre, mtx, etx, ltr]
          rw [e]
          exact this
  | true =>
    cases gr with
    | false =>
      cases pt with
      | false =>
        cases he with
        | false =>
          have := text_1000 (bl S) (bl W) (bl P) (bl ES) (bl E) (bl B) (bl (S ++ [48, 120])) (bl ((S ++ [48, 120]) ++ B)) ga gn gc ao n c w BR0 (bl_append _ _) (bl_append _ _) (by rw [bl_size]; omega) (by rw [bl_size]; omega) (by rw [bl_size]; simp only [List.length_append, List.length_cons, List.length_nil]; omega) (by rw [bl_size]; simp only [List.length_append, List.length_cons, List.length_nil]; omega)
          have e : gtx true false false false S B C ES D = ((S ++ [48, 120]) ++ B) := by simp [gtx, pre, mtx, etx]
          rw [e]
          exact this
        | true =>
          have := text_1001 (bl S) (bl W) (bl P) (bl ES) (bl E) (bl B) (bl D) (bl (S ++ [48, 120])) (bl ((S ++ [48, 120]) ++ B)) (bl (((S ++ [48, 120]) ++ B) ++ [112])) (bl ((((S ++ [48, 120]) ++ B) ++ [112]) ++ ES)) (bl (((((S ++ [48, 120]) ++ B) ++ [112]) ++ ES) ++ D)) ga gn gc ao n c w BR0 BR2 (bl_append _ _) (bl_append _ _) (bl_append _ _) (bl_append _ _) (bl_append _ _) (by rw [bl_size]; omega) (by rw [bl_size]; omega) (by rw [bl_size]; omega) (by rw [bl_size]; omega) (by rw [bl_size]; simp only [List.length_append, List.length_cons, List.length_nil]; omega) (by rw [bl_size]; simp only [List.length_append, List.length_cons, List.length_nil]; omega) (by rw [bl_size]; simp only [List.length_append, List.length_cons, List.length_nil]; omega) (by rw [bl_size]; simp only [List.length_append, List.length_cons, List.length_nil]; omega) (by rw [bl_size]; simp only [List.length_append, List.length_cons, List.length_nil]; omega)
          have e : gtx true false false true S B C ES D = (((((S ++ [48, 120]) ++ B) ++ [112]) ++ ES) ++ D) := by simp [gtx, pre, mtx, etx, ltr]
          rw [e]
          exact this
      | true =>
        cases he with
        | false =>
          have := text_1010 (bl S) (bl W) (bl P) (bl ES) (bl E) (bl B) (bl C) (bl (S ++ [48, 120])) (bl ((S ++ [48, 120]) ++ B)) (bl (((S ++ [48, 120]) ++ B) ++ [46])) (bl ((((S ++ [48, 120]) ++ B) ++ [46]) ++ C)) ga gn gc ao n c w BR0 BR1 (bl_append _ _) (bl_append _ _) (bl_append _ _) (bl_append _ _) (by rw [bl_size]; omega) (by rw [bl_size]; omega) (by rw [bl_size]; omega) (by rw [bl_size]; simp only [List.length_append, List.length_cons, List.length_nil]; omega) (by rw [bl_size]; simp only [List.length_append, List.length_cons, List.length_nil]; omega) (by rw [bl_size]; simp only [List.length_append, List.length_cons, List.length_nil]; omega) (by rw [bl_size]; simp only [List.length_append, List.length_cons, List.length_nil]; omega)
          have e : gtx true false true false S B C ES D = ((((S ++ [48, 120]) ++ B) ++ [46]) ++ C) := by simp [gtx, pre, mtx, etx]
          rw [e]
          exact this
        | true =>
          have := text_1011 (bl S) (bl W) (bl P) (bl ES) (bl E) (bl B) (bl C) (bl D) (bl (S ++ [48, 120])) (bl ((S ++ [48, 120]) ++ B)) (bl (((S ++ [48, 120]) ++ B) ++ [46])) (bl ((((S ++ [48, 120]) ++ B) ++ [46]) ++ C)) (bl (((((S ++ [48, 120]) ++ B) ++ [46]) ++ C) ++ [112])) (bl ((((((S ++ [48, 120]) ++ B) ++ [46]) ++ C) ++ [112]) ++ ES)) (bl (((((((S ++ [48, 120]) ++ B) ++ [46]) ++ C) ++ [112]) ++ ES) ++ D)) ga gn gc ao n c w BR0 BR1 BR2 (bl_append _ _) (bl_append _ _) (bl_append _ _) (bl_append _ _) (bl_append _ _) (bl_append _ _) (bl_append _ _) (by rw [bl_size]; omega) (by rw [bl_size]; omega) (by rw [bl_size]; omega) (by rw [bl_size]; omega) (by rw [bl_size]; omega) (by rw [bl_size]; simp only [List.length_append, List.length_cons, List.length_nil]; omega) (by rw [bl_size]; simp only [List.length_append, List.length_cons, List.length_nil]; omega) (by rw [bl_size]; simp only [List.length_append, List.length_cons, List.length_nil]; omega) (by rw [bl_size]; simp only [List.length_append, List.length_cons, List.length_nil]; omega) (by rw [bl_size]; simp only [List.length_append, List.length_cons, List.length_nil]; omega) (by rw [bl_size]; simp only [List.length_append, List.length_cons, List.length_nil]; omega) (by rw [bl_size]; simp only [List.length_append, List.length_cons, List.length_nil]; omega)
          have e : gtx true false true true S B C ES D = (((((((S ++ [48, 120]) ++ B) ++ [46]) ++ C) ++ [112]) ++ ES) ++ D) := by simp [gtx, pre, mtx, etx, ltr]
          rw [e]
          exact this
    | true =>
      cases pt with
      | false =>
        cases he with
        | false =>
          have := text_1100 (bl S) (bl W) (bl P) (bl ES) (bl E) (bl B) (bl (S ++ [48, 120])) (bl (S ++ [48, 88])) (bl ((S ++ [48, 88]) ++ B)) ga gn gc ao n c w BR0 (bl_append _ _) (bl_append _ _) (bl_append _ _) (by rw [bl_size]; omega) (by rw [bl_size]; omega) (by rw [bl_size]; simp only [List.length_append, List.length_cons, List.length_nil]; omega) (by rw [bl_size]; simp only [List.length_append, List.length_cons, List.length_nil]; omega) (by rw [bl_size]; simp only [List.length_append, List.length_cons, List.length_nil]; omega)
          have e : gtx true true false false S B C ES D = ((S ++ [48, 88]) ++ B) := by simp [gtx, pre, mtx, etx]
          rw [e]
          exact this
        | true =>
          have := text_1101 (bl S) (bl W) (bl P) (bl ES) (bl E) (bl B) (bl D) (bl (S ++ [48, 120])) (bl (S ++ [48, 88])) (bl ((S ++ [48, 88]) ++ B)) (bl (((S ++ [48, 88]) ++ B) ++ [80])) (bl ((((S ++ [48, 88]) ++ B) ++ [80]) ++ ES)) (bl (((((S ++ [48, 88]) ++ B) ++ [80]) ++ ES) ++ D)) ga gn gc ao n c w BR0 BR2 (bl_append _ _) (bl_append _ _) (bl_append _ _) (bl_append _ _) (bl_append _ _) (bl_append _ _) (by rw [bl_size]; omega) (by rw [bl_size]; omega) (by rw [bl_size]; omega) (by rw [bl_size]; omega) (by rw [bl_size]; simp only [List.length_append, List.length_cons, List.length_nil]; omega) (by rw [bl_size]; simp only [List.length_append, List.length_cons, List.length_nil]; omega) (by rw [bl_size]; simp only [List.length_append, List.length_cons, List.length_nil]; omega) (by rw [bl_size]; simp only [List.length_append, List.length_cons, List.length_nil]; omega) (by rw [bl_size]; simp only [List.length_append, List.length_cons, List.length_nil]; omega) (by rw [bl_size]; simp only [List.length_append, List.length_cons, List.length_nil]; omega)
          have e : gtx true true false true S B C ES D = (((((S ++ [48, 88]) ++ B) ++ [80]) ++ ES) ++ D) := by simp [gtx, pre, mtx, etx, ltr]
          rw [e]
          exact this
      | true =>
        cases he with
        | false =>
          have := text_1110 (bl S) (bl W) (bl P) (bl ES) (bl E) (bl B) (bl C) (bl (S ++ [48, 120])) (bl (S ++ [48, 88])) (bl ((S ++ [48, 88]) ++ B)) (bl (((S ++ [48, 88]) ++ B) ++ [46])) (bl ((((S ++ [48, 88]) ++ B) ++ [46]) ++ C)) ga gn gc ao n c w BR0 BR1 (bl_append _ _) (bl_append _ _) (bl_append _ _) (bl_append _ _) (bl_append _ _) (by rw [bl_size]; omega) (by rw [bl_size]; omega) (by rw [bl_size]; omega) (by rw [bl_size]; simp only [List.length_append, List.length_cons, List.length_nil]; omega) (by rw [bl_size]; simp only [List.length_append, List.length_cons, List.length_nil]; omega) (by rw [bl_size]; simp only [List.length_append, List.length_cons, List.length_nil]; omega) (by rw [bl_size]; simp only [List.length_append, List.length_cons, List.length_nil]; omega) (by rw [bl_size]; simp only [List.length_append, List.length_cons, List.length_nil]; omega)
          have e : gtx true true true false S B C ES D = ((((S ++ [48, 88]) ++ B) ++ [46]) ++ C) := by simp [gtx, pre, mtx, etx]
          rw [e]
          exact this
        | true =>
          have := text_1111 (bl S) (bl W) (bl P) (bl ES) (bl E) (bl B) (bl C) (bl D) (bl (S ++ [48, 120])) (bl (S ++ [48, 88])) (bl ((S ++ [48, 88]) ++ B)) (bl (((S ++ [48, 88]) ++ B) ++ [46])) (bl ((((S ++ [48, 88]) ++ B) ++ [46]) ++ C)) (bl (((((S ++ [48, 88]) ++ B) ++ [46]) ++ C) ++ [80])) (bl ((((((S ++ [48, 88]) ++ B) ++ [46]) ++ C) ++ [80]) ++ ES)) (bl (((((((S ++ [48, 88]) ++ B) ++ [46]) ++ C) ++ [80]) ++ ES) ++ D)) ga gn gc ao n c w BR0 BR1 BR2 (bl_append _ _) (bl_append _ _) (bl_append _ _) (bl_append _ _) (bl_append _ _) (bl_append _ _) (bl_append _ _) (bl_append _ _) (by rw [bl_size]; omega) (by rw [bl_size]; omega) (by rw [bl_size]; omega) (by rw [bl_size]; omega) (by rw [bl_size]; omega) (by rw [bl_size]; simp only [List.length_append, List.length_cons, List.length_nil]; omega) (by rw [bl_size]; simp only [List.length_append, List.length_cons, List.length_nil]; omega) (by rw [bl_size]; simp only [List.length_append, List.length_cons, List.length_nil]; omega) (by rw [bl_size]; simp only [List.length_append, List.length_cons, List.length_nil]; omega) (by rw [bl_size]; simp only [List.length_append, List.length_cons, List.length_nil]; omega) (by rw [bl_size]; simp only [List.length_append, List.length_cons, List.length_nil]; omega) (by rw [bl_size]; simp only [List.length_append, List.length_cons, List.length_nil]; omega) (by rw [bl_size]; simp only [List.length_append, List.length_cons, List.length_nil]; omega)
          have e : gtx true true true true S B C ES D = (((((((S ++ [48, 88]) ++ B) ++ [46]) ++ C) ++ [80]) ++ ES) ++ D) := by simp [gtx, pre, mtx, etx, ltr]
          rw [e]
          exact this
end Go.Proofs.YtjgdbphhhplifaaDoor
