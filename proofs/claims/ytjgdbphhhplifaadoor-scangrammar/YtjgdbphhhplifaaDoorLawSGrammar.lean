/-
  The law ScanGrammar: the walk.
-/
import Derived.Test.YtjgdbphhhplifaaDoorLawSGa
import Derived.Test.YtjgdbphhhplifaaDoorLawSGb
import Derived.Test.YtjgdbphhhplifaaDoorLawSGe
namespace Go.Proofs.YtjgdbphhhplifaaDoor
open Go.RowKit

theorem ing_isSome {hx he : Bool} {W P E : List UInt8} (h : W ++ P = []) : ing hx he W P E = false := by unfold ing; rw [h]; rfl
theorem sgL_len {l : List UInt8} (h : sgL l) : l.length ≤ 1 := by
  rcases h with rfl | rfl | rfl <;> simp
theorem emp_false {l : List UInt8} (h : l ≠ []) : (bl l).toList.isEmpty = false := empty_false (by rw [bl_size]; exact List.length_pos_iff.2 h)
theorem emp_true {l : List UInt8} (h : l = []) : (bl l).toList.isEmpty = true := by rw [bl_empty, h]; rfl
/-- The main case: everything is as the rules ask. -/
theorem gram_main (S W P ES E : List UInt8) (pt hx he gr : Bool) {a : Option Addr} {n c b o : Nat} {f : Nat → Int} (hn : n ≤ 140737488355328) (w : World) (SL : SlI w a n b o f)
    (hS : sgL S) (hES : sgL ES) (hW : ∀ c ∈ W, isD (bs hx) c = true) (hP : ∀ c ∈ P, isD (bs hx) c = true) (hE : ∀ c ∈ E, isD 10 c = true) (hpt : pt = false → P = []) (hl : W.length + P.length + E.length ≤ 3000)
    (SG1 : ∀ V, Calls Tryd.prog 17 #[.string (bl S)] V fun e w' => e = .returned (.bool true) ∧ w' = V)
    (SG2 : ∀ V, Calls Tryd.prog 17 #[.string (bl ES)] V fun e w' => e = .returned (.bool true) ∧ w' = V)
    (DW : ∀ V, Calls Tryd.prog 18 #[.string (bl W), .bool hx] V fun e w' => e = .returned (.bool true) ∧ w' = V)
    (DP : ∀ V, Calls Tryd.prog 18 #[.string (bl P), .bool hx] V fun e w' => e = .returned (.bool true) ∧ w' = V)
    (DE : ∀ V, Calls Tryd.prog 18 #[.string (bl E), .bool false] V fun e w' => e = .returned (.bool true) ∧ w' = V) :
    Calls Tryd.prog 5 #[.agg #[.string (bl S), .string (bl W), .string (bl P), .string (bl ES), .string (bl E), .bool pt, .bool hx, .bool he, .bool gr, .slice a n c]] w fun o w' => o = .returned (.bool true) ∧ Below w.heap.size w w' := by
  have s1 := sgL_len hS
  have s2 := sgL_len hES
  have BN : ∀ (X : List UInt8), X.length ≤ 3000 → ∀ k : Nat, ∀ V, Calls Tryd.prog 40 #[.string (bl X), .slice none 0 0, .int .i64 (k : Int)] V fun e w' => e = .returned (.string (bl X)) ∧ Below V.heap.size V w' := fun X hX k V => by
    have := barred_any X hX (ao := none) (n := 0) (c := 0) (b := 0) (o := 0) (f := fun _ => 0) (by omega) k V ⟨fun h => by omega, fun h => by omega, fun i h => by omega⟩
    rw [brr_zero] at this
    exact this
  have BB : ∀ (X : List UInt8), X.length ≤ 3000 → ∀ k : Nat, ∀ V, Below w.heap.size w V → Calls Tryd.prog 40 #[.string (bl X), .slice a n c, .int .i64 (k : Int)] V fun e w' => e = .returned (.string (bl (brr n f k X))) ∧ Below V.heap.size V w' := fun X hX k V hV => barred_any X hX hn k V (SL.step hV)
  have br := fun k X => brr_brd n f k X
  have TX1 : ∀ V, Below w.heap.size w V → Calls Tryd.prog 19 #[.agg #[.string (bl S), .string (bl W), .string (bl P), .string (bl ES), .string (bl E), .bool pt, .bool hx, .bool he, .bool gr, .slice a n c], .slice none 0 0] V fun e w' => e = .returned (.string (bl (gtx hx gr pt he S W P ES E))) ∧ Below V.heap.size V w' := fun V _ =>
    text_any hx gr pt he S W P ES E W P E a n c none 0 0 V s1 s2 (by omega) (by omega) (by omega) (fun V' _ => BN W (by omega) 0 V') (fun V' _ => BN P (by omega) 1 V') (fun V' _ => BN E (by omega) 2 V')
  have TX2 : ∀ V, Below w.heap.size w V → Calls Tryd.prog 19 #[.agg #[.string (bl S), .string (bl W), .string (bl P), .string (bl ES), .string (bl E), .bool pt, .bool hx, .bool he, .bool gr, .slice a n c], .slice a n c] V fun e w' => e = .returned (.string (bl (gtx hx gr pt he S (brr n f 0 W) (brr n f 1 P) ES (brr n f 2 E)))) ∧ Below V.heap.size V w' := fun V hV =>
    text_any hx gr pt he S W P ES E _ _ _ a n c a n c V s1 s2 (by have := (br 0 W).len; omega) (by have := (br 1 P).len; omega) (by have := (br 2 E).len; omega)
      (fun V' h' => BB W (by omega) 0 V' (hV.trans (h'.mono hV.size))) (fun V' h' => BB P (by omega) 1 V' (hV.trans (h'.mono hV.size))) (fun V' h' => BB E (by omega) 2 V' (hV.trans (h'.mono hV.size)))
  have len : ∀ (B C D : List UInt8), B.length ≤ 3001 → C.length ≤ 3001 → D.length ≤ 3001 → (gtx hx gr pt he S B C ES D).length ≤ 1048576 := fun B C D h1 h2 h3 => by
    have p1 : (pre hx gr).length ≤ 2 := by unfold pre; split <;> simp
    have p2 : (mtx pt B C).length ≤ B.length + 1 + C.length := by unfold mtx; rw [List.length_append]; split <;> simp <;> omega
    have p3 : (etx he (ltr hx gr) ES D).length ≤ 1 + ES.length + D.length := by unfold etx; split <;> simp <;> omega
    unfold gtx
    rw [List.length_append, List.length_append, List.length_append]
    omega
  have SC1 := fun V => scan_any (gtx hx gr pt he S W P ES E) (len _ _ _ (by omega) (by omega) (by omega)) V
  have SC2 := fun V => scan_any (gtx hx gr pt he S (brr n f 0 W) (brr n f 1 P) ES (brr n f 2 E)) (len _ _ _ (by have := (br 0 W).len; omega) (by have := (br 1 P).len; omega) (by have := (br 2 E).len; omega)) V
  rw [scn_gtx hS hES (Or.inl rfl) (Or.inl rfl) (Or.inl rfl) hW hP hE hpt] at SC1
  rw [scn_gtx hS hES (br 0 W) (br 1 P) (br 2 E) hW hP hE hpt] at SC2
  have zW : (bl W).size ≤ 3000 := by rw [bl_size]; omega
  have zP : (bl P).size ≤ 3000 := by rw [bl_size]; omega
  have zE : (bl E).size ≤ 3000 := by rw [bl_size]; omega
  have hl' : ¬ (3000 : Int) < ((bl W).size : Int) + ((bl P).size : Int) + ((bl E).size : Int) := by rw [bl_size, bl_size, bl_size]; omega
  have eU := bl_append W P
  have eS := beq_bl S [45]
  by_cases zz : W ++ P = []
  · rw [ing_isSome zz, if_neg (by decide)] at SC1 SC2
    have hU := emp_true zz
    cases pt with
    | true => exact gram_A1 _ _ _ _ _ _ _ _ hx he gr a n c w SG1 SG2 DW DP DE zW zP zE hl' eU hU TX1 TX2 SC1 SC2
    | false => exact gram_A0 _ _ _ _ _ _ _ _ hx he gr a n c w SG1 SG2 DW DP DE (emp_true (hpt rfl)) zW zP zE hl' eU hU TX1 TX2 SC1 SC2
  · have hU := emp_false zz
    have zi : (W ++ P).isEmpty = false := by cases q : W ++ P with
      | nil => exact absurd q zz
      | cons a t => rfl
    cases he with
    | false =>
      cases hx with
      | false =>
        have ei : ing false false W P E = true := by unfold ing; rw [zi]; rfl
        rw [ei, if_pos rfl] at SC1 SC2
        cases pt with
        | true => exact gram_B01 _ _ _ _ _ _ _ _ gr a n c _ _ _ _ _ _ _ w SG1 SG2 DW DP DE zW zP zE hl' eU hU eS TX1 TX2 SC1 SC2
        | false => exact gram_B00 _ _ _ _ _ _ _ _ gr a n c _ _ _ _ _ _ _ w SG1 SG2 DW DP DE (emp_true (hpt rfl)) zW zP zE hl' eU hU eS TX1 TX2 SC1 SC2
      | true =>
        have ei : ing true false W P E = false := by unfold ing; rw [zi]; rfl
        rw [ei, if_neg (by decide)] at SC1 SC2
        cases pt with
        | true => exact gram_B11 _ _ _ _ _ _ _ _ gr a n c w SG1 SG2 DW DP DE zW zP zE hl' eU hU TX1 TX2 SC1 SC2
        | false => exact gram_B10 _ _ _ _ _ _ _ _ gr a n c w SG1 SG2 DW DP DE (emp_true (hpt rfl)) zW zP zE hl' eU hU TX1 TX2 SC1 SC2
    | true =>
      by_cases ze : E = []
      · have ei : ing hx true W P E = false := by unfold ing; rw [zi, ze]; rfl
        rw [ei, if_neg (by decide)] at SC1 SC2
        have hE2 := emp_true ze
        cases pt with
        | true => exact gram_C01 _ _ _ _ _ _ _ _ hx gr a n c w SG1 SG2 DW DP DE zW zP zE hl' eU hU hE2 TX1 TX2 SC1 SC2
        | false => exact gram_C00 _ _ _ _ _ _ _ _ hx gr a n c w SG1 SG2 DW DP DE (emp_true (hpt rfl)) zW zP zE hl' eU hU hE2 TX1 TX2 SC1 SC2
      · have hE2 := emp_false ze
        have zei : E.isEmpty = false := by cases q : E with
          | nil => exact absurd q ze
          | cons a t => rfl
        have ei : ing hx true W P E = true := by unfold ing; rw [zi, zei]; cases hx <;> rfl
        rw [ei, if_pos rfl] at SC1 SC2
        cases hx with
        | false =>
          cases pt with
          | true => exact gram_C11 _ _ _ _ _ _ _ _ gr a n c _ _ _ _ _ _ _ w SG1 SG2 DW DP DE zW zP zE hl' eU hU hE2 eS TX1 TX2 SC1 SC2
          | false => exact gram_C10 _ _ _ _ _ _ _ _ gr a n c _ _ _ _ _ _ _ w SG1 SG2 DW DP DE (emp_true (hpt rfl)) zW zP zE hl' eU hU hE2 eS TX1 TX2 SC1 SC2
        | true =>
          cases pt with
          | true => exact gram_C21 _ _ _ _ _ _ _ _ gr a n c _ _ _ _ _ _ _ w SG1 SG2 DW DP DE zW zP zE hl' eU hU hE2 eS TX1 TX2 SC1 SC2
          | false => exact gram_C20 _ _ _ _ _ _ _ _ gr a n c _ _ _ _ _ _ _ w SG1 SG2 DW DP DE (emp_true (hpt rfl)) zW zP zE hl' eU hU hE2 eS TX1 TX2 SC1 SC2
/-- The law. -/
theorem gram_law (S W P ES E : ByteArray) (pt hx he gr : Bool) {a : Option Addr} {n c b o : Nat} {f : Nat → Int} (hn : n ≤ 140737488355328) (zW : W.size ≤ 140737488351232) (zP : P.size ≤ 140737488351232) (zE : E.size ≤ 140737488351232) (w : World) (SL : SlI w a n b o f) :
    Calls Tryd.prog 5 #[.agg #[.string S, .string W, .string P, .string ES, .string E, .bool pt, .bool hx, .bool he, .bool gr, .slice a n c]] w fun o w' => o = .returned (.bool true) ∧ Below w.heap.size w w' := by
  have SG1 : ∀ V, Calls Tryd.prog 17 #[.string S] V fun e w' => e = .returned (.bool (sgB S.data.toList)) ∧ w' = V := fun V => sign_any S.data.toList V
  have SG2 : ∀ V, Calls Tryd.prog 17 #[.string ES] V fun e w' => e = .returned (.bool (sgB ES.data.toList)) ∧ w' = V := fun V => sign_any ES.data.toList V
  have DW := fun V => ldig_any W (by omega) hx V
  have DP := fun V => ldig_any P (by omega) hx V
  have DE := fun V => ldig_any E (by omega) false V
  rcases Bool.eq_false_or_eq_true (sgB S.data.toList) with q1 | q1
  · rw [q1] at SG1
    rcases Bool.eq_false_or_eq_true (sgB ES.data.toList) with q2 | q2
    · rw [q2] at SG2
      rcases Bool.eq_false_or_eq_true (alD hx W.data.toList) with q3 | q3
      · rw [q3] at DW
        rcases Bool.eq_false_or_eq_true (alD hx P.data.toList) with q4 | q4
        · rw [q4] at DP
          rcases Bool.eq_false_or_eq_true (alD false E.data.toList) with q5 | q5
          · rw [q5] at DE
            have lw : W.data.toList.length = W.size := rfl
            have lp : P.data.toList.length = P.size := rfl
            have le : E.data.toList.length = E.size := rfl
            by_cases p0 : pt = false ∧ P.data.toList ≠ []
            · obtain ⟨rfl, pn⟩ := p0
              exact gram_e5 S W P ES E hx he gr a n c w SG1 SG2 DW DP DE (emp_false pn)
            · have hpt : pt = false → P.data.toList = [] := fun z => by
                cases h : P.data.toList with
                | nil => rfl
                | cons x t => exact absurd ⟨z, by rw [h]; simp⟩ p0
              by_cases hl : (3000 : Int) < (W.size : Int) + (P.size : Int) + (E.size : Int)
              · cases pt with
                | true => exact gram_e6 S W P ES E hx he gr a n c w SG1 SG2 DW DP DE (by omega) (by omega) (by omega) hl
                | false => exact gram_e7 S W P ES E hx he gr a n c w SG1 SG2 DW DP DE (by omega) (by omega) (by omega) (emp_true (hpt rfl)) hl
              · exact gram_main S.data.toList W.data.toList P.data.toList ES.data.toList E.data.toList pt hx he gr hn w SL (sgB_of q1) (sgB_of q2) (alD_mem q3) (alD_mem q4) (alD_mem q5) hpt (by omega) SG1 SG2 DW DP DE
          · rw [q5] at DE
            exact gram_e4 S W P ES E pt hx he gr a n c w SG1 SG2 DW DP DE
        · rw [q4] at DP
          exact gram_e3 S W P ES E pt hx he gr a n c w SG1 SG2 DW DP
      · rw [q3] at DW
        exact gram_e2 S W P ES E pt hx he gr a n c w SG1 SG2 DW
    · rw [q2] at SG2
      exact gram_e1 S W P ES E pt hx he gr a n c w SG1 SG2
  · rw [q1] at SG1
    exact gram_e0 S W P ES E pt hx he gr a n c w SG1
end Go.Proofs.YtjgdbphhhplifaaDoor
