/-
  The law's sign and barred: what they answer.
-/
import Derived.Test.YtjgdbphhhplifaaDoorScGm
import Derived.RegionTactic
import Derived.BigRegion
namespace Go.Proofs.YtjgdbphhhplifaaDoor
open Go.RowKit

/-- Is it a sign, or none? -/
def sgB (l : List UInt8) : Bool := decide (l = [] ∨ l = [43] ∨ l = [45])
theorem sgB_of {l : List UInt8} (h : sgB l = true) : sgL l := by
  have h' : l = [] ∨ l = [43] ∨ l = [45] := of_decide_eq_true h
  exact h'
theorem beq_bl (l m : List UInt8) : ((bl l).toList == m) = decide (l = m) := by
  rw [list_data, bl_list]
  by_cases h : l = m
  · rw [decide_eq_true h, h]; simp
  · rw [decide_eq_false h]; simp [h]
set_option maxRecDepth 100000 in
theorem sign_any (l : List UInt8) (w : World) : Calls Tryd.prog 17 #[.string (bl l)] w fun e w' => e = .returned (.bool (sgB l)) ∧ w' = w := by
  have e0 := bl_empty (l := l)
  have e1 := beq_bl l [43]
  have e2 := beq_bl l [45]
  by_cases h0 : l = []
  · rw [show sgB l = true from decide_eq_true (Or.inl h0)]
    rw [h0] at e0
    have e0' : (bl l).toList.isEmpty = true := by rw [bl_empty, h0]; rfl
    clear e0 e1 e2 h0
    generalize bl l = s at *
    go_enter Tryd.func17, Tryd.ntmps17
    go_wp2
    go_ret
    exact ⟨rfl, rfl⟩
  · have e0' : (bl l).toList.isEmpty = false := empty_false (by rw [bl_size]; exact List.length_pos_iff.2 h0)
    by_cases h1 : l = [43]
    · rw [show sgB l = true from decide_eq_true (Or.inr (Or.inl h1))]
      rw [decide_eq_true h1] at e1
      clear e0 e2 h0 h1
      generalize bl l = s at *
      go_enter Tryd.func17, Tryd.ntmps17
      go_wp2
      go_ret
      exact ⟨rfl, rfl⟩
    · rw [decide_eq_false h1] at e1
      rw [show sgB l = decide (l = [45]) by
        unfold sgB
        by_cases h2 : l = [45]
        · rw [decide_eq_true h2, decide_eq_true (Or.inr (Or.inr h2))]
        · rw [decide_eq_false h2, decide_eq_false (fun z => z.elim h0 (fun z => z.elim h1 h2))]]
      generalize decide (l = [45]) = B at *
      clear e0 h0 h1
      generalize bl l = s at *
      go_enter Tryd.func17, Tryd.ntmps17
      go_wp2
      go_ret
      exact ⟨rfl, rfl⟩
/-- A slice of ints. -/
structure SlI (V : World) (ao : Option Addr) (n b o : Nat) (f : Nat → Int) : Prop where
  ad : 0 < n → ao = some ⟨b, o, none⟩
  lt : 0 < n → b < V.heap.size
  cell : ∀ i, i < n → V.cell? ⟨b, o + i, none⟩ = some (.int .i64 (f i))
theorem SlI.step {V V2 : World} {ao : Option Addr} {n b o : Nat} {f : Nat → Int} (h : SlI V ao n b o f) (hb : Below V.heap.size V V2) : SlI V2 ao n b o f := by
  refine ⟨h.ad, fun q => by have := h.lt q; have := hb.size; omega, fun i hi => ?_⟩
  exact (hb.cell (p := ⟨b, o + i, none⟩) (h.lt (by omega))).trans (h.cell i hi)
theorem remL (x : Int) (L : Nat) (hL : 0 < L) : ∃ (t : Int) (m : Nat), x.tmod (L : Int) = t ∧ (t + (L : Int)).tmod (L : Int) = (m : Int) ∧ m < L ∧ -(L : Int) < t ∧ t < (L : Int) := by
  have hp : (0 : Int) < (L : Int) := by omega
  have h1 := Int.lt_tmod_of_pos x hp
  have h4 := Int.tmod_lt_of_pos x hp
  have h2 : 0 ≤ (x.tmod L + L).tmod L := Int.tmod_nonneg (L : Int) (by omega)
  have h3 := Int.tmod_lt_of_pos (x.tmod L + L) hp
  exact ⟨x.tmod L, ((x.tmod L + L).tmod L).toNat, rfl, by omega, by omega, h1, h4⟩
/-- A row of digits, barred. -/
def brr (n : Nat) (f : Nat → Int) (k : Nat) (W : List UInt8) : List UInt8 :=
  if n = 0 ∨ W.length < 2 then W else
    let m := (((f (k % n)).tmod W.length + W.length).tmod W.length).toNat
    if m = 0 then W else W.take m ++ 95 :: W.drop m
theorem brr_brd (n : Nat) (f : Nat → Int) (k : Nat) (W : List UInt8) : Brd W (brr n f k W) := by
  unfold brr
  by_cases h : n = 0 ∨ W.length < 2
  · rw [if_pos h]; exact Or.inl rfl
  · rw [if_neg h]
    obtain ⟨t, m, e1, e2, e3, _, _⟩ := remL (f (k % n)) W.length (by omega)
    show Brd W (if (((f (k % n)).tmod W.length + W.length).tmod W.length).toNat = 0 then _ else _)
    rw [e1, e2]
    by_cases z : ((m : Int)).toNat = 0
    · rw [if_pos z]; exact Or.inl rfl
    · rw [if_neg z]
      have em : ((m : Int)).toNat = m := by omega
      rw [em] at z ⊢
      refine Or.inr ⟨W.take m, W.drop m, ?_, ?_, (List.take_append_drop m W).symm, rfl⟩
      · intro q
        have := congrArg List.length q
        rw [List.length_take] at this
        simp only [List.length_nil] at this
        omega
      · intro q
        have := congrArg List.length q
        rw [List.length_drop] at this
        simp only [List.length_nil] at this
        omega
theorem brr_zero (f : Nat → Int) (k : Nat) (W : List UInt8) : brr 0 f k W = W := by unfold brr; rw [if_pos (Or.inl rfl)]
set_option maxRecDepth 100000 in
set_option maxHeartbeats 2000000 in
theorem barred_any (W : List UInt8) (hW : W.length ≤ 3000) {ao : Option Addr} {n c b o : Nat} {f : Nat → Int} (hn : n ≤ 140737488355328) (k : Nat) (V : World) (S : SlI V ao n b o f) :
    Calls Tryd.prog 40 #[.string (bl W), .slice ao n c, .int .i64 (k : Int)] V fun e w' => e = .returned (.string (bl (brr n f k W))) ∧ Below V.heap.size V w' := by
  have hs : (bl W).size ≤ 3000 := hW
  by_cases h0 : n = 0
  · subst h0
    rw [brr_zero]
    generalize bl W = s at *
    clear S
    go_enter Tryd.func40, Tryd.ntmps40
    go_wp2
    go_ret
    exact ⟨rfl, Below.refl _ _⟩
  · have n0 : ((n : Int) == 0) = false := beq_eq_false_iff_ne.mpr (by omega)
    by_cases h2 : W.length < 2
    · have e : brr n f k W = W := by unfold brr; rw [if_pos (Or.inr h2)]
      have l2 : ((bl W).size : Int) < 2 := by rw [bl_size]; omega
      rw [e]
      clear S e h2 hW
      generalize bl W = s at *
      go_enter Tryd.func40, Tryd.ntmps40
      go_wp2
      go_ret
      exact ⟨rfl, Below.refl _ _⟩
    · have l2 : ¬ ((bl W).size : Int) < 2 := by rw [bl_size]; omega
      have l0 : (((bl W).size : Int) == 0) = false := beq_eq_false_iff_ne.mpr (by rw [bl_size]; omega)
      obtain ⟨t, m, e1, e2, e3, t1, t2⟩ := remL (f (k % n)) W.length (by omega)
      have hin : k % n < n := Nat.mod_lt _ (by omega)
      have hc := S.cell (k % n) hin
      have had := S.ad (by omega)
      have hr : ((k : Int)).tmod (n : Int) = ((k % n : Nat) : Int) := rfl
      have HE : Hid (brr n f k W = if m = 0 then W else W.take m ++ 95 :: W.drop m) := by
        show _ = _
        unfold brr
        rw [if_neg (fun z => z.elim h0 (fun z => by omega))]
        show (if (((f (k % n)).tmod W.length + W.length).tmod W.length).toNat = 0 then _ else _) = _
        rw [e1, e2]
        have em : ((m : Int)).toNat = m := by omega
        rw [em]
      rw [show (W.length : Int) = ((bl W).size : Int) from rfl] at e1 e2
      have x1 := bl_to W m
      have x2 := bl_from W m
      have x3 : bl (W.take m) ++ ⟨#[95]⟩ = bl (W.take m ++ [95]) := bl_append _ [95]
      have x4 : bl (W.take m ++ [95]) ++ bl (W.drop m) = bl (W.take m ++ 95 :: W.drop m) := by rw [bl_append]; simp
      have hms : m ≤ (bl W).size := by rw [bl_size]; omega
      have q1 : (bl (W.take m)).size ≤ 3000 := by rw [bl_size, List.length_take]; omega
      have q2 : (bl (W.take m ++ [95])).size ≤ 3001 := by rw [bl_size, List.length_append, List.length_take]; simp; omega
      have q3 : (bl (W.drop m)).size ≤ 3000 := by rw [bl_size, List.length_drop]; omega
      have m1 : (m : Int) ≤ ((bl W).size : Int) := by omega
      have m0 : (0 : Int) ≤ (m : Int) := by omega
      have t3 : -((bl W).size : Int) < t := t1
      have t4 : t < ((bl W).size : Int) := t2
      have w1 : wrap64 (t + ((bl W).size : Int)) = t + ((bl W).size : Int) := by unfold wrap64; omega
      have i0 : (0 : Int) ≤ ((k % n : Nat) : Int) := by omega
      have i1 : ((k % n : Nat) : Int) < (n : Int) := by omega
      subst had
      rw [HE.out]
      clear HE S h2 hW h0 t1 t2 hn e3
      generalize k % n = j at *
      generalize f j = x at *
      by_cases z : m = 0
      · rw [if_pos z]
        have z1 : (m : Int) = 0 := by omega
        rw [z1] at e2
        clear x1 x2 x3 x4 q1 q2 q3 z z1 hms m1 m0
        generalize bl W = s at *
        go_enter Tryd.func40, Tryd.ntmps40
        go_wp2
        go_ret
        exact ⟨rfl, Below.refl _ _⟩
      · rw [if_neg z]
        have z1 : ((m : Int) == 0) = false := beq_eq_false_iff_ne.mpr (by omega)
        clear z
        generalize bl (W.take m ++ 95 :: W.drop m) = y4 at *
        generalize bl (W.take m ++ [95]) = y3 at *
        generalize bl (W.take m) = y1 at *
        generalize bl (W.drop m) = y2 at *
        generalize bl W = s at *
        go_enter Tryd.func40, Tryd.ntmps40
        go_wp2
        go_region
        go_wp2
        go_ret
        exact ⟨rfl, (Below.refl _ _).drew⟩
end Go.Proofs.YtjgdbphhhplifaaDoor
