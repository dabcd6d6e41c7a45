/-
  What a call of nat.Add answers where nothing is refused.
-/
import Derived.Test.YtkkgancmodhghaaDoorNatB
namespace Go.Proofs.YtkkgancmodhghaaDoor
open Go.RowKit

set_option maxRecDepth 100000 in
set_option maxHeartbeats 1000000 in
theorem add_ok {w : World} {va vb : Value} {X Y : Nat} (ha : NatV w va X) (hb : NatV w vb Y) (h : X + Y < B ^ 128) :
    Calls Tryd.prog 10 #[va, vb] w fun e w' => ∃ v, e = .returned (.tuple #[v, .nilIface]) ∧ NatV w' v (X + Y) ∧ Below w.heap.size w w' := by
  obtain ⟨ao, n, c, b, o, f, rfl, S, t, rfl, hn⟩ := ha
  obtain ⟨bo, m, cb, bb, ob, G, rfl, S', t', rfl, hm⟩ := hb
  have h1 := both_any S S'
  rw [verr2_ok hn t hm t'] at h1
  unfold errV at h1
  have HH : Hid (V f n + V G m < B ^ 128) := h
  clear h
  by_cases hlt : n < m
  · skip
    have hmk := run_make_row' (P := Tryd.prog) 23 35 (.int .u64 0) 8 und_nat info_u64 rfl .i64 .i64 (m + 1) (by omega) (by omega)
    simp only [Int.natCast_add, Int.natCast_one] at hmk
    go_enter Tryd.func10, Tryd.ntmps10
    go_wp2_with fail
    refine h1.mono ?_
    rintro e wb ⟨rfl, hb1⟩
    have S1 := S'.below hb1
    have S1' := S.below hb1
    have bA : Below wb.heap.size wb (wb.alloc (.cells (madeCells #[.int .u64 0] (m + 1)) 35)) := (Below.refl _ _).alloc (Nat.le_refl _) _
    obtain ⟨w2, hcp, R2, hg2⟩ := copy_run (cz := m + 1) (made_row wb (m + 1)) (S1.below bA) (Nat.le_succ m)
    have b2 : Below wb.heap.size wb w2 := below_grown bA hg2 (Nat.le_refl _)
    have eV : V (fun i => (fun i => if i < m then G i else 0) (0 + i)) (m + 1) = V G m := by
      have a := cpy_V (f := G) (n := m) (N := m + 1) (by omega)
      rw [← a]
      exact V_congr fun i hi => by show (if 0 + i < m then G (0 + i) else 0) = cpy G m i; unfold cpy; rw [Nat.zero_add]
    have hfit : V G m + V f n < B ^ (m + 1) := by
      have p := V_lt S'.ws m
      have q := V_lt S.ws n
      have r : B ^ n ≤ B ^ m := Nat.pow_le_pow_right B_pos (by omega)
      have s : 2 * B ^ m ≤ B ^ (m + 1) := by rw [Nat.pow_succ, Nat.mul_comm]; exact Nat.mul_le_mul_left _ (by decide)
      omega
    have D := increase_any (o := 0) (n := m + 1) (c := m + 1) R2 (by omega) (Nat.le_refl _) (by unfold maxLen; omega) (S1'.below b2) (fun q => Nat.ne_of_lt (S1'.blk q)) (by omega) (by rw [eV]; exact hfit)
    rw [eV] at D
    have b3 : Below w.heap.size w w2 := hb1.trans (b2.mono hb1.size)
    have hsz := hb1.size
    clear R2 hg2 bA b2 eV hfit
    go_wp2_with fail
    refine D.mono ?_
    rintro e w3 ⟨rfl, hg3, F, R3, _, hv⟩
    have b4 : Below w.heap.size w w3 := below_grown b3 hg3 hsz
    have e0 : (fun i => F (0 + i)) = F := funext fun i => by rw [Nat.zero_add]
    rw [e0] at hv
    obtain ⟨nv, hl⟩ := natv_tl R3 (by unfold maxLen; omega) (X := V f n + V G m) (by rw [hv]; exact Nat.add_comm _ _) HH.out
    have TT := fit_ok (row_sl0 R3 (by unfold maxLen; omega)) hl
    go_wp2_with fail
    refine TT.mono ?_
    rintro e w4 ⟨rfl, rfl⟩
    go_wp2
    refine bodyPost_ret (v := .tuple #[.slice (some ⟨wb.heap.size, 0, none⟩) (tl F (m + 1)) (tl F (m + 1)), .nilIface]) (by simp [results, Tryd.results10, go_sem]) rfl ⟨_, rfl, nv, b4⟩
  · skip
    have hmk := run_make_row' (P := Tryd.prog) 23 35 (.int .u64 0) 8 und_nat info_u64 rfl .i64 .i64 (n + 1) (by omega) (by omega)
    simp only [Int.natCast_add, Int.natCast_one] at hmk
    go_enter Tryd.func10, Tryd.ntmps10
    go_wp2_with fail
    refine h1.mono ?_
    rintro e wb ⟨rfl, hb1⟩
    have S1 := S.below hb1
    have S1' := S'.below hb1
    have bA : Below wb.heap.size wb (wb.alloc (.cells (madeCells #[.int .u64 0] (n + 1)) 35)) := (Below.refl _ _).alloc (Nat.le_refl _) _
    obtain ⟨w2, hcp, R2, hg2⟩ := copy_run (cz := n + 1) (made_row wb (n + 1)) (S1.below bA) (Nat.le_succ n)
    have b2 : Below wb.heap.size wb w2 := below_grown bA hg2 (Nat.le_refl _)
    have eV : V (fun i => (fun i => if i < n then f i else 0) (0 + i)) (n + 1) = V f n := by
      have a := cpy_V (f := f) (n := n) (N := n + 1) (by omega)
      rw [← a]
      exact V_congr fun i hi => by show (if 0 + i < n then f (0 + i) else 0) = cpy f n i; unfold cpy; rw [Nat.zero_add]
    have hfit : V f n + V G m < B ^ (n + 1) := by
      have p := V_lt S.ws n
      have q := V_lt S'.ws m
      have r : B ^ m ≤ B ^ n := Nat.pow_le_pow_right B_pos (by omega)
      have s : 2 * B ^ n ≤ B ^ (n + 1) := by rw [Nat.pow_succ, Nat.mul_comm]; exact Nat.mul_le_mul_left _ (by decide)
      omega
    have D := increase_any (o := 0) (n := n + 1) (c := n + 1) R2 (by omega) (Nat.le_refl _) (by unfold maxLen; omega) (S1'.below b2) (fun q => Nat.ne_of_lt (S1'.blk q)) (by omega) (by rw [eV]; exact hfit)
    rw [eV] at D
    have b3 : Below w.heap.size w w2 := hb1.trans (b2.mono hb1.size)
    have hsz := hb1.size
    clear R2 hg2 bA b2 eV hfit
    go_wp2_with fail
    refine D.mono ?_
    rintro e w3 ⟨rfl, hg3, F, R3, _, hv⟩
    have b4 : Below w.heap.size w w3 := below_grown b3 hg3 hsz
    have e0 : (fun i => F (0 + i)) = F := funext fun i => by rw [Nat.zero_add]
    rw [e0] at hv
    obtain ⟨nv, hl⟩ := natv_tl R3 (by unfold maxLen; omega) (X := V f n + V G m) (by rw [hv]) HH.out
    have TT := fit_ok (row_sl0 R3 (by unfold maxLen; omega)) hl
    go_wp2_with fail
    refine TT.mono ?_
    rintro e w4 ⟨rfl, rfl⟩
    go_wp2
    refine bodyPost_ret (v := .tuple #[.slice (some ⟨wb.heap.size, 0, none⟩) (tl F (n + 1)) (tl F (n + 1)), .nilIface]) (by simp [results, Tryd.results10, go_sem]) rfl ⟨_, rfl, nv, b4⟩

end Go.Proofs.YtkkgancmodhghaaDoor
