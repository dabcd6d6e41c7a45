/-
  What the document's decimal of layer 16 answers: a number times a power of two as a decimal.
-/
import Derived.Test.YtfoaeholbidngaaGreatDoorCrA
namespace Go.Proofs.YtfoaeholbidngaaGreatDoor
open Go.RowKit

def pw5 (j : Nat) : Nat := 5 ^ j
def pwT (j : Nat) : Nat := 10 ^ j
theorem five_most : 2 ^ 64 * pw5 1075 < pwT 800 := by decide +kernel
theorem pw5_mono {a b : Nat} (h : a ≤ b) : pw5 a ≤ pw5 b := Nat.pow_le_pow_right (by decide) h
theorem pwT_mono {a b : Nat} (h : a ≤ b) : pwT a ≤ pwT b := Nat.pow_le_pow_right (by decide) h
/-- How many digits, and where the point lies. -/
theorem len_up {m j K N : Nat} (hm : m < 2 ^ 64) (hj : j ≤ 1000) (hK : 10 ^ (K - 1) ≤ m * 2 ^ j) (hN : N = 500) : K ≤ N := by
  apply Nat.le_of_not_lt
  intro c
  have a : m * 2 ^ j < 2 ^ (64 + j) := by rw [Nat.pow_add]; exact Nat.mul_lt_mul_of_pos_right hm (Nat.two_pow_pos j)
  have b := two_ten (64 + j) N (by omega) (by omega)
  have d : 10 ^ N ≤ 10 ^ (K - 1) := Nat.pow_le_pow_right (by decide) (by omega)
  exact absurd (Nat.lt_of_le_of_lt (Nat.le_trans d hK) (Nat.lt_trans a b)) (Nat.lt_irrefl _)
theorem len_dn {m j K : Nat} (hm : m < 2 ^ 64) (hj : j ≤ 1075) (hK : 10 ^ (K - 1) ≤ m * 5 ^ j) : K ≤ 800 := by
  apply Nat.le_of_not_lt
  intro c
  have a : m * pw5 j ≤ 2 ^ 64 * pw5 1075 := Nat.mul_le_mul (Nat.le_of_lt hm) (pw5_mono hj)
  have d : pwT 800 ≤ pwT (K - 1) := pwT_mono (by omega)
  exact absurd (Nat.lt_of_le_of_lt (Nat.le_trans d hK) (Nat.lt_of_le_of_lt a five_most)) (Nat.lt_irrefl _)
theorem point_hi {m j K N : Nat} (hm : m < 2 ^ 64) (hK : 10 ^ (K - 1) ≤ m * 5 ^ j) (hN : N = 500) : K ≤ j + N := by
  apply Nat.le_of_not_lt
  intro c
  have a : m * 5 ^ j ≤ 2 ^ 64 * 10 ^ j := Nat.mul_le_mul (Nat.le_of_lt hm) (Nat.pow_le_pow_left (by decide) j)
  have b := two_ten 64 N (by omega) (by omega)
  have d : 10 ^ (N + j) ≤ 10 ^ (K - 1) := Nat.pow_le_pow_right (by decide) (by omega)
  have e : 2 ^ 64 * 10 ^ j < 10 ^ (N + j) := by rw [Nat.pow_add]; exact Nat.mul_lt_mul_of_pos_right b (Nat.pow_pos (by decide))
  exact absurd (Nat.lt_of_le_of_lt (Nat.le_trans d hK) (Nat.lt_of_le_of_lt a e)) (Nat.lt_irrefl _)
theorem point_lo {m j K N : Nat} (m0 : 0 < m) (hj : j ≤ 1075) (hK : m * 5 ^ j < 10 ^ K) (hN : N = 500) : j ≤ K + N := by
  apply Nat.le_of_not_lt
  intro c
  have a : 5 ^ j ≤ m * 5 ^ j := Nat.le_mul_of_pos_left _ m0
  have b := two_ten j N (by omega) (by omega)
  have d : 5 ^ j * 2 ^ j < 10 ^ K * 10 ^ N := Nat.mul_lt_mul'' (Nat.lt_of_le_of_lt a hK) b
  rw [← Nat.mul_pow, ← Nat.pow_add] at d
  have e : 10 ^ (K + N) ≤ 10 ^ j := Nat.pow_le_pow_right (by decide) (by omega)
  exact absurd (Nat.lt_of_lt_of_le d e) (Nat.lt_irrefl _)
theorem row_vn16 {X K m : Nat} {p : Int} (hK : 1 ≤ K) (h9 : K ≤ 800) (h0 : 10 ^ (K - 1) ≤ X) (hX : X < 10 ^ K) (hm : m ≤ K) (m0 : 0 < m) (hl : dgt (rowText 10 X K) (m - 1) ≠ 48) (hp : -1000000 ≤ p) (hq : p ≤ 1000000) : VN ((rowText 10 X K).extract 0 m) p false := by
  have sz : ((rowText 10 X K).extract 0 m).size = m := by rw [ByteArray.size_extract, rowText_size]; omega
  have hs : m ≤ (rowText 10 X K).size := by rw [rowText_size]; exact hm
  refine ⟨by omega, by omega, ?_, ?_, .inl ?_, by omega, by omega⟩
  · intro k hk
    have a := dgt_dg (dg_row X K) k
    rw [← dgt_pre hs (by omega), dgt_lt hk] at a
    exact a
  · rw [← dgt_lt, dgt_pre hs m0]
    exact row_first hK h0 hX
  · rw [← dgt_lt, dgt_pre hs (by omega), sz]
    exact hl
/-- What is made of a number's text. -/
theorem row_made {X K : Nat} (hK : 1 ≤ K) (h8 : K ≤ 800) (h0 : 10 ^ (K - 1) ≤ X) (hX : X < 10 ^ K) {e : Int} (he : -2000 ≤ e) (he2 : e ≤ 2000) :
    ∃ u, VN u ((K : Int) + e) false ∧ frN u ((K : Int) + e) * 10 ^ (-e).toNat = X * 10 ^ e.toNat * frD u ((K : Int) + e) ∧
      ∀ W, Calls Tryz.prog 88 #[.string (rowText 10 X K), .int .i64 ((K : Int) + e), .bool false] W fun x w' => x = .returned (.tuple #[dcV u ((K : Int) + e) false, .int .i64 0]) ∧ Below W.heap.size W w' := by
  obtain ⟨c, hc, hc1, hc2⟩ := no_noughts (rowText 10 X K) K
  have rs := rowText_size 10 X K
  have c0 : 0 < c := by
    apply Nat.pos_of_ne_zero
    intro z
    subst z
    exact row_first hK h0 hX (hc1 0 (Nat.le_refl _) hK)
  have hl : dgt (rowText 10 X K) (c - 1) ≠ 48 := hc2.resolve_left (by omega)
  refine ⟨(rowText 10 X K).extract 0 c, row_vn16 hK h8 h0 hX hc c0 hl (by omega) (by omega), row_val hX hc hc1 rfl e, fun W => ?_⟩
  have ea : (rowText 10 X K).extract 0 (rowText 10 X K).size = rowText 10 X K := by
    apply ByteArray.ext
    rw [ByteArray.data_extract]
    exact Array.extract_size
  have R := rmake_in (t := rowText 10 X K) (p := (K : Int) + e) (by omega) (dg_row X K) (z := 0) (by omega) (fun i q => absurd q (by omega)) (row_first hK h0 hX) ea (by omega) (m := c) (by omega) c0 (fun i p q => hc1 i p (by omega)) hl (by omega) (by omega) (by unfold inR; omega) W
  rw [show (K : Int) + e - ((0 : Nat) : Int) = (K : Int) + e from by omega] at R
  exact R
set_option maxRecDepth 100000 in
set_option maxHeartbeats 2000000 in
theorem decimal_up {m j : Nat} (m0 : 0 < m) (hm : m < 18446744073709551616) (hj : j ≤ 1000) (w : World) :
    Calls Tryz.prog 51 #[.int .u64 (m : Int), .int .i64 (j : Int)] w fun e w' => ∃ u P, e = .returned (dcV u P false) ∧ VN u P false ∧ nrP P = P ∧ vE (frN u P) (frD u P) 0 m (j : Int) ∧ Below w.heap.size w w' := by
  have SM := fun W => small_nat m (by unfold B; exact hm) W
  have fM : Fits 2 m := Fits.word (n := 1) (by unfold B; omega)
  have fX : Fits 200 (m * 2 ^ j) := (fM.mul (two_fits (s := j) (k := 100) (by omega))).up (by omega)
  have x0 : m * 2 ^ j ≠ 0 := Nat.ne_of_gt (Nat.mul_pos m0 (Nat.pow_pos (by decide)))
  have HM : Hid (0 < m ∧ m < 2 ^ 64 ∧ Fits 2 m ∧ Fits 210 (m * 2 ^ j) ∧ m * 2 ^ j ≠ 0) := ⟨m0, hm, fM, fX.up (by omega), x0⟩
  clear fM fX x0
  obtain ⟨X, hX⟩ : ∃ X, X = m * 2 ^ j := ⟨_, rfl⟩
  rw [← hX] at HM
  have HX : Hid (X = m * 2 ^ j) := hX
  have F0 : Hid (DcB (w.alloc (.cells #[.string ⟨#[]⟩, .int .i64 0, .bool false] 23)) w.heap.size (.string ⟨#[]⟩) (.int .i64 0) (.bool false) ∧ Below w.heap.size w (w.alloc (.cells #[.string ⟨#[]⟩, .int .i64 0, .bool false] 23))) := ⟨DcB.new w _ _ _ _, (Below.refl _ _).alloc (Nat.le_refl _) _⟩
  clear hX
  go_enter Tryz.func51, Tryz.ntmps51
  go_wp2_with fail
  refine (SM _).mono ?_
  rintro o w1 ⟨v1, rfl, n1, b1⟩
  have F1 : Hid (DcB w1 w.heap.size (.string ⟨#[]⟩) (.int .i64 0) (.bool false) ∧ Below w.heap.size w w1 ∧ Big.NatV w1 v1 m) := ⟨F0.out.1.step b1, F0.out.2.trans (b1.mono F0.out.2.size), n1⟩
  clear b1 n1 SM F0
  have UP := up_any F1.out.2.2 (HM.out.2.2.1.up (by omega)) j (by omega)
  rw [← HX.out] at UP
  go_wp2_with fail
  all_goals first | (exfalso; omega) | skip
  refine UP.mono ?_
  rintro o w3 ⟨v3, rfl, n3, b3⟩
  have F3 : Hid (DcB w3 w.heap.size (.string ⟨#[]⟩) (.int .i64 0) (.bool false) ∧ Below w.heap.size w w3 ∧ Big.NatV w3 v3 X) := ⟨F1.out.1.step b3, F1.out.2.1.trans (b3.mono F1.out.2.1.size), n3⟩
  clear b3 n3 UP F1
  have XB : X < B ^ 128 := by
    have z := HM.out.2.2.2.1
    obtain ⟨k, a, b⟩ := z.up (show 210 ≤ 256 by omega)
    rw [BB_pow]
    exact Nat.lt_of_lt_of_le b (Nat.pow_le_pow_right Big.B_pos (by omega))
  have TL := tell_any F3.out.2.2 HM.out.2.2.2.2 XB 10 (by decide) (by decide)
  simp only [Int.cast_ofNat_Int] at TL
  clear XB
  go_wp2_with fail
  all_goals first | (exfalso; omega) | skip
  refine TL.mono ?_
  rintro o w4 ⟨K, rfl, k1, k2, k3, b4⟩
  have F4 : Hid (DcB w4 w.heap.size (.string ⟨#[]⟩) (.int .i64 0) (.bool false) ∧ Below w.heap.size w w4) := ⟨F3.out.1.step b4, F3.out.2.1.trans (b4.mono F3.out.2.1.size)⟩
  clear b4 TL F3
  have rs := rowText_size 10 X K
  have kN : K ≤ 500 := len_up HM.out.2.1 hj (by rw [← HX.out]; exact k2) rfl
  obtain ⟨u, hv, hq, MK⟩ := row_made (e := 0) k1 (by omega) k2 k3 (by omega) (by omega)
  have VV : Hid (VN u ((K : Int) + 0) false ∧ nrP ((K : Int) + 0) = (K : Int) + 0 ∧ vE (frN u ((K : Int) + 0)) (frD u ((K : Int) + 0)) 0 m (j : Int)) := ⟨hv, by unfold nrP; rw [if_neg (by omega), if_neg (by omega)], val_up HX.out hq⟩
  rw [Int.add_zero] at VV MK
  unfold dcV at MK
  clear hv hq k1 k2 k3 HM HX
  generalize rowText 10 X K = rt at *
  go_wp2_with fail
  refine (MK _).mono ?_
  rintro o w5 ⟨rfl, b5⟩
  have F5 : Hid (DcB w5 w.heap.size (.string ⟨#[]⟩) (.int .i64 0) (.bool false) ∧ Below w.heap.size w w5) := ⟨F4.out.1.step b5, F4.out.2.trans (b5.mono F4.out.2.size)⟩
  clear b5 F4 MK
  obtain ⟨l5, a0, a1, a2, f0, f1, f2⟩ := F5.out.1
  go_wp2
  exact bodyPost_ret (v := .agg #[.string u, .int .i64 (K : Int), .bool false]) (by simp [results, Tryz.results51, go_sem, World.cell?_setCell_same, World.cell?_setCell_other, *]) rfl ⟨u, (K : Int), rfl, VV.out.1, VV.out.2.1, VV.out.2.2, (((F5.out.2.setCell (Nat.le_refl _) _).setCell (Nat.le_refl _) _).setCell (Nat.le_refl _) _).alloc (by simpa using F5.out.2.size) _⟩
set_option maxRecDepth 100000 in
set_option maxHeartbeats 2000000 in
theorem decimal_dn {m j : Nat} (m0 : 0 < m) (hm : m < 18446744073709551616) (j0 : 0 < j) (hj : j ≤ 1075) (w : World) :
    Calls Tryz.prog 51 #[.int .u64 (m : Int), .int .i64 (-(j : Int))] w fun e w' => ∃ u P, e = .returned (dcV u P false) ∧ VN u P false ∧ nrP P = P ∧ vE (frN u P) (frD u P) 0 m (-(j : Int)) ∧ Below w.heap.size w w' := by
  have SM := fun W => small_nat m (by unfold B; exact hm) W
  have RA := fun W => raised_far 5 j (by decide) (by decide) (by omega) W
  simp only [Int.cast_ofNat_Int] at RA
  have fM : Fits 2 m := Fits.word (n := 1) (by unfold B; omega)
  have f5 : Fits 200 (5 ^ j) := by
    have a : 5 ^ j ≤ 8 ^ j := Nat.pow_le_pow_left (by omega) j
    rw [show 8 = 2 ^ 3 from rfl, ← Nat.pow_mul] at a
    exact (two_fits (s := 3 * j) (k := 200) (by omega)).le a
  have fX : Fits 210 (m * 5 ^ j) := (fM.mul f5).up (by omega)
  have HF5 : Hid (Fits 200 (5 ^ j)) := f5
  clear f5
  have x0 : m * 5 ^ j ≠ 0 := Nat.ne_of_gt (Nat.mul_pos m0 (Nat.pow_pos (by decide)))
  have HM : Hid (0 < m ∧ m < 2 ^ 64 ∧ Fits 2 m ∧ Fits 210 (m * 5 ^ j) ∧ m * 5 ^ j ≠ 0) := ⟨m0, hm, fM, fX.up (by omega), x0⟩
  clear fM fX x0
  obtain ⟨X, hX⟩ : ∃ X, X = m * 5 ^ j := ⟨_, rfl⟩
  rw [← hX] at HM
  have HX : Hid (X = m * 5 ^ j) := hX
  have F0 : Hid (DcB (w.alloc (.cells #[.string ⟨#[]⟩, .int .i64 0, .bool false] 23)) w.heap.size (.string ⟨#[]⟩) (.int .i64 0) (.bool false) ∧ Below w.heap.size w (w.alloc (.cells #[.string ⟨#[]⟩, .int .i64 0, .bool false] 23))) := ⟨DcB.new w _ _ _ _, (Below.refl _ _).alloc (Nat.le_refl _) _⟩
  clear hX
  go_enter Tryz.func51, Tryz.ntmps51
  go_wp2_with fail
  refine (SM _).mono ?_
  rintro o w1 ⟨v1, rfl, n1, b1⟩
  have F1 : Hid (DcB w1 w.heap.size (.string ⟨#[]⟩) (.int .i64 0) (.bool false) ∧ Below w.heap.size w w1 ∧ Big.NatV w1 v1 m) := ⟨F0.out.1.step b1, F0.out.2.trans (b1.mono F0.out.2.size), n1⟩
  clear b1 n1 SM F0
  go_wp2_with fail
  all_goals first | (exfalso; omega) | skip
  try rw [Int.neg_neg]
  refine (RA _).mono ?_
  rintro o w2 ⟨v2, rfl, n2, b2⟩
  have F2 : Hid (DcB w2 w.heap.size (.string ⟨#[]⟩) (.int .i64 0) (.bool false) ∧ Below w.heap.size w w2 ∧ Big.NatV w2 v1 m ∧ Big.NatV w2 v2 (5 ^ j)) := ⟨F1.out.1.step b2, F1.out.2.1.trans (b2.mono F1.out.2.1.size), F1.out.2.2.below b2, n2⟩
  have TM := times_nat F2.out.2.2.1 F2.out.2.2.2 (HM.out.2.2.1.up (by omega)) (HF5.out.up (by omega))
  rw [← HX.out] at TM
  clear b2 n2 RA F1
  go_wp2_with fail
  all_goals first | (exfalso; omega) | skip
  refine TM.mono ?_
  rintro o w3 ⟨v3, rfl, n3, b3⟩
  have F3 : Hid (DcB w3 w.heap.size (.string ⟨#[]⟩) (.int .i64 0) (.bool false) ∧ Below w.heap.size w w3 ∧ Big.NatV w3 v3 X) := ⟨F2.out.1.step b3, F2.out.2.1.trans (b3.mono F2.out.2.1.size), n3⟩
  clear b3 n3 TM F2
  have XB : X < B ^ 128 := by
    have z := HM.out.2.2.2.1
    obtain ⟨k, a, b⟩ := z.up (show 210 ≤ 256 by omega)
    rw [BB_pow]
    exact Nat.lt_of_lt_of_le b (Nat.pow_le_pow_right Big.B_pos (by omega))
  have TL := tell_any F3.out.2.2 HM.out.2.2.2.2 XB 10 (by decide) (by decide)
  simp only [Int.cast_ofNat_Int] at TL
  clear XB
  go_wp2_with fail
  all_goals first | (exfalso; omega) | skip
  refine TL.mono ?_
  rintro o w4 ⟨K, rfl, k1, k2, k3, b4⟩
  have F4 : Hid (DcB w4 w.heap.size (.string ⟨#[]⟩) (.int .i64 0) (.bool false) ∧ Below w.heap.size w w4) := ⟨F3.out.1.step b4, F3.out.2.1.trans (b4.mono F3.out.2.1.size)⟩
  clear b4 TL F3
  have rs := rowText_size 10 X K
  have kN : K ≤ 800 := len_dn HM.out.2.1 hj (by rw [← HX.out]; exact k2)
  have kH : K ≤ j + 500 := point_hi HM.out.2.1 (by rw [← HX.out]; exact k2) rfl
  have kL : j ≤ K + 500 := point_lo HM.out.1 hj (by rw [← HX.out]; exact k3) rfl
  obtain ⟨u, hv, hq, MK⟩ := row_made (e := -(j : Int)) k1 kN k2 k3 (by omega) (by omega)
  rw [show (- -(j : Int)).toNat = j from by omega, show (-(j : Int)).toNat = 0 from by omega] at hq
  have VV : Hid (VN u ((K : Int) + -(j : Int)) false ∧ nrP ((K : Int) + -(j : Int)) = (K : Int) + -(j : Int) ∧ vE (frN u ((K : Int) + -(j : Int))) (frD u ((K : Int) + -(j : Int))) 0 m (-(j : Int))) := ⟨hv, by unfold nrP; rw [if_neg (by omega), if_neg (by omega)], val_dn HX.out hq⟩
  unfold dcV at MK
  clear hv hq k1 k2 k3 HM HX
  generalize rowText 10 X K = rt at *
  go_wp2_with fail
  refine (MK _).mono ?_
  rintro o w5 ⟨rfl, b5⟩
  have F5 : Hid (DcB w5 w.heap.size (.string ⟨#[]⟩) (.int .i64 0) (.bool false) ∧ Below w.heap.size w w5) := ⟨F4.out.1.step b5, F4.out.2.trans (b5.mono F4.out.2.size)⟩
  clear b5 F4 MK
  obtain ⟨l5, a0, a1, a2, f0, f1, f2⟩ := F5.out.1
  go_wp2
  exact bodyPost_ret (v := .agg #[.string u, .int .i64 ((K : Int) + -(j : Int)), .bool false]) (by simp [results, Tryz.results51, go_sem, World.cell?_setCell_same, World.cell?_setCell_other, *]) rfl ⟨u, ((K : Int) + -(j : Int)), rfl, VV.out.1, VV.out.2.1, VV.out.2.2, (((F5.out.2.setCell (Nat.le_refl _) _).setCell (Nat.le_refl _) _).setCell (Nat.le_refl _) _).alloc (by simpa using F5.out.2.size) _⟩
end Go.Proofs.YtfoaeholbidngaaGreatDoor
