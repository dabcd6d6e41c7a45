/-
  What the document's Digits and Tens of layer 13 answer: as the program's.
-/
import Derived.Test.YtlbbilldehlheaaDoorPwD
import Derived.Test.YtlbbilldehlheaaDoorPgL
import Derived.Test.YtlbbilldehlheaaDoorPgA
namespace Go.Proofs.YtlbbilldehlheaaDoor
open Go.RowKit

set_option maxRecDepth 100000 in
set_option maxHeartbeats 1000000 in
theorem rdigits_any (n : Int) (w : World) : Calls Tryd.prog 11 #[.int .i64 n] w fun e w' => e = .returned (.tuple #[.int .i64 (lgD n), .int .i64 (lgE n : Int)]) ∧ Below w.heap.size w w' := by
  unfold lgD lgE
  by_cases c : n < -1100 ∨ 1100 < n
  · rw [if_pos c, if_pos c]
    by_cases c1 : n < -1100
    · clear c
      go_enter Tryd.func11, Tryd.ntmps11
      go_wp2
      refine bodyPost_ret (v := .tuple #[.int .i64 0, .int .i64 1]) (by simp [results, Tryd.results11, go_sem]) rfl ⟨rfl, Below.refl _ _⟩
    · have c2 : 1100 < n := by omega
      clear c
      go_enter Tryd.func11, Tryd.ntmps11
      go_wp2
      refine bodyPost_ret (v := .tuple #[.int .i64 0, .int .i64 1]) (by simp [results, Tryd.results11, go_sem]) rfl ⟨rfl, Below.refl _ _⟩
  · rw [if_neg c, if_neg c]
    have td := td_log n (by omega) (by omega)
    obtain ⟨r, hr⟩ : ∃ r, r = n * 1292913986 / 4294967296 + 1 := ⟨_, rfl⟩
    rw [← hr] at td ⊢
    have c1 : ¬ n < -1100 := by omega
    have c2 : ¬ 1100 < n := by omega
    clear hr c
    rcases Int.lt_or_le n 0 with c3 | c3
    · obtain ⟨k, hk⟩ : ∃ k : Nat, -n = (k : Int) := ⟨(-n).toNat, by omega⟩
      have P := dpow_any 5 k (by omega) (by omega) (by omega) w
      simp only [Int.cast_ofNat_Int] at P
      have HT : Hid (Td n r ∧ n = -(k : Int)) := ⟨td, by omega⟩
      have hk2 : k ≤ 1100 := by omega
      clear td
      go_enter Tryd.func11, Tryd.ntmps11
      go_wp2_with fail
      refine P.mono ?_
      rintro e w1 ⟨v1, rfl, n1, b1⟩
      have DC := decimal_len n1 (Nat.ne_of_gt (Nat.pow_pos (by omega))) (dfits_pow (by omega) (by omega))
      have B1 : Hid (Below w.heap.size w w1) := b1
      clear P n1 b1
      go_wp2_with fail
      refine DC.mono ?_
      rintro e w2 ⟨t, rfl, dl, ht, b2⟩
      have B2 : Hid (Below w.heap.size w w2) := B1.out.trans (b2.mono B1.out.size)
      have HE : Hid ((t.size : Int) + n = r) := by
        obtain ⟨p0, p1, p2⟩ := dl_pos dl (Nat.ne_of_gt (Nat.pow_pos (by omega)))
        have q := td_neg p0 p1 p2
        rw [← HT.out.2] at q
        have u := q.uniq HT.out.1
        have := HT.out.2
        show _ = _
        omega
      clear dl b2 B1 DC
      go_wp2
      refine bodyPost_ret (v := .tuple #[.int .i64 ((t.size : Int) + n), .int .i64 0]) (by simp [results, Tryd.results11, go_sem]) rfl ⟨by rw [HE.out]; rfl, B2.out⟩
    · obtain ⟨k, hk⟩ : ∃ k : Nat, n = (k : Int) := ⟨n.toNat, by omega⟩
      have bA : Below w.heap.size w (w.alloc (.cells #[.int .u64 1] 22)) := (Below.refl _ _).alloc (Nat.le_refl _) _
      have U := dshl_new (dnat_one w) (two_fits (s := 0) (k := 1000) (by omega)) k (by omega)
      rw [← hk, Nat.one_mul] at U
      have HT : Hid (Td n r ∧ n = (k : Int)) := ⟨td, hk⟩
      have hk2 : k ≤ 1100 := by omega
      clear td hk
      go_enter Tryd.func11, Tryd.ntmps11
      go_wp2_with fail
      refine U.mono ?_
      rintro e w1 ⟨v1, rfl, n1, b1⟩
      have DC := decimal_len n1.nat (Nat.ne_of_gt (Nat.two_pow_pos k)) (dfits_pow (by omega) (by omega))
      have B1 : Hid (Below w.heap.size w w1) := bA.trans (b1.mono (by simp))
      clear U n1 b1 bA
      go_wp2_with fail
      refine DC.mono ?_
      rintro e w2 ⟨t, rfl, dl, ht, b2⟩
      have B2 : Hid (Below w.heap.size w w2) := B1.out.trans (b2.mono B1.out.size)
      have HE : Hid ((t.size : Int) = r) := by
        obtain ⟨p0, p1, p2⟩ := dl_pos dl (Nat.ne_of_gt (Nat.two_pow_pos k))
        have q := td_pos p0 p1 p2
        rw [← HT.out.2] at q
        exact q.uniq HT.out.1
      clear dl b2 B1 DC
      go_wp2
      refine bodyPost_ret (v := .tuple #[.int .i64 (t.size : Int), .int .i64 0]) (by simp [results, Tryd.results11, go_sem]) rfl ⟨by rw [HE.out]; rfl, B2.out⟩

theorem ten_bl {k : Nat} : 0 < bl (10 ^ k) ∧ 2 ^ (bl (10 ^ k) - 1) ≤ 10 ^ k ∧ 10 ^ k < 2 ^ (bl (10 ^ k) - 1 + 1) := by
  have x0 : 10 ^ k ≠ 0 := Nat.ne_of_gt (Nat.pow_pos (by omega))
  have p := bl_pos x0
  refine ⟨p, bl_le x0, ?_⟩
  rw [show bl (10 ^ k) - 1 + 1 = bl (10 ^ k) by omega]
  exact bl_lt _

set_option maxRecDepth 100000 in
set_option maxHeartbeats 1000000 in
theorem rtens_any (n : Int) (w : World) : Calls Tryd.prog 13 #[.int .i64 n] w fun e w' => e = .returned (.tuple #[.int .i64 (lgB n), .int .i64 (lgE n : Int)]) ∧ Below w.heap.size w w' := by
  unfold lgB lgE
  by_cases c : n < -1100 ∨ 1100 < n
  · rw [if_pos c, if_pos c]
    by_cases c1 : n < -1100
    · clear c
      go_enter Tryd.func13, Tryd.ntmps13
      go_wp2
      refine bodyPost_ret (v := .tuple #[.int .i64 0, .int .i64 1]) (by simp [results, Tryd.results13, go_sem]) rfl ⟨rfl, Below.refl _ _⟩
    · have c2 : 1100 < n := by omega
      clear c
      go_enter Tryd.func13, Tryd.ntmps13
      go_wp2
      refine bodyPost_ret (v := .tuple #[.int .i64 0, .int .i64 1]) (by simp [results, Tryd.results13, go_sem]) rfl ⟨rfl, Below.refl _ _⟩
  · rw [if_neg c, if_neg c]
    have td := fst_log n (by omega) (by omega)
    obtain ⟨r, hr⟩ : ∃ r, r = n * 14267572527 / 4294967296 := ⟨_, rfl⟩
    rw [← hr] at td ⊢
    have c1 : ¬ n < -1100 := by omega
    have c2 : ¬ 1100 < n := by omega
    clear hr c
    rcases Int.lt_or_le n 0 with c3 | c3
    · obtain ⟨k, hk⟩ : ∃ k : Nat, -n = (k : Int) := ⟨(-n).toNat, by omega⟩
      have P := dpow_any 10 k (by omega) (by omega) (by omega) w
      simp only [Int.cast_ofNat_Int] at P
      have HE : Hid (1 - (bl (10 ^ k) : Int) = r + 1) := by
        obtain ⟨p0, p1, p2⟩ := ten_bl (k := k)
        have q := fst_tenth (Nat.lt_of_le_of_ne p1 (ten_not_two (by omega))) p2
        rw [show -(k : Int) = n by omega] at q
        have u := q.uniq td
        show _ = _
        omega
      have FT : Fits 1000 (10 ^ k) := (dfits_pow (by omega) (by omega)).up (by omega)
      have hbf := bl_fits FT
      clear td
      go_enter Tryd.func13, Tryd.ntmps13
      go_wp2_with fail
      refine P.mono ?_
      rintro e w1 ⟨v1, rfl, n1, b1⟩
      have BT := dbits_nat n1 FT
      have B1 : Hid (Below w.heap.size w w1) := b1
      clear P n1 b1 FT
      generalize bl (10 ^ k) = L at *
      go_wp2_with fail
      refine BT.mono ?_
      rintro e w1 ⟨rfl, rfl⟩
      go_wp2
      refine bodyPost_ret (v := .tuple #[.int .i64 (1 - (L : Int)), .int .i64 0]) (by simp [results, Tryd.results13, go_sem]) rfl ⟨by rw [HE.out]; rfl, B1.out⟩
    · obtain ⟨k, hk⟩ : ∃ k : Nat, n = (k : Int) := ⟨n.toNat, by omega⟩
      have P := dpow_any 10 k (by omega) (by omega) (by omega) w
      simp only [Int.cast_ofNat_Int] at P
      rw [← hk] at P
      have HE : Hid ((bl (10 ^ k) : Int) = r + 1) := by
        obtain ⟨p0, p1, p2⟩ := ten_bl (k := k)
        have q := fst_ten p1 p2
        rw [← hk] at q
        have u := q.uniq td
        show _ = _
        omega
      have FT : Fits 1000 (10 ^ k) := (dfits_pow (by omega) (by omega)).up (by omega)
      clear td hk
      go_enter Tryd.func13, Tryd.ntmps13
      go_wp2_with fail
      refine P.mono ?_
      rintro e w1 ⟨v1, rfl, n1, b1⟩
      have BT := dbits_nat n1 FT
      have B1 : Hid (Below w.heap.size w w1) := b1
      clear P n1 b1 FT
      generalize bl (10 ^ k) = L at *
      go_wp2_with fail
      refine BT.mono ?_
      rintro e w1 ⟨rfl, rfl⟩
      go_wp2
      refine bodyPost_ret (v := .tuple #[.int .i64 (L : Int), .int .i64 0]) (by simp [results, Tryd.results13, go_sem]) rfl ⟨by rw [HE.out]; rfl, B1.out⟩

end Go.Proofs.YtlbbilldehlheaaDoor
