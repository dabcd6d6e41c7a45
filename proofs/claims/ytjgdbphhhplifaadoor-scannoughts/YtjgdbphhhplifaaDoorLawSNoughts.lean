/-
  The law ScanNoughts: the walk.
-/
import Derived.Test.YtjgdbphhhplifaaDoorScK
import Derived.Test.YtjgdbphhhplifaaDoorScN
import Derived.Test.YtjgdbphhhplifaaDoorScO
namespace Go.Proofs.YtjgdbphhhplifaaDoor
open Go.RowKit

theorem rem50 (m : Int) : ∃ (t : Int) (M : Nat), m.tmod 50 = t ∧ (t + 50).tmod 50 = (M : Int) ∧ M < 50 ∧ -50 < t ∧ t < 50 := by
  refine ⟨m.tmod 50, ((m.tmod 50 + 50).tmod 50).toNat, rfl, ?_, ?_, ?_, ?_⟩
  · have h1 := Int.lt_tmod_of_pos m (show (0 : Int) < 50 by omega)
    have h2 : 0 ≤ (m.tmod 50 + 50).tmod 50 := Int.tmod_nonneg 50 (by omega)
    omega
  · have h3 := Int.tmod_lt_of_pos (m.tmod 50 + 50) (show (0 : Int) < 50 by omega)
    omega
  · exact Int.lt_tmod_of_pos m (by omega)
  · exact Int.tmod_lt_of_pos m (by omega)
set_option maxRecDepth 100000 in
set_option maxHeartbeats 2000000 in
theorem noughts_a (s t : ByteArray) (e m : Int) (w : World) (DS : ∀ W, Calls Tryd.prog 18 #[.string s, .bool false] W fun e w' => e = .returned (.bool false) ∧ w' = W) : Calls Tryd.prog 7 #[.agg #[.string s, .string t, .int .i64 e, .int .i64 m]] w fun o w' => o = .returned (.bool true) ∧ Below w.heap.size w w' := by
  have WK := fun V => works_any V
  obtain ⟨r, M, hr, hM, m1, m2, m3⟩ := rem50 m
  go_enter Tryd.func7, Tryd.ntmps7
  go_wp2
  go_quiet (fail)
  go_wp2_with fail
  refine (DS _).mono ?_
  rintro o wx ⟨rfl, rfl⟩
  go_wp2_with fail
  refine (WK _).mono ?_
  rintro o w1 ⟨rfl, b1⟩
  go_wp2
  go_ret
  exact ⟨rfl, (below_drewN ((Below.refl _ _).alloc (Nat.le_refl _) _) _).trans (b1.mono (by simp))⟩
set_option maxRecDepth 100000 in
set_option maxHeartbeats 2000000 in
theorem noughts_b (s t : ByteArray) (e m : Int) (w : World) (DS : ∀ W, Calls Tryd.prog 18 #[.string s, .bool false] W fun e w' => e = .returned (.bool true) ∧ w' = W) (DT : ∀ W, Calls Tryd.prog 18 #[.string t, .bool false] W fun e w' => e = .returned (.bool false) ∧ w' = W) : Calls Tryd.prog 7 #[.agg #[.string s, .string t, .int .i64 e, .int .i64 m]] w fun o w' => o = .returned (.bool true) ∧ Below w.heap.size w w' := by
  have WK := fun V => works_any V
  obtain ⟨r, M, hr, hM, m1, m2, m3⟩ := rem50 m
  go_enter Tryd.func7, Tryd.ntmps7
  go_wp2
  go_quiet (fail)
  go_wp2_with fail
  refine (DS _).mono ?_
  rintro o wx ⟨rfl, rfl⟩
  go_wp2_with fail
  refine (DT _).mono ?_
  rintro o wx ⟨rfl, rfl⟩
  go_wp2_with fail
  refine (WK _).mono ?_
  rintro o w1 ⟨rfl, b1⟩
  go_wp2
  go_ret
  exact ⟨rfl, (below_drewN ((Below.refl _ _).alloc (Nat.le_refl _) _) _).trans (b1.mono (by simp))⟩
set_option maxRecDepth 100000 in
set_option maxHeartbeats 2000000 in
theorem noughts_c (s t : ByteArray) (e m : Int) (w : World) (DS : ∀ W, Calls Tryd.prog 18 #[.string s, .bool false] W fun e w' => e = .returned (.bool true) ∧ w' = W) (DT : ∀ W, Calls Tryd.prog 18 #[.string t, .bool false] W fun e w' => e = .returned (.bool true) ∧ w' = W) (hs : s.size ≤ 140737488355328) (ht : t.size ≤ 140737488355328) (hl : (2000 : Int) < (s.size : Int) + (t.size : Int)) : Calls Tryd.prog 7 #[.agg #[.string s, .string t, .int .i64 e, .int .i64 m]] w fun o w' => o = .returned (.bool true) ∧ Below w.heap.size w w' := by
  have WK := fun V => works_any V
  obtain ⟨r, M, hr, hM, m1, m2, m3⟩ := rem50 m
  go_enter Tryd.func7, Tryd.ntmps7
  go_wp2
  go_quiet (fail)
  go_wp2_with fail
  refine (DS _).mono ?_
  rintro o wx ⟨rfl, rfl⟩
  go_wp2_with fail
  refine (DT _).mono ?_
  rintro o wx ⟨rfl, rfl⟩
  go_wp2_with fail
  refine (WK _).mono ?_
  rintro o w1 ⟨rfl, b1⟩
  go_wp2
  go_ret
  exact ⟨rfl, (below_drewN ((Below.refl _ _).alloc (Nat.le_refl _) _) _).trans (b1.mono (by simp))⟩
set_option maxRecDepth 100000 in
set_option maxHeartbeats 2000000 in
theorem noughts_d (s t : ByteArray) (e m : Int) (w : World) (DS : ∀ W, Calls Tryd.prog 18 #[.string s, .bool false] W fun e w' => e = .returned (.bool true) ∧ w' = W) (DT : ∀ W, Calls Tryd.prog 18 #[.string t, .bool false] W fun e w' => e = .returned (.bool true) ∧ w' = W) (hl : ¬ (2000 : Int) < (s.size : Int) + (t.size : Int)) (he : (1073741824 : Int) < e) : Calls Tryd.prog 7 #[.agg #[.string s, .string t, .int .i64 e, .int .i64 m]] w fun o w' => o = .returned (.bool true) ∧ Below w.heap.size w w' := by
  have WK := fun V => works_any V
  obtain ⟨r, M, hr, hM, m1, m2, m3⟩ := rem50 m
  go_enter Tryd.func7, Tryd.ntmps7
  go_wp2
  go_quiet (fail)
  go_wp2_with fail
  refine (DS _).mono ?_
  rintro o wx ⟨rfl, rfl⟩
  go_wp2_with fail
  refine (DT _).mono ?_
  rintro o wx ⟨rfl, rfl⟩
  go_wp2_with fail
  refine (WK _).mono ?_
  rintro o w1 ⟨rfl, b1⟩
  go_wp2
  go_ret
  exact ⟨rfl, (below_drewN ((Below.refl _ _).alloc (Nat.le_refl _) _) _).trans (b1.mono (by simp))⟩
set_option maxRecDepth 100000 in
set_option maxHeartbeats 2000000 in
theorem noughts_e (s t : ByteArray) (e m : Int) (w : World) (DS : ∀ W, Calls Tryd.prog 18 #[.string s, .bool false] W fun e w' => e = .returned (.bool true) ∧ w' = W) (DT : ∀ W, Calls Tryd.prog 18 #[.string t, .bool false] W fun e w' => e = .returned (.bool true) ∧ w' = W) (hl : ¬ (2000 : Int) < (s.size : Int) + (t.size : Int)) (he : ¬ (1073741824 : Int) < e) (he2 : e < -1073741824) : Calls Tryd.prog 7 #[.agg #[.string s, .string t, .int .i64 e, .int .i64 m]] w fun o w' => o = .returned (.bool true) ∧ Below w.heap.size w w' := by
  have WK := fun V => works_any V
  obtain ⟨r, M, hr, hM, m1, m2, m3⟩ := rem50 m
  go_enter Tryd.func7, Tryd.ntmps7
  go_wp2
  go_quiet (fail)
  go_wp2_with fail
  refine (DS _).mono ?_
  rintro o wx ⟨rfl, rfl⟩
  go_wp2_with fail
  refine (DT _).mono ?_
  rintro o wx ⟨rfl, rfl⟩
  go_wp2_with fail
  refine (WK _).mono ?_
  rintro o w1 ⟨rfl, b1⟩
  go_wp2
  go_ret
  exact ⟨rfl, (below_drewN ((Below.refl _ _).alloc (Nat.le_refl _) _) _).trans (b1.mono (by simp))⟩
set_option maxRecDepth 100000 in
set_option maxHeartbeats 4000000 in
theorem noughts_main (W P : List UInt8) (h1 : ∀ c ∈ W, isD 10 c = true) (h2 : ∀ c ∈ P, isD 10 c = true) (e m : Int) (hl : W.length + P.length ≤ 2000) (he : -1073741824 ≤ e) (he2 : e ≤ 1073741824) (w : World)
    (DS : ∀ V, Calls Tryd.prog 18 #[.string (bl W), .bool false] V fun e w' => e = .returned (.bool true) ∧ w' = V)
    (DT : ∀ V, Calls Tryd.prog 18 #[.string (bl P), .bool false] V fun e w' => e = .returned (.bool true) ∧ w' = V) :
    Calls Tryd.prog 7 #[.agg #[.string (bl W), .string (bl P), .int .i64 e, .int .i64 m]] w fun o w' => o = .returned (.bool true) ∧ Below w.heap.size w w' := by
  have WK := fun V => works_any V
  obtain ⟨r, M, hr, hM, m1, m2, m3⟩ := rem50 m
  have D0 := fun V => dec_any W P (by omega) e V
  have D1 := fun V => dec_any (zrs M ++ W) (P ++ zrs M) (by simp only [List.length_append, zrs_len]; omega) e V
  have D2 := fun V => dec_any (W ++ P) [] (by simp only [List.length_append, List.length_nil]; omega) (e - P.length) V
  have D3 := fun V => dec_any [] (W ++ P) (by simp only [List.length_append, List.length_nil]; omega) (e + W.length) V
  rw [de_noughts h1 h2 M e] at D1
  rw [de_right h1 h2 he he2 hl, show bl [] = ⟨#[]⟩ from rfl] at D2
  rw [de_left h1 h2 he he2 hl, show bl [] = ⟨#[]⟩ from rfl] at D3
  have RV := fun V => rvald_yes (de_valid W P e) V
  unfold deV dcV at D0 D1 D2 D3
  unfold dcV at RV
  have eT := str_eq (bl (dcT W P))
  have a1 := bl_append (zrs M) W
  have a2 := bl_append P (zrs M)
  have a3 := bl_append W P
  have s1 : (bl W).size ≤ 2000 := by rw [bl_size]; omega
  have s2 : (bl P).size ≤ 2000 := by rw [bl_size]; omega
  have hsum : ¬ (2000 : Int) < ((bl W).size : Int) + ((bl P).size : Int) := by rw [bl_size, bl_size]; omega
  have s3 : (bl (zrs M)).size ≤ 50 := by rw [bl_size, zrs_len]; omega
  have HZ : Hid (∀ i, bl (zrs i) ++ ⟨#[48]⟩ = bl (zrs (i + 1)) ∧ (bl (zrs i)).size = i) := fun i => ⟨by rw [show (⟨#[48]⟩ : ByteArray) = bl [48] from rfl, bl_append, zrs_succ], zrs_len i⟩
  rw [show (P.length : Int) = ((bl P).size : Int) from rfl] at D2
  rw [show (W.length : Int) = ((bl W).size : Int) from rfl] at D3
  have w2 : wrap64 (e - ((bl P).size : Int)) = e - ((bl P).size : Int) := by unfold wrap64; omega
  have w3 : wrap64 (e + ((bl W).size : Int)) = e + ((bl W).size : Int) := by unfold wrap64; omega
  have f2 : IntKind.i64.wrap (e - ((bl P).size : Int)) = e - ((bl P).size : Int) := by
    unfold IntKind.wrap
    simp [IntKind.bits, IntKind.signed]
    omega
  have f3 : IntKind.i64.wrap (e + ((bl W).size : Int)) = e + ((bl W).size : Int) := by
    unfold IntKind.wrap
    simp [IntKind.bits, IntKind.signed]
    omega
  have he' : ¬ e < -1073741824 := by omega
  have he2' : ¬ (1073741824 : Int) < e := by omega
  clear h1 h2 hl he he2
  generalize bl (dcT W P) = T at *
  generalize dcP W P e = p at *
  generalize dcC W P = c at *
  generalize bl (zrs M ++ W) = u1 at *
  generalize bl (P ++ zrs M) = u2 at *
  generalize bl (W ++ P) = u3 at *
  generalize bl W = s at *
  generalize bl P = t at *
  go_enter Tryd.func7, Tryd.ntmps7
  go_wp2
  go_quiet (fail)
  go_wp2_with fail
  refine (DS _).mono ?_
  rintro o wx ⟨rfl, rfl⟩
  go_wp2_with fail
  refine (DT _).mono ?_
  rintro o wx ⟨rfl, rfl⟩
  go_wp2
  go_loop [7, 8] (fun zv iv => ∃ i : Nat, i ≤ M ∧ iv = .int .i64 (i : Int) ∧ zv = .string (bl (zrs i))) (fun _ iv => M - (intOf iv).toNat)
  case atStart => exact ⟨0, Nat.zero_le _, rfl, rfl⟩
  case round =>
    obtain ⟨i, hi, rfl, rfl⟩ := hrel
    by_cases c1 : i < M
    · have i1 : (i : Int) < (M : Int) := by omega
      have z1 := (HZ.out i).1
      have z2 : (bl (zrs i)).size ≤ 50 := by rw [(HZ.out i).2]; omega
      go_wp2
      go_round
      case rel => exact ⟨i + 1, by omega, by go_num, rfl⟩
      case measure => simp [intOf]; omega
    · obtain rfl : i = M := by omega
      have i1 : ¬ (i : Int) < (i : Int) := by omega
      generalize bl (zrs i) = z at *
      go_wp2_with fail
      refine (D0 _).mono ?_
      rintro o w1 ⟨rfl, b1⟩
      have B1 : Hid (Below w.heap.size w w1) := (below_drewN ((Below.refl _ _).alloc (Nat.le_refl _) _) _).trans (b1.mono (by simp))
      clear b1
      have X1 : Hid (Bx (w1.alloc (.cells #[.string T, .int .i64 p, .bool c] 23)) w1.heap.size #[.string T, .int .i64 p, .bool c]) := Bx.new _ _ _
      have x10 : (w1.alloc (.cells #[.string T, .int .i64 p, .bool c] 23)).cell? ⟨w1.heap.size, 0, none⟩ = some (.string T) := X1.out.cell 0
      have x11 : (w1.alloc (.cells #[.string T, .int .i64 p, .bool c] 23)).cell? ⟨w1.heap.size, 1, none⟩ = some (.int .i64 p) := X1.out.cell 1
      have x12 : (w1.alloc (.cells #[.string T, .int .i64 p, .bool c] 23)).cell? ⟨w1.heap.size, 2, none⟩ = some (.bool c) := X1.out.cell 2
      have eN : (T.toList != T.toList) = false := by simp
      have n1 : ¬ 9223372036854775807 < z.size + s.size := by omega
      have n2 : ¬ 9223372036854775807 < t.size + z.size := by omega
      have n3 : ¬ 9223372036854775807 < s.size + t.size := by omega
      have HWK : Hid (∀ V, Calls Tryd.prog 14 #[] V fun e w' => e = .returned (.bool true) ∧ Below V.heap.size V w') := WK
      have HRV : Hid (∀ V, Calls Tryd.prog 20 #[.agg #[.string T, .int .i64 p, .bool c]] V fun e w' => e = .returned (.int .i64 0) ∧ Below V.heap.size V w') := RV
      go_wp2
      clear WK RV D0 DS DT HZ hr hM m1 m2 m3 i1 hsum he' he2' w2 w3 hi c1
      go_region_held3 (fun w' => w'.cell? ⟨w1.heap.size, 0, none⟩ = some (.string T) ∧ w'.cell? ⟨w1.heap.size, 1, none⟩ = some (.int .i64 p) ∧ w'.cell? ⟨w1.heap.size, 2, none⟩ = some (.bool c)) (first | exact ⟨x40, x41, x42⟩ | exact ⟨x30, x31, x32⟩ | exact ⟨x20, x21, x22⟩ | exact ⟨x10, x11, x12⟩)
        (first
          | (go_at_call_of 15 (Value.string u1); refine (D1 _).mono ?_; rintro o w2 ⟨rfl, b2⟩; have X2 : Hid (Bx w2 w1.heap.size #[.string T, .int .i64 p, .bool c]) := X1.out.drew.step b2; have B2 : Hid (Below w.heap.size w w2) := (B1.out.alloc B1.out.size _).drew.trans (b2.mono (by have := B1.out.size; simp; omega)); clear b2; have x20 : w2.cell? ⟨w1.heap.size, 0, none⟩ = some (.string T) := X2.out.cell 0; have x21 : w2.cell? ⟨w1.heap.size, 1, none⟩ = some (.int .i64 p) := X2.out.cell 1; have x22 : w2.cell? ⟨w1.heap.size, 2, none⟩ = some (.bool c) := X2.out.cell 2)
          | (go_at_call_of 15 (Value.int .i64 (e - (t.size : Int))); refine (D2 _).mono ?_; rintro o w3 ⟨rfl, b3⟩; have X3 : Hid (Bx w3 w1.heap.size #[.string T, .int .i64 p, .bool c]) := X2.out.step b3; have B3 : Hid (Below w.heap.size w w3) := B2.out.trans (b3.mono B2.out.size); clear b3; have x30 : w3.cell? ⟨w1.heap.size, 0, none⟩ = some (.string T) := X3.out.cell 0; have x31 : w3.cell? ⟨w1.heap.size, 1, none⟩ = some (.int .i64 p) := X3.out.cell 1; have x32 : w3.cell? ⟨w1.heap.size, 2, none⟩ = some (.bool c) := X3.out.cell 2)
          | (go_at_call_of 15 (Value.int .i64 (e + (s.size : Int))); refine (D3 _).mono ?_; rintro o w4 ⟨rfl, b4⟩; have X4 : Hid (Bx w4 w1.heap.size #[.string T, .int .i64 p, .bool c]) := X3.out.step b4; have B4 : Hid (Below w.heap.size w w4) := B3.out.trans (b4.mono B3.out.size); clear b4; have x40 : w4.cell? ⟨w1.heap.size, 0, none⟩ = some (.string T) := X4.out.cell 0; have x41 : w4.cell? ⟨w1.heap.size, 1, none⟩ = some (.int .i64 p) := X4.out.cell 1; have x42 : w4.cell? ⟨w1.heap.size, 2, none⟩ = some (.bool c) := X4.out.cell 2))
      all_goals
        go_wp2_with fail
        refine (HRV.out _).mono ?_
        rintro o w5 ⟨rfl, b5⟩
        have B5 : Hid (Below w.heap.size w w5) := B4.out.trans (b5.mono B4.out.size)
        clear b5
        go_wp2_with fail
        refine (HWK.out _).mono ?_
        rintro o w6 ⟨rfl, b6⟩
        have B6 : Hid (Below w.heap.size w w6) := B5.out.trans (b6.mono B5.out.size)
        clear b6
        go_wp2
        go_ret
        exact ⟨rfl, B6.out⟩
theorem noughts_law (s t : ByteArray) (hs : s.size ≤ 140737488351232) (ht : t.size ≤ 140737488351232) (e m : Int) (w : World) : Calls Tryd.prog 7 #[.agg #[.string s, .string t, .int .i64 e, .int .i64 m]] w fun o w' => o = .returned (.bool true) ∧ Below w.heap.size w w' := by
  have DS := fun V => ldig_any s (by omega) false V
  have DT := fun V => ldig_any t (by omega) false V
  rcases Bool.eq_false_or_eq_true (alD false s.data.toList) with q1 | q1
  · rw [q1] at DS
    rcases Bool.eq_false_or_eq_true (alD false t.data.toList) with q2 | q2
    · rw [q2] at DT
      by_cases hl : (2000 : Int) < (s.size : Int) + (t.size : Int)
      · exact noughts_c s t e m w DS DT (by omega) (by omega) hl
      · by_cases he : (1073741824 : Int) < e
        · exact noughts_d s t e m w DS DT hl he
        · by_cases he2 : e < -1073741824
          · exact noughts_e s t e m w DS DT hl he he2
          · exact noughts_main s.data.toList t.data.toList (alD_mem q1) (alD_mem q2) e m (by have a : s.data.toList.length = s.size := rfl; have b : t.data.toList.length = t.size := rfl; omega) (by omega) (by omega) w DS DT
    · rw [q2] at DT
      exact noughts_b s t e m w DS DT
  · rw [q1] at DS
    exact noughts_a s t e m w DS
end Go.Proofs.YtjgdbphhhplifaaDoor
