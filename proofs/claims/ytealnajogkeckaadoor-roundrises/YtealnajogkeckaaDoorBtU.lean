/-
  The document's Class and Unpack, for every size.
-/
import Derived.Test.YtealnajogkeckaaDoorBtR
namespace Go.Proofs.YtealnajogkeckaaDoor
open Go.RowKit

set_option maxRecDepth 100000 in
set_option maxHeartbeats 1000000 in
theorem runp_no {s : Int} (h : Sn s) (b : Int) (w : World) : Calls Tryd.prog 72 #[.int .u64 b, .int .i64 s] w fun e w' => e = .returned (.tuple #[.agg #[.bool false, .int .i64 0, .int .u64 0, .int .i64 0], .int .i64 5]) ∧ Below w.heap.size w w' := by
  have H := fun W => rcheck_no h b W
  go_enter Tryd.func72, Tryd.ntmps72
  go_wp2_with fail
  refine (H _).mono ?_
  rintro e w1 ⟨rfl, rfl⟩
  go_wp2
  exact bodyPost_ret (v := .tuple #[.agg #[.bool false, .int .i64 0, .int .u64 0, .int .i64 0], .int .i64 5]) (by simp [results, Tryd.results72, go_sem]) rfl ⟨rfl, (Below.refl _ _).alloc (Nat.le_refl _) _⟩
set_option maxRecDepth 100000 in
set_option maxHeartbeats 1000000 in
theorem runp_big {b : Nat} (h : 4294967296 ≤ b) (w : World) : Calls Tryd.prog 72 #[.int .u64 (b : Int), .int .i64 32] w fun e w' => e = .returned (.tuple #[.agg #[.bool false, .int .i64 0, .int .u64 0, .int .i64 0], .int .i64 1]) ∧ Below w.heap.size w w' := by
  have H := fun W => rcheck_big h W
  go_enter Tryd.func72, Tryd.ntmps72
  go_wp2_with fail
  refine (H _).mono ?_
  rintro e w1 ⟨rfl, rfl⟩
  go_wp2
  exact bodyPost_ret (v := .tuple #[.agg #[.bool false, .int .i64 0, .int .u64 0, .int .i64 0], .int .i64 1]) (by simp [results, Tryd.results72, go_sem]) rfl ⟨rfl, (Below.refl _ _).alloc (Nat.le_refl _) _⟩
set_option maxRecDepth 100000 in
set_option maxHeartbeats 1000000 in
theorem runp_32 {b : Nat} (h : b < 4294967296) (w : World) : Calls Tryd.prog 72 #[.int .u64 (b : Int), .int .i64 32] w fun e w' => e = .returned (.tuple #[.agg #[.bool (uN 2147483648 2139095040 b), .int .i64 (cl 2139095040 (mg 2147483648 b)), .int .u64 ((uM 2139095040 23 (mg 2147483648 b) : Nat) : Int), .int .i64 (uE 2139095040 23 (-149) (mg 2147483648 b))], .int .i64 0]) ∧ Below w.heap.size w w' := by
  have H := fun W => rcheck_32 h W
  have HO := fun W => rof_32 h W
  have HS := fun W => rsign_32 W
  have HP := fun W => rparts_32 h W
  have hA := and_sign_32 b h
  have hN : ((((if ng 2147483648 b then 2147483648 else 0 : Nat) : Int)) != 0) = ng 2147483648 b := by
    cases ng 2147483648 b <;> decide
  rw [← hA] at hN
  unfold uN uM uE
  generalize mg 2147483648 b = x at *
  generalize ng 2147483648 b = g at *
  generalize mt 23 x = M at *
  generalize xp 23 (-149) x = X at *
  have HQ : cl 2139095040 x = 1 ∨ cl 2139095040 x = 2 ∨ cl 2139095040 x = 3 ∨ cl 2139095040 x = 4 := by
    rcases cl_cases 2139095040 x with ⟨_, q⟩ | ⟨_, _, q⟩ | ⟨_, _, q⟩ | ⟨_, q⟩
    · exact .inl q
    · exact .inr (.inl q)
    · exact .inr (.inr (.inl q))
    · exact .inr (.inr (.inr q))
  generalize cl 2139095040 x = C at *
  obtain ⟨Y, hY⟩ : ∃ Y, bits BinOp.and IntKind.u64 (b : Int) 2147483648 = Y := ⟨_, rfl⟩
  rw [hY] at hN
  clear hA h
  rcases HQ with rfl | rfl | rfl | rfl
  · go_enter Tryd.func72, Tryd.ntmps72
    go_wp2_with fail
    refine (H _).mono ?_
    rintro e w1 ⟨rfl, hh⟩
    subst hh
    go_wp2_with fail
    refine (HS _).mono ?_
    rintro e w1 ⟨rfl, hh⟩
    subst hh
    go_wp2_with fail
    refine (HO _).mono ?_
    rintro e w1 ⟨rfl, hh⟩
    subst hh
    go_wp2
    exact bodyPost_ret (v := .tuple #[.agg #[.bool g, .int .i64 1, .int .u64 0, .int .i64 0], .int .i64 0]) (by simp [results, Tryd.results72, go_sem]) rfl ⟨rfl, ((Below.refl _ _).alloc (Nat.le_refl _) _).alloc (by simp) _⟩
  · go_enter Tryd.func72, Tryd.ntmps72
    go_wp2_with fail
    refine (H _).mono ?_
    rintro e w1 ⟨rfl, hh⟩
    subst hh
    go_wp2_with fail
    refine (HS _).mono ?_
    rintro e w1 ⟨rfl, hh⟩
    subst hh
    go_wp2_with fail
    refine (HO _).mono ?_
    rintro e w1 ⟨rfl, hh⟩
    subst hh
    go_wp2_with fail
    refine (HP _).mono ?_
    rintro e w1 ⟨rfl, hh⟩
    subst hh
    go_wp2
    exact bodyPost_ret (v := .tuple #[.agg #[.bool g, .int .i64 2, .int .u64 (M : Int), .int .i64 X], .int .i64 0]) (by simp [results, Tryd.results72, go_sem]) rfl ⟨rfl, ((Below.refl _ _).alloc (Nat.le_refl _) _).alloc (by simp) _⟩
  · go_enter Tryd.func72, Tryd.ntmps72
    go_wp2_with fail
    refine (H _).mono ?_
    rintro e w1 ⟨rfl, hh⟩
    subst hh
    go_wp2_with fail
    refine (HS _).mono ?_
    rintro e w1 ⟨rfl, hh⟩
    subst hh
    go_wp2_with fail
    refine (HO _).mono ?_
    rintro e w1 ⟨rfl, hh⟩
    subst hh
    go_wp2
    exact bodyPost_ret (v := .tuple #[.agg #[.bool g, .int .i64 3, .int .u64 0, .int .i64 0], .int .i64 0]) (by simp [results, Tryd.results72, go_sem]) rfl ⟨rfl, ((Below.refl _ _).alloc (Nat.le_refl _) _).alloc (by simp) _⟩
  · go_enter Tryd.func72, Tryd.ntmps72
    go_wp2_with fail
    refine (H _).mono ?_
    rintro e w1 ⟨rfl, hh⟩
    subst hh
    go_wp2_with fail
    refine (HS _).mono ?_
    rintro e w1 ⟨rfl, hh⟩
    subst hh
    go_wp2_with fail
    refine (HO _).mono ?_
    rintro e w1 ⟨rfl, hh⟩
    subst hh
    go_wp2
    exact bodyPost_ret (v := .tuple #[.agg #[.bool false, .int .i64 4, .int .u64 0, .int .i64 0], .int .i64 0]) (by simp [results, Tryd.results72, go_sem]) rfl ⟨rfl, ((Below.refl _ _).alloc (Nat.le_refl _) _).alloc (by simp) _⟩
set_option maxRecDepth 100000 in
set_option maxHeartbeats 1000000 in
theorem runp_64 {b : Nat} (h : b < 18446744073709551616) (w : World) : Calls Tryd.prog 72 #[.int .u64 (b : Int), .int .i64 64] w fun e w' => e = .returned (.tuple #[.agg #[.bool (uN 9223372036854775808 9218868437227405312 b), .int .i64 (cl 9218868437227405312 (mg 9223372036854775808 b)), .int .u64 ((uM 9218868437227405312 52 (mg 9223372036854775808 b) : Nat) : Int), .int .i64 (uE 9218868437227405312 52 (-1074) (mg 9223372036854775808 b))], .int .i64 0]) ∧ Below w.heap.size w w' := by
  have H := fun W => rcheck_64 (b : Int) W
  have HO := fun W => rof_64 h W
  have HS := fun W => rsign_64 W
  have HP := fun W => rparts_64 h W
  have hA := and_sign_64 b h
  have hN : ((((if ng 9223372036854775808 b then 9223372036854775808 else 0 : Nat) : Int)) != 0) = ng 9223372036854775808 b := by
    cases ng 9223372036854775808 b <;> decide
  rw [← hA] at hN
  unfold uN uM uE
  generalize mg 9223372036854775808 b = x at *
  generalize ng 9223372036854775808 b = g at *
  generalize mt 52 x = M at *
  generalize xp 52 (-1074) x = X at *
  have HQ : cl 9218868437227405312 x = 1 ∨ cl 9218868437227405312 x = 2 ∨ cl 9218868437227405312 x = 3 ∨ cl 9218868437227405312 x = 4 := by
    rcases cl_cases 9218868437227405312 x with ⟨_, q⟩ | ⟨_, _, q⟩ | ⟨_, _, q⟩ | ⟨_, q⟩
    · exact .inl q
    · exact .inr (.inl q)
    · exact .inr (.inr (.inl q))
    · exact .inr (.inr (.inr q))
  generalize cl 9218868437227405312 x = C at *
  obtain ⟨Y, hY⟩ : ∃ Y, bits BinOp.and IntKind.u64 (b : Int) 9223372036854775808 = Y := ⟨_, rfl⟩
  rw [hY] at hN
  clear hA h
  rcases HQ with rfl | rfl | rfl | rfl
  · go_enter Tryd.func72, Tryd.ntmps72
    go_wp2_with fail
    refine (H _).mono ?_
    rintro e w1 ⟨rfl, hh⟩
    subst hh
    go_wp2_with fail
    refine (HS _).mono ?_
    rintro e w1 ⟨rfl, hh⟩
    subst hh
    go_wp2_with fail
    refine (HO _).mono ?_
    rintro e w1 ⟨rfl, hh⟩
    subst hh
    go_wp2
    exact bodyPost_ret (v := .tuple #[.agg #[.bool g, .int .i64 1, .int .u64 0, .int .i64 0], .int .i64 0]) (by simp [results, Tryd.results72, go_sem]) rfl ⟨rfl, ((Below.refl _ _).alloc (Nat.le_refl _) _).alloc (by simp) _⟩
  · go_enter Tryd.func72, Tryd.ntmps72
    go_wp2_with fail
    refine (H _).mono ?_
    rintro e w1 ⟨rfl, hh⟩
    subst hh
    go_wp2_with fail
    refine (HS _).mono ?_
    rintro e w1 ⟨rfl, hh⟩
    subst hh
    go_wp2_with fail
    refine (HO _).mono ?_
    rintro e w1 ⟨rfl, hh⟩
    subst hh
    go_wp2_with fail
    refine (HP _).mono ?_
    rintro e w1 ⟨rfl, hh⟩
    subst hh
    go_wp2
    exact bodyPost_ret (v := .tuple #[.agg #[.bool g, .int .i64 2, .int .u64 (M : Int), .int .i64 X], .int .i64 0]) (by simp [results, Tryd.results72, go_sem]) rfl ⟨rfl, ((Below.refl _ _).alloc (Nat.le_refl _) _).alloc (by simp) _⟩
  · go_enter Tryd.func72, Tryd.ntmps72
    go_wp2_with fail
    refine (H _).mono ?_
    rintro e w1 ⟨rfl, hh⟩
    subst hh
    go_wp2_with fail
    refine (HS _).mono ?_
    rintro e w1 ⟨rfl, hh⟩
    subst hh
    go_wp2_with fail
    refine (HO _).mono ?_
    rintro e w1 ⟨rfl, hh⟩
    subst hh
    go_wp2
    exact bodyPost_ret (v := .tuple #[.agg #[.bool g, .int .i64 3, .int .u64 0, .int .i64 0], .int .i64 0]) (by simp [results, Tryd.results72, go_sem]) rfl ⟨rfl, ((Below.refl _ _).alloc (Nat.le_refl _) _).alloc (by simp) _⟩
  · go_enter Tryd.func72, Tryd.ntmps72
    go_wp2_with fail
    refine (H _).mono ?_
    rintro e w1 ⟨rfl, hh⟩
    subst hh
    go_wp2_with fail
    refine (HS _).mono ?_
    rintro e w1 ⟨rfl, hh⟩
    subst hh
    go_wp2_with fail
    refine (HO _).mono ?_
    rintro e w1 ⟨rfl, hh⟩
    subst hh
    go_wp2
    exact bodyPost_ret (v := .tuple #[.agg #[.bool false, .int .i64 4, .int .u64 0, .int .i64 0], .int .i64 0]) (by simp [results, Tryd.results72, go_sem]) rfl ⟨rfl, ((Below.refl _ _).alloc (Nat.le_refl _) _).alloc (by simp) _⟩
end Go.Proofs.YtealnajogkeckaaDoor
