/-
  What the program's calls of nat, dec, bits and round answer, as far as compare asks them.
-/
import Derived.Test.YtfoaeholbidngaaGreatDoorCp1
import Derived.Test.YtfoaeholbidngaaGreatDoorEx3b
namespace Go.Proofs.YtfoaeholbidngaaGreatDoor
open Go.RowKit

theorem ShB.start (w : World) (a b c d : Value) (T : TypeId) : ShB w (w.alloc (.cells #[a, b, c, d] T)) a b c d :=
  ⟨by simp, (Below.refl _ _).alloc (Nat.le_refl _) _, by simp, by simp, by simp, by simp⟩
set_option maxRecDepth 100000 in
set_option maxHeartbeats 1000000 in
theorem single_any (w : World) : Calls Tryz.prog 134 #[] w fun e w' => e = .returned (.agg #[.int .u64 2147483648, .int .u64 2139095040, .int .i64 23, .int .i64 (-149)]) ∧ Below w.heap.size w w' := by
  go_enter Tryz.func134, Tryz.ntmps134
  go_wp2
  exact bodyPost_ret (v := .agg #[.int .u64 2147483648, .int .u64 2139095040, .int .i64 23, .int .i64 (-149)]) (by simp [results, Tryz.results134, go_sem]) rfl ⟨rfl, (Below.refl _ _).alloc (Nat.le_refl _) _⟩
set_option maxRecDepth 100000 in
set_option maxHeartbeats 1000000 in
theorem double_any (w : World) : Calls Tryz.prog 135 #[] w fun e w' => e = .returned (.agg #[.int .u64 9223372036854775808, .int .u64 9218868437227405312, .int .i64 52, .int .i64 (-1074)]) ∧ Below w.heap.size w w' := by
  go_enter Tryz.func135, Tryz.ntmps135
  go_wp2
  exact bodyPost_ret (v := .agg #[.int .u64 9223372036854775808, .int .u64 9218868437227405312, .int .i64 52, .int .i64 (-1074)]) (by simp [results, Tryz.results135, go_sem]) rfl ⟨rfl, (Below.refl _ _).alloc (Nat.le_refl _) _⟩
set_option maxRecDepth 100000 in
set_option maxHeartbeats 1000000 in
theorem hidden_32 (w : World) : Calls Tryz.prog 163 #[.agg #[.int .u64 2147483648, .int .u64 2139095040, .int .i64 23, .int .i64 (-149)]] w fun e w' => e = .returned (.int .u64 8388608) ∧ Below w.heap.size w w' := by
  go_enter Tryz.func163, Tryz.ntmps163
  go_wp2
  go_ret
  exact ⟨rfl, (Below.refl _ _).alloc (Nat.le_refl _) _⟩
set_option maxRecDepth 100000 in
set_option maxHeartbeats 1000000 in
theorem most_32 (w : World) : Calls Tryz.prog 179 #[.agg #[.int .u64 2147483648, .int .u64 2139095040, .int .i64 23, .int .i64 (-149)]] w fun e w' => e = .returned (.int .i64 104) ∧ Below w.heap.size w w' := by
  go_enter Tryz.func179, Tryz.ntmps179
  go_wp2
  go_region_held3 (fun w' => w'.cell? ⟨w.heap.size, 1, none⟩ = some (.int .u64 2139095040) ∧ w'.cell? ⟨w.heap.size, 2, none⟩ = some (.int .i64 23) ∧ w'.cell? ⟨w.heap.size, 3, none⟩ = some (.int .i64 (-149))) (simp [*, go_sem]) (fail)
  go_wp2
  go_ret
  exact ⟨rfl, ((Below.refl _ _).alloc (Nat.le_refl _) _).drew⟩
set_option maxRecDepth 100000 in
set_option maxHeartbeats 1000000 in
theorem negative_32 {b : Nat} (h : b < 4294967296) (w : World) : Calls Tryz.prog 148 #[.agg #[.int .u64 2147483648, .int .u64 2139095040, .int .i64 23, .int .i64 (-149)], .int .u64 (b : Int)] w fun e w' => e = .returned (.bool (ng 2147483648 b)) ∧ Below w.heap.size w w' := by
  have hA := and_sign_32 b h
  cases q : ng 2147483648 b
  all_goals
    rw [q] at hA
    simp only [if_true, if_false, Bool.false_eq_true] at hA
    clear q h
    go_enter Tryz.func148, Tryz.ntmps148
    go_wp2
    go_ret
    exact ⟨rfl, (Below.refl _ _).alloc (Nat.le_refl _) _⟩
set_option maxRecDepth 100000 in
set_option maxHeartbeats 1000000 in
theorem magnitude_32 {b : Nat} (h : b < 4294967296) (w : World) : Calls Tryz.prog 150 #[.agg #[.int .u64 2147483648, .int .u64 2139095040, .int .i64 23, .int .i64 (-149)], .int .u64 (b : Int)] w fun e w' => e = .returned (.int .u64 ((mg 2147483648 b : Nat) : Int)) ∧ Below w.heap.size w w' := by
  have hA := andNot_32 b h
  clear h
  go_enter Tryz.func150, Tryz.ntmps150
  go_wp2
  go_ret
  exact ⟨rfl, (Below.refl _ _).alloc (Nat.le_refl _) _⟩
set_option maxRecDepth 100000 in
set_option maxHeartbeats 1000000 in
theorem signed_32 {x : Nat} (h : x < 2147483648) (c : Bool) (w : World) : Calls Tryz.prog 102 #[.agg #[.int .u64 2147483648, .int .u64 2139095040, .int .i64 23, .int .i64 (-149)], .int .u64 (x : Int), .bool c] w fun e w' => e = .returned (.int .u64 ((sgd 2147483648 c x : Nat) : Int)) ∧ Below w.heap.size w w' := by
  have hA := or_sign_32 h
  have H : Hid (sgd 2147483648 true x = x + 2147483648 ∧ sgd 2147483648 false x = x) := ⟨rfl, rfl⟩
  clear h
  cases c
  all_goals
    go_enter Tryz.func102, Tryz.ntmps102
    go_wp2
    go_ret
    exact ⟨rfl, (Below.refl _ _).alloc (Nat.le_refl _) _⟩
set_option maxRecDepth 100000 in
set_option maxHeartbeats 1000000 in
theorem class_32 {b : Nat} (h : b < 4294967296) (w : World) : Calls Tryz.prog 136 #[.agg #[.int .u64 2147483648, .int .u64 2139095040, .int .i64 23, .int .i64 (-149)], .int .u64 (b : Int)] w fun e w' => e = .returned (.int .i64 (cl 2139095040 (mg 2147483648 b))) ∧ Below w.heap.size w w' := by
  have HM := fun W => magnitude_32 h W
  have hl := mg_lt (g := 2147483648) (by decide) b
  generalize mg 2147483648 b = x at *
  have C := cl_cases 2139095040 x
  have C2 : (((x : Int) == 0) = true ∧ cl 2139095040 x = 1) ∨ (((x : Int) == 0) = false ∧ decide ((x : Int) < 2139095040) = true ∧ cl 2139095040 x = 2) ∨ (((x : Int) == 0) = false ∧ decide ((x : Int) < 2139095040) = false ∧ ((x : Int) == 2139095040) = true ∧ cl 2139095040 x = 3) ∨ (((x : Int) == 0) = false ∧ decide ((x : Int) < 2139095040) = false ∧ ((x : Int) == 2139095040) = false ∧ cl 2139095040 x = 4) := by
    rcases C with ⟨p, q⟩ | ⟨p0, p1, q⟩ | ⟨p0, p1, q⟩ | ⟨p1, q⟩
    · exact .inl ⟨by simp; omega, q⟩
    · exact .inr (.inl ⟨by simp; omega, by simp; omega, q⟩)
    · exact .inr (.inr (.inl ⟨by simp; omega, by simp; omega, by simp; omega, q⟩))
    · exact .inr (.inr (.inr ⟨by simp; omega, by simp; omega, by simp; omega, q⟩))
  clear C h hl
  generalize cl 2139095040 x = C at *
  rcases C2 with ⟨p0, rfl⟩ | ⟨p0, p1, rfl⟩ | ⟨p0, p1, p2, rfl⟩ | ⟨p0, p1, p2, rfl⟩
  all_goals
    go_enter Tryz.func136, Tryz.ntmps136
    go_wp2_with fail
    refine (HM _).mono ?_
    rintro e w1 ⟨rfl, hb⟩
    have T : Hid (ShB w w1 _ _ _ _) := (ShB.start w (.int .u64 2147483648) (.int .u64 2139095040) (.int .i64 23) (.int .i64 (-149)) 119).step hb
    clear hb
    obtain ⟨_, _, a0, a1, a2, a3⟩ := T.out
    go_wp2
    go_ret
    exact ⟨rfl, T.out.bel⟩
set_option maxRecDepth 100000 in
set_option maxHeartbeats 1000000 in
theorem fine_32 {x : Nat} (h : x < 2147483648) (w : World) : Calls Tryz.prog 149 #[.agg #[.int .u64 2147483648, .int .u64 2139095040, .int .i64 23, .int .i64 (-149)], .int .u64 (x : Int)] w fun e w' => e = .returned (.tuple #[.int .u64 ((mt 23 x : Nat) : Int), .int .i64 (xp 23 (-149) x)]) ∧ Below w.heap.size w w' := by
  have HH := fun W => hidden_32 W
  have hM := and_mask_32 (m := x) (by omega)
  have lo := Nat.mod_lt x (show 0 < 8388608 by decide)
  have hO := or_hid_32 lo
  have E1 : Hid (mt 23 x = if x / 8388608 = 0 then x else x % 8388608 + 8388608) := rfl
  have E2 : Hid (xp 23 (-149) x = if x / 8388608 = 0 then (-149) else (-149) + ((x / 8388608 : Nat) : Int) - 1) := rfl
  have E3 : Hid (x / 8388608 * 8388608 + x % 8388608 = x) := Nat.div_add_mod' x 8388608
  have hq : x / 8388608 < 2048 := by omega
  have eq : (x : Int) / 8388608 = ((x / 8388608 : Nat) : Int) := rfl
  obtain ⟨r, hr⟩ : ∃ r, r = x % 8388608 := ⟨_, rfl⟩
  obtain ⟨k, hk⟩ : ∃ k, k = x / 8388608 := ⟨_, rfl⟩
  rw [← hr] at hM hO lo E1 E3
  rw [← hk] at hq eq E1 E2 E3
  have HR : Hid (r = x % 8388608) := hr
  have HK : Hid (k = x / 8388608) := hk
  clear hr hk
  by_cases z : k = 0
  · have e0 : ((k : Int) == 0) = true := by simp; omega
    have F : Hid (mt 23 x = r ∧ xp 23 (-149) x = (-149)) := ⟨by rw [E1.out, if_pos z]; have := E3.out; rw [z] at this; omega, by rw [E2.out, if_pos z]⟩
    rw [F.out.1, F.out.2]
    clear z
    go_enter Tryz.func149, Tryz.ntmps149
    go_wp2_with fail
    refine (HH _).mono ?_
    rintro e w1 ⟨rfl, hb⟩
    have T : Hid (ShB w w1 _ _ _ _) := (ShB.start w (.int .u64 2147483648) (.int .u64 2139095040) (.int .i64 23) (.int .i64 (-149)) 119).step hb
    clear hb
    obtain ⟨_, _, a0, a1, a2, a3⟩ := T.out
    go_wp2
    go_region_held3 (fun w' => w'.cell? ⟨w.heap.size, 0, none⟩ = some (.int .u64 2147483648) ∧ w'.cell? ⟨w.heap.size, 1, none⟩ = some (.int .u64 2139095040) ∧ w'.cell? ⟨w.heap.size, 2, none⟩ = some (.int .i64 23) ∧ w'.cell? ⟨w.heap.size, 3, none⟩ = some (.int .i64 (-149))) (simp [*, go_sem]) (fail)
    go_wp2
    go_ret2
    exact ⟨rfl, T.out.bel.drew⟩
  · have e0 : ((k : Int) == 0) = false := by simp; omega
    have F : Hid (mt 23 x = r + 8388608 ∧ xp 23 (-149) x = (-149) + (k : Int) - 1) := ⟨by rw [E1.out, if_neg z], by rw [E2.out, if_neg z]⟩
    rw [F.out.1, F.out.2]
    have i1 : IntKind.i64.wrap ((-149) + (k : Int)) = (-149) + (k : Int) := IntWalk.i64_in _ ⟨by omega, by omega⟩
    have i2 : IntKind.i64.wrap ((-149) + (k : Int) - 1) = (-149) + (k : Int) - 1 := IntWalk.i64_in _ ⟨by omega, by omega⟩
    go_enter Tryz.func149, Tryz.ntmps149
    go_wp2_with fail
    refine (HH _).mono ?_
    rintro e w1 ⟨rfl, hb⟩
    have T : Hid (ShB w w1 _ _ _ _) := (ShB.start w (.int .u64 2147483648) (.int .u64 2139095040) (.int .i64 23) (.int .i64 (-149)) 119).step hb
    clear hb
    obtain ⟨_, _, a0, a1, a2, a3⟩ := T.out
    go_wp2
    go_region_held3 (fun w' => w'.cell? ⟨w.heap.size, 0, none⟩ = some (.int .u64 2147483648) ∧ w'.cell? ⟨w.heap.size, 1, none⟩ = some (.int .u64 2139095040) ∧ w'.cell? ⟨w.heap.size, 2, none⟩ = some (.int .i64 23) ∧ w'.cell? ⟨w.heap.size, 3, none⟩ = some (.int .i64 (-149))) (simp [*, go_sem])
      (first | (go_at_call 163; refine (HH _).mono ?_; rintro x w2 ⟨rfl, hb2⟩; have T2 : Hid (ShB w w2 _ _ _ _) := T.out.drew.step hb2; clear hb2; obtain ⟨_, _, b0, b1, b2, b3⟩ := T2.out))
    go_wp2
    go_ret2
    exact ⟨rfl, T2.out.bel⟩
set_option maxRecDepth 100000 in
set_option maxHeartbeats 1000000 in
theorem hidden_64 (w : World) : Calls Tryz.prog 163 #[.agg #[.int .u64 9223372036854775808, .int .u64 9218868437227405312, .int .i64 52, .int .i64 (-1074)]] w fun e w' => e = .returned (.int .u64 4503599627370496) ∧ Below w.heap.size w w' := by
  go_enter Tryz.func163, Tryz.ntmps163
  go_wp2
  go_ret
  exact ⟨rfl, (Below.refl _ _).alloc (Nat.le_refl _) _⟩
set_option maxRecDepth 100000 in
set_option maxHeartbeats 1000000 in
theorem most_64 (w : World) : Calls Tryz.prog 179 #[.agg #[.int .u64 9223372036854775808, .int .u64 9218868437227405312, .int .i64 52, .int .i64 (-1074)]] w fun e w' => e = .returned (.int .i64 971) ∧ Below w.heap.size w w' := by
  go_enter Tryz.func179, Tryz.ntmps179
  go_wp2
  go_region_held3 (fun w' => w'.cell? ⟨w.heap.size, 1, none⟩ = some (.int .u64 9218868437227405312) ∧ w'.cell? ⟨w.heap.size, 2, none⟩ = some (.int .i64 52) ∧ w'.cell? ⟨w.heap.size, 3, none⟩ = some (.int .i64 (-1074))) (simp [*, go_sem]) (fail)
  go_wp2
  go_ret
  exact ⟨rfl, ((Below.refl _ _).alloc (Nat.le_refl _) _).drew⟩
set_option maxRecDepth 100000 in
set_option maxHeartbeats 1000000 in
theorem negative_64 {b : Nat} (h : b < 18446744073709551616) (w : World) : Calls Tryz.prog 148 #[.agg #[.int .u64 9223372036854775808, .int .u64 9218868437227405312, .int .i64 52, .int .i64 (-1074)], .int .u64 (b : Int)] w fun e w' => e = .returned (.bool (ng 9223372036854775808 b)) ∧ Below w.heap.size w w' := by
  have hA := and_sign_64 b h
  cases q : ng 9223372036854775808 b
  all_goals
    rw [q] at hA
    simp only [if_true, if_false, Bool.false_eq_true] at hA
    clear q h
    go_enter Tryz.func148, Tryz.ntmps148
    go_wp2
    go_ret
    exact ⟨rfl, (Below.refl _ _).alloc (Nat.le_refl _) _⟩
set_option maxRecDepth 100000 in
set_option maxHeartbeats 1000000 in
theorem magnitude_64 {b : Nat} (h : b < 18446744073709551616) (w : World) : Calls Tryz.prog 150 #[.agg #[.int .u64 9223372036854775808, .int .u64 9218868437227405312, .int .i64 52, .int .i64 (-1074)], .int .u64 (b : Int)] w fun e w' => e = .returned (.int .u64 ((mg 9223372036854775808 b : Nat) : Int)) ∧ Below w.heap.size w w' := by
  have hA := andNot_64 b h
  clear h
  go_enter Tryz.func150, Tryz.ntmps150
  go_wp2
  go_ret
  exact ⟨rfl, (Below.refl _ _).alloc (Nat.le_refl _) _⟩
set_option maxRecDepth 100000 in
set_option maxHeartbeats 1000000 in
theorem signed_64 {x : Nat} (h : x < 9223372036854775808) (c : Bool) (w : World) : Calls Tryz.prog 102 #[.agg #[.int .u64 9223372036854775808, .int .u64 9218868437227405312, .int .i64 52, .int .i64 (-1074)], .int .u64 (x : Int), .bool c] w fun e w' => e = .returned (.int .u64 ((sgd 9223372036854775808 c x : Nat) : Int)) ∧ Below w.heap.size w w' := by
  have hA := or_sign_64 h
  have H : Hid (sgd 9223372036854775808 true x = x + 9223372036854775808 ∧ sgd 9223372036854775808 false x = x) := ⟨rfl, rfl⟩
  clear h
  cases c
  all_goals
    go_enter Tryz.func102, Tryz.ntmps102
    go_wp2
    go_ret
    exact ⟨rfl, (Below.refl _ _).alloc (Nat.le_refl _) _⟩
set_option maxRecDepth 100000 in
set_option maxHeartbeats 1000000 in
theorem class_64 {b : Nat} (h : b < 18446744073709551616) (w : World) : Calls Tryz.prog 136 #[.agg #[.int .u64 9223372036854775808, .int .u64 9218868437227405312, .int .i64 52, .int .i64 (-1074)], .int .u64 (b : Int)] w fun e w' => e = .returned (.int .i64 (cl 9218868437227405312 (mg 9223372036854775808 b))) ∧ Below w.heap.size w w' := by
  have HM := fun W => magnitude_64 h W
  have hl := mg_lt (g := 9223372036854775808) (by decide) b
  generalize mg 9223372036854775808 b = x at *
  have C := cl_cases 9218868437227405312 x
  have C2 : (((x : Int) == 0) = true ∧ cl 9218868437227405312 x = 1) ∨ (((x : Int) == 0) = false ∧ decide ((x : Int) < 9218868437227405312) = true ∧ cl 9218868437227405312 x = 2) ∨ (((x : Int) == 0) = false ∧ decide ((x : Int) < 9218868437227405312) = false ∧ ((x : Int) == 9218868437227405312) = true ∧ cl 9218868437227405312 x = 3) ∨ (((x : Int) == 0) = false ∧ decide ((x : Int) < 9218868437227405312) = false ∧ ((x : Int) == 9218868437227405312) = false ∧ cl 9218868437227405312 x = 4) := by
    rcases C with ⟨p, q⟩ | ⟨p0, p1, q⟩ | ⟨p0, p1, q⟩ | ⟨p1, q⟩
    · exact .inl ⟨by simp; omega, q⟩
    · exact .inr (.inl ⟨by simp; omega, by simp; omega, q⟩)
    · exact .inr (.inr (.inl ⟨by simp; omega, by simp; omega, by simp; omega, q⟩))
    · exact .inr (.inr (.inr ⟨by simp; omega, by simp; omega, by simp; omega, q⟩))
  clear C h hl
  generalize cl 9218868437227405312 x = C at *
  rcases C2 with ⟨p0, rfl⟩ | ⟨p0, p1, rfl⟩ | ⟨p0, p1, p2, rfl⟩ | ⟨p0, p1, p2, rfl⟩
  all_goals
    go_enter Tryz.func136, Tryz.ntmps136
    go_wp2_with fail
    refine (HM _).mono ?_
    rintro e w1 ⟨rfl, hb⟩
    have T : Hid (ShB w w1 _ _ _ _) := (ShB.start w (.int .u64 9223372036854775808) (.int .u64 9218868437227405312) (.int .i64 52) (.int .i64 (-1074)) 119).step hb
    clear hb
    obtain ⟨_, _, a0, a1, a2, a3⟩ := T.out
    go_wp2
    go_ret
    exact ⟨rfl, T.out.bel⟩
set_option maxRecDepth 100000 in
set_option maxHeartbeats 1000000 in
theorem fine_64 {x : Nat} (h : x < 9223372036854775808) (w : World) : Calls Tryz.prog 149 #[.agg #[.int .u64 9223372036854775808, .int .u64 9218868437227405312, .int .i64 52, .int .i64 (-1074)], .int .u64 (x : Int)] w fun e w' => e = .returned (.tuple #[.int .u64 ((mt 52 x : Nat) : Int), .int .i64 (xp 52 (-1074) x)]) ∧ Below w.heap.size w w' := by
  have HH := fun W => hidden_64 W
  have hM := and_mask_64 (m := x) (by omega)
  have lo := Nat.mod_lt x (show 0 < 4503599627370496 by decide)
  have hO := or_hid_64 lo
  have E1 : Hid (mt 52 x = if x / 4503599627370496 = 0 then x else x % 4503599627370496 + 4503599627370496) := rfl
  have E2 : Hid (xp 52 (-1074) x = if x / 4503599627370496 = 0 then (-1074) else (-1074) + ((x / 4503599627370496 : Nat) : Int) - 1) := rfl
  have E3 : Hid (x / 4503599627370496 * 4503599627370496 + x % 4503599627370496 = x) := Nat.div_add_mod' x 4503599627370496
  have hq : x / 4503599627370496 < 2048 := by omega
  have eq : (x : Int) / 4503599627370496 = ((x / 4503599627370496 : Nat) : Int) := rfl
  obtain ⟨r, hr⟩ : ∃ r, r = x % 4503599627370496 := ⟨_, rfl⟩
  obtain ⟨k, hk⟩ : ∃ k, k = x / 4503599627370496 := ⟨_, rfl⟩
  rw [← hr] at hM hO lo E1 E3
  rw [← hk] at hq eq E1 E2 E3
  have HR : Hid (r = x % 4503599627370496) := hr
  have HK : Hid (k = x / 4503599627370496) := hk
  clear hr hk
  by_cases z : k = 0
  · have e0 : ((k : Int) == 0) = true := by simp; omega
    have F : Hid (mt 52 x = r ∧ xp 52 (-1074) x = (-1074)) := ⟨by rw [E1.out, if_pos z]; have := E3.out; rw [z] at this; omega, by rw [E2.out, if_pos z]⟩
    rw [F.out.1, F.out.2]
    clear z
    go_enter Tryz.func149, Tryz.ntmps149
    go_wp2_with fail
    refine (HH _).mono ?_
    rintro e w1 ⟨rfl, hb⟩
    have T : Hid (ShB w w1 _ _ _ _) := (ShB.start w (.int .u64 9223372036854775808) (.int .u64 9218868437227405312) (.int .i64 52) (.int .i64 (-1074)) 119).step hb
    clear hb
    obtain ⟨_, _, a0, a1, a2, a3⟩ := T.out
    go_wp2
    go_region_held3 (fun w' => w'.cell? ⟨w.heap.size, 0, none⟩ = some (.int .u64 9223372036854775808) ∧ w'.cell? ⟨w.heap.size, 1, none⟩ = some (.int .u64 9218868437227405312) ∧ w'.cell? ⟨w.heap.size, 2, none⟩ = some (.int .i64 52) ∧ w'.cell? ⟨w.heap.size, 3, none⟩ = some (.int .i64 (-1074))) (simp [*, go_sem]) (fail)
    go_wp2
    go_ret2
    exact ⟨rfl, T.out.bel.drew⟩
  · have e0 : ((k : Int) == 0) = false := by simp; omega
    have F : Hid (mt 52 x = r + 4503599627370496 ∧ xp 52 (-1074) x = (-1074) + (k : Int) - 1) := ⟨by rw [E1.out, if_neg z], by rw [E2.out, if_neg z]⟩
    rw [F.out.1, F.out.2]
    have i1 : IntKind.i64.wrap ((-1074) + (k : Int)) = (-1074) + (k : Int) := IntWalk.i64_in _ ⟨by omega, by omega⟩
    have i2 : IntKind.i64.wrap ((-1074) + (k : Int) - 1) = (-1074) + (k : Int) - 1 := IntWalk.i64_in _ ⟨by omega, by omega⟩
    go_enter Tryz.func149, Tryz.ntmps149
    go_wp2_with fail
    refine (HH _).mono ?_
    rintro e w1 ⟨rfl, hb⟩
    have T : Hid (ShB w w1 _ _ _ _) := (ShB.start w (.int .u64 9223372036854775808) (.int .u64 9218868437227405312) (.int .i64 52) (.int .i64 (-1074)) 119).step hb
    clear hb
    obtain ⟨_, _, a0, a1, a2, a3⟩ := T.out
    go_wp2
    go_region_held3 (fun w' => w'.cell? ⟨w.heap.size, 0, none⟩ = some (.int .u64 9223372036854775808) ∧ w'.cell? ⟨w.heap.size, 1, none⟩ = some (.int .u64 9218868437227405312) ∧ w'.cell? ⟨w.heap.size, 2, none⟩ = some (.int .i64 52) ∧ w'.cell? ⟨w.heap.size, 3, none⟩ = some (.int .i64 (-1074))) (simp [*, go_sem])
      (first | (go_at_call 163; refine (HH _).mono ?_; rintro x w2 ⟨rfl, hb2⟩; have T2 : Hid (ShB w w2 _ _ _ _) := T.out.drew.step hb2; clear hb2; obtain ⟨_, _, b0, b1, b2, b3⟩ := T2.out))
    go_wp2
    go_ret2
    exact ⟨rfl, T2.out.bel⟩
theorem FlB.newAt (W : World) (a b c d : Value) (T : TypeId) {K : Nat} (h : K = W.heap.size) : FlB (W.alloc (.cells #[a, b, c, d] T)) K a b c d := by
  subst h; exact FlB.new W a b c d T
theorem FlB.al {W : World} {K : Nat} {a b c d : Value} (h : FlB W K a b c d) (o : Obj) : FlB (W.alloc o) K a b c d := h.step ((Below.refl _ _).alloc (Nat.le_refl _) _)
theorem FlB.far {W : World} {K : Nat} {a b c d : Value} (h : FlB W K a b c d) (p : Addr) (v : Value) (n : K ≠ p.block) : FlB (W.setCell p v) K a b c d := by
  have e : (W.setCell p v).heap[K]? = W.heap[K]? := Below.heap_setCell W p v K n
  have k := fun o => World.cell?_of_block (w := W) (w' := W.setCell p v) (a := ⟨K, o, none⟩) e
  have j := fun o => World.frozen?_of_block (w := W) (w' := W.setCell p v) (a := ⟨K, o, none⟩) e
  have z : K < (W.setCell p v).heap.size := by simpa using h.lt
  exact ⟨z, (k 0).trans h.a0, (k 1).trans h.a1, (k 2).trans h.a2, (k 3).trans h.a3, (j 0).trans h.f0, (j 1).trans h.f1, (j 2).trans h.f2, (j 3).trans h.f3⟩
theorem FlB.set0 {W : World} {K : Nat} {a b c d : Value} (h : FlB W K a b c d) (v : Value) : FlB (W.setCell ⟨K, 0, none⟩ v) K v b c d := by
  obtain ⟨z, a0, a1, a2, a3, f0, f1, f2, f3⟩ := h
  exact ⟨by simpa using z, World.cell?_setCell_same _ _ _ a0, (World.cell?_setCell_other _ ⟨K, 0, none⟩ ⟨K, 1, none⟩ v (by intro e; cases e)).trans a1, (World.cell?_setCell_other _ ⟨K, 0, none⟩ ⟨K, 2, none⟩ v (by intro e; cases e)).trans a2, (World.cell?_setCell_other _ ⟨K, 0, none⟩ ⟨K, 3, none⟩ v (by intro e; cases e)).trans a3, (World.frozen?_setCell ..).trans f0, (World.frozen?_setCell ..).trans f1, (World.frozen?_setCell ..).trans f2, (World.frozen?_setCell ..).trans f3⟩
theorem FlB.set1 {W : World} {K : Nat} {a b c d : Value} (h : FlB W K a b c d) (v : Value) : FlB (W.setCell ⟨K, 1, none⟩ v) K a v c d := by
  obtain ⟨z, a0, a1, a2, a3, f0, f1, f2, f3⟩ := h
  exact ⟨by simpa using z, (World.cell?_setCell_other _ ⟨K, 1, none⟩ ⟨K, 0, none⟩ v (by intro e; cases e)).trans a0, World.cell?_setCell_same _ _ _ a1, (World.cell?_setCell_other _ ⟨K, 1, none⟩ ⟨K, 2, none⟩ v (by intro e; cases e)).trans a2, (World.cell?_setCell_other _ ⟨K, 1, none⟩ ⟨K, 3, none⟩ v (by intro e; cases e)).trans a3, (World.frozen?_setCell ..).trans f0, (World.frozen?_setCell ..).trans f1, (World.frozen?_setCell ..).trans f2, (World.frozen?_setCell ..).trans f3⟩
theorem FlB.set2 {W : World} {K : Nat} {a b c d : Value} (h : FlB W K a b c d) (v : Value) : FlB (W.setCell ⟨K, 2, none⟩ v) K a b v d := by
  obtain ⟨z, a0, a1, a2, a3, f0, f1, f2, f3⟩ := h
  exact ⟨by simpa using z, (World.cell?_setCell_other _ ⟨K, 2, none⟩ ⟨K, 0, none⟩ v (by intro e; cases e)).trans a0, (World.cell?_setCell_other _ ⟨K, 2, none⟩ ⟨K, 1, none⟩ v (by intro e; cases e)).trans a1, World.cell?_setCell_same _ _ _ a2, (World.cell?_setCell_other _ ⟨K, 2, none⟩ ⟨K, 3, none⟩ v (by intro e; cases e)).trans a3, (World.frozen?_setCell ..).trans f0, (World.frozen?_setCell ..).trans f1, (World.frozen?_setCell ..).trans f2, (World.frozen?_setCell ..).trans f3⟩
set_option maxRecDepth 100000 in
set_option maxHeartbeats 1000000 in
theorem unpack_32 {b : Nat} (h : b < 4294967296) (w : World) : Calls Tryz.prog 115 #[.agg #[.int .u64 2147483648, .int .u64 2139095040, .int .i64 23, .int .i64 (-149)], .int .u64 (b : Int)] w fun e w' => e = .returned (.agg #[.bool (uN 2147483648 2139095040 b), .int .i64 (cl 2139095040 (mg 2147483648 b)), .int .u64 ((uM 2139095040 23 (mg 2147483648 b) : Nat) : Int), .int .i64 (uE 2139095040 23 (-149) (mg 2147483648 b))]) ∧ Below w.heap.size w w' := by
  have HN := fun W => negative_32 h W
  have HC := fun W => class_32 h W
  have HM := fun W => magnitude_32 h W
  have hl := mg_lt (g := 2147483648) (by decide) b
  have HF := fun W => fine_32 hl W
  unfold uN uM uE
  generalize mg 2147483648 b = x at *
  generalize ng 2147483648 b = c at *
  generalize mt 23 x = M at *
  generalize xp 23 (-149) x = X at *
  have HQ : Hid (cl 2139095040 x = 1 ∨ cl 2139095040 x = 2 ∨ cl 2139095040 x = 3 ∨ cl 2139095040 x = 4) := by
    rcases cl_cases 2139095040 x with ⟨_, q⟩ | ⟨_, _, q⟩ | ⟨_, _, q⟩ | ⟨_, q⟩
    · exact .inl q
    · exact .inr (.inl q)
    · exact .inr (.inr (.inl q))
    · exact .inr (.inr (.inr q))
  generalize cl 2139095040 x = C at *
  have H1 : Hid (FlB ((w.alloc (.cells #[.int .u64 2147483648, .int .u64 2139095040, .int .i64 23, .int .i64 (-149)] 119)).alloc (.cells #[.bool false, .int .i64 0, .int .u64 0, .int .i64 0] 90)) w.heap.size _ _ _ _) := (FlB.new w _ _ _ _ _).al _
  have H2 : Hid (FlB ((w.alloc (.cells #[.int .u64 2147483648, .int .u64 2139095040, .int .i64 23, .int .i64 (-149)] 119)).alloc (.cells #[.bool false, .int .i64 0, .int .u64 0, .int .i64 0] 90)) (w.heap.size + 1) _ _ _ _) := FlB.newAt _ _ _ _ _ _ (by simp)
  have HB : Hid (Below w.heap.size w ((w.alloc (.cells #[.int .u64 2147483648, .int .u64 2139095040, .int .i64 23, .int .i64 (-149)] 119)).alloc (.cells #[.bool false, .int .i64 0, .int .u64 0, .int .i64 0] 90))) := ((Below.refl _ _).alloc (Nat.le_refl _) _).alloc (by simp) _
  go_enter Tryz.func115, Tryz.ntmps115
  go_upto_region 1 with fail
  go_cut [5] (fun p wx => ∃ K, p = .pointer (some ⟨K, 0, none⟩) ∧ w.heap.size + 2 ≤ K ∧ Below w.heap.size w wx ∧ FlB wx w.heap.size (.int .u64 2147483648) (.int .u64 2139095040) (.int .i64 23) (.int .i64 (-149)) ∧ FlB wx (w.heap.size + 1) (.bool false) (.int .i64 0) (.int .u64 0) (.int .i64 0) ∧ FlB wx K (.bool c) (.int .i64 C) (.int .u64 0) (.int .i64 0))
  case first =>
    go_region_held3 (fun w' => w'.cell? ⟨w.heap.size, 0, none⟩ = some (.int .u64 2147483648) ∧ w'.cell? ⟨w.heap.size, 1, none⟩ = some (.int .u64 2139095040) ∧ w'.cell? ⟨w.heap.size, 2, none⟩ = some (.int .i64 23) ∧ w'.cell? ⟨w.heap.size, 3, none⟩ = some (.int .i64 (-149))) (simp [*, go_sem, World.cell?_alloc_lt])
      (first
        | (go_at_call 148; refine (HN _).mono ?_; rintro x1 w2 ⟨rfl, hb2⟩; obtain ⟨hc2, hf2⟩ := bcell hb2; have hz2 := hb2.size; (try simp at hz2); have y2 : w.heap.size < w2.heap.size := (by omega); have v2 : w.heap.size + 1 < w2.heap.size := (by omega); (first | (have u2 : w.heap.size + 1 + 1 < w2.heap.size := (by omega)) | skip); have HB2 : Hid (Below _ _ _) := hb2; clear hb2)
        | (go_at_call 136; refine (HC _).mono ?_; rintro x2 w3 ⟨rfl, hb3⟩; obtain ⟨hc3, hf3⟩ := bcell hb3; have hz3 := hb3.size; (try simp at hz3); have y3 : w.heap.size < w3.heap.size := (by omega); have v3 : w.heap.size + 1 < w3.heap.size := (by omega); have HB3 : Hid (Below _ _ _) := hb3; clear hb3))
    all_goals
      go_wp2_with fail
      go_meet
      first
        | exact ⟨w3.heap.size, rfl, by omega, (HB.out.drew.trans (HB2.out.mono (by simp; omega))).trans (HB3.out.mono (by omega)) |>.alloc (by omega) _, ((H1.out.drew.step HB2.out).step HB3.out).al _, ((H2.out.drew.step HB2.out).step HB3.out).al _, FlB.new _ _ _ _ _ _⟩
        | exact ⟨w2.heap.size, rfl, by omega, ((((((HB.out.drew.trans (HB2.out.mono (by simp; omega))).alloc (by omega) _).trans (HB3.out.mono (by simp; omega))).setCell (by show w.heap.size ≤ w2.heap.size; omega) _).setCell (by show w.heap.size ≤ w2.heap.size; omega) _).setCell (by show w.heap.size ≤ w2.heap.size; omega) _).setCell (by show w.heap.size ≤ w2.heap.size; omega) _, (((((H1.out.drew.step HB2.out).al _).step HB3.out).far _ _ (by show w.heap.size ≠ w2.heap.size; omega)).far _ _ (by show w.heap.size ≠ w2.heap.size; omega)).far _ _ (by show w.heap.size ≠ w2.heap.size; omega) |>.far _ _ (by show w.heap.size ≠ w2.heap.size; omega), (((((H2.out.drew.step HB2.out).al _).step HB3.out).far _ _ (by show w.heap.size + 1 ≠ w2.heap.size; omega)).far _ _ (by show w.heap.size + 1 ≠ w2.heap.size; omega)).far _ _ (by show w.heap.size + 1 ≠ w2.heap.size; omega) |>.far _ _ (by show w.heap.size + 1 ≠ w2.heap.size; omega), (((((FlB.new _ _ _ _ _ _).step HB3.out).set0 _).set1 _).set2 _).set3 _⟩
        | exact ⟨w.heap.size + 1 + 1, rfl, by omega, (((((HB.out.alloc (by simp; omega) _).drew.trans (HB2.out.mono (by simp; omega))).trans (HB3.out.mono (by omega))).setCell (by show w.heap.size ≤ w.heap.size + 1 + 1; omega) _).setCell (by show w.heap.size ≤ w.heap.size + 1 + 1; omega) _).setCell (by show w.heap.size ≤ w.heap.size + 1 + 1; omega) _ |>.setCell (by show w.heap.size ≤ w.heap.size + 1 + 1; omega) _, (((((H1.out.al _).drew.step HB2.out).step HB3.out).far _ _ (by show w.heap.size ≠ w.heap.size + 1 + 1; omega)).far _ _ (by show w.heap.size ≠ w.heap.size + 1 + 1; omega)).far _ _ (by show w.heap.size ≠ w.heap.size + 1 + 1; omega) |>.far _ _ (by show w.heap.size ≠ w.heap.size + 1 + 1; omega), (((((H2.out.al _).drew.step HB2.out).step HB3.out).far _ _ (by show w.heap.size + 1 ≠ w.heap.size + 1 + 1; omega)).far _ _ (by show w.heap.size + 1 ≠ w.heap.size + 1 + 1; omega)).far _ _ (by show w.heap.size + 1 ≠ w.heap.size + 1 + 1; omega) |>.far _ _ (by show w.heap.size + 1 ≠ w.heap.size + 1 + 1; omega), ((((((FlB.newAt _ _ _ _ _ _ (by simp)).drew.step HB2.out).step HB3.out).set0 _).set1 _).set2 _).set3 _⟩
  case rest =>
    clear H1 H2 HB HN HC
    obtain ⟨K, rfl, hK, bl, h1, h2, h3⟩ := hcut
    have BL : Hid (Below w.heap.size w wc) := bl
    have H1 : Hid (FlB _ _ _ _ _ _) := h1
    have H2 : Hid (FlB _ _ _ _ _ _) := h2
    have H3 : Hid (FlB _ _ _ _ _ _) := h3
    obtain ⟨l1, a0, a1, a2, a3, _, _, _, _⟩ := h1
    obtain ⟨l2, b0, b1, b2, b3, e0, e1, e2, e3⟩ := h2
    obtain ⟨l3, c0, c1, c2, c3, g0, g1, g2, g3⟩ := h3
    have n1 : ¬ K = w.heap.size + 1 := by omega
    have n2 : ¬ w.heap.size + 1 = K := by omega
    have n3 : ¬ K = w.heap.size := by omega
    have n4 : ¬ w.heap.size = K := by omega
    clear bl
    rcases HQ.out with q | q | q | q
    · subst q
      go_wp2
      refine bodyPost_ret (v := .agg #[.bool c, .int .i64 1, .int .u64 0, .int .i64 0]) (by simp [results, Tryz.results115, go_sem, World.cell?_setCell_same, World.cell?_setCell_other, *]) rfl ⟨rfl, ?_⟩
      exact (((BL.out.setCell (by show w.heap.size ≤ w.heap.size + 1; omega) _).setCell (by show w.heap.size ≤ w.heap.size + 1; omega) _).setCell (by show w.heap.size ≤ w.heap.size + 1; omega) _).setCell (by show w.heap.size ≤ w.heap.size + 1; omega) _
    · subst q
      go_wp2
      go_region_held3 (fun w' => w'.cell? ⟨w.heap.size, 0, none⟩ = some (.int .u64 2147483648) ∧ w'.cell? ⟨w.heap.size, 1, none⟩ = some (.int .u64 2139095040) ∧ w'.cell? ⟨w.heap.size, 2, none⟩ = some (.int .i64 23) ∧ w'.cell? ⟨w.heap.size, 3, none⟩ = some (.int .i64 (-149))) (simp [*, go_sem])
        (first
          | (go_at_call 150; refine (HM _).mono ?_; rintro x1 w4 ⟨rfl, hb4⟩; have H14 : Hid (FlB _ _ _ _ _ _) := H1.out.drew.step hb4; have H24 : Hid (FlB _ _ _ _ _ _) := H2.out.drew.step hb4; have H34 : Hid (FlB _ _ _ _ _ _) := H3.out.drew.step hb4; have B4 : Hid (Below w.heap.size w w4) := BL.out.drew.trans (hb4.mono (Nat.le_of_lt l1)); clear hb4; obtain ⟨l14, a04, a14, a24, a34, _, _, _, _⟩ := H14.out)
          | (go_at_call 149; refine (HF _).mono ?_; rintro x2 w5 ⟨rfl, hb5⟩; have H15 : Hid (FlB _ _ _ _ _ _) := H14.out.step hb5; have H25 : Hid (FlB _ _ _ _ _ _) := H24.out.step hb5; have H35 : Hid (FlB _ _ _ _ _ _) := H34.out.step hb5; have B5 : Hid (Below w.heap.size w w5) := B4.out.trans (hb5.mono (Nat.le_of_lt l14)); clear hb5; obtain ⟨l15, a05, a15, a25, a35, _, _, _, _⟩ := H15.out; obtain ⟨l25, b05, b15, b25, b35, e05, e15, e25, e35⟩ := H25.out; obtain ⟨l35, c05, c15, c25, c35, g05, g15, g25, g35⟩ := H35.out))
      all_goals
        go_wp2
        refine bodyPost_ret (v := .agg #[.bool c, .int .i64 2, .int .u64 (M : Int), .int .i64 X]) (by simp [results, Tryz.results115, go_sem, World.cell?_setCell_same, World.cell?_setCell_other, *]) rfl ⟨rfl, ?_⟩
        exact ((((((((((((B5.out).setCell (by show w.heap.size ≤ K; omega) _)).setCell (by show w.heap.size ≤ K; omega) _)).setCell (by show w.heap.size ≤ w.heap.size + 1; omega) _)).setCell (by show w.heap.size ≤ w.heap.size + 1; omega) _)).setCell (by show w.heap.size ≤ w.heap.size + 1; omega) _)).setCell (by show w.heap.size ≤ w.heap.size + 1; omega) _)
    · subst q
      go_wp2
      refine bodyPost_ret (v := .agg #[.bool c, .int .i64 3, .int .u64 0, .int .i64 0]) (by simp [results, Tryz.results115, go_sem, World.cell?_setCell_same, World.cell?_setCell_other, *]) rfl ⟨rfl, ?_⟩
      exact ((((((((BL.out).setCell (by show w.heap.size ≤ w.heap.size + 1; omega) _)).setCell (by show w.heap.size ≤ w.heap.size + 1; omega) _)).setCell (by show w.heap.size ≤ w.heap.size + 1; omega) _)).setCell (by show w.heap.size ≤ w.heap.size + 1; omega) _)
    · subst q
      go_wp2
      refine bodyPost_ret (v := .agg #[.bool false, .int .i64 4, .int .u64 0, .int .i64 0]) (by simp [results, Tryz.results115, go_sem, World.cell?_setCell_same, World.cell?_setCell_other, *]) rfl ⟨rfl, ?_⟩
      exact ((((((((((BL.out).setCell (by show w.heap.size ≤ K; omega) _)).setCell (by show w.heap.size ≤ w.heap.size + 1; omega) _)).setCell (by show w.heap.size ≤ w.heap.size + 1; omega) _)).setCell (by show w.heap.size ≤ w.heap.size + 1; omega) _)).setCell (by show w.heap.size ≤ w.heap.size + 1; omega) _)
set_option maxRecDepth 100000 in
set_option maxHeartbeats 1000000 in
theorem unpack_64 {b : Nat} (h : b < 18446744073709551616) (w : World) : Calls Tryz.prog 115 #[.agg #[.int .u64 9223372036854775808, .int .u64 9218868437227405312, .int .i64 52, .int .i64 (-1074)], .int .u64 (b : Int)] w fun e w' => e = .returned (.agg #[.bool (uN 9223372036854775808 9218868437227405312 b), .int .i64 (cl 9218868437227405312 (mg 9223372036854775808 b)), .int .u64 ((uM 9218868437227405312 52 (mg 9223372036854775808 b) : Nat) : Int), .int .i64 (uE 9218868437227405312 52 (-1074) (mg 9223372036854775808 b))]) ∧ Below w.heap.size w w' := by
  have HN := fun W => negative_64 h W
  have HC := fun W => class_64 h W
  have HM := fun W => magnitude_64 h W
  have hl := mg_lt (g := 9223372036854775808) (by decide) b
  have HF := fun W => fine_64 hl W
  unfold uN uM uE
  generalize mg 9223372036854775808 b = x at *
  generalize ng 9223372036854775808 b = c at *
  generalize mt 52 x = M at *
  generalize xp 52 (-1074) x = X at *
  have HQ : Hid (cl 9218868437227405312 x = 1 ∨ cl 9218868437227405312 x = 2 ∨ cl 9218868437227405312 x = 3 ∨ cl 9218868437227405312 x = 4) := by
    rcases cl_cases 9218868437227405312 x with ⟨_, q⟩ | ⟨_, _, q⟩ | ⟨_, _, q⟩ | ⟨_, q⟩
    · exact .inl q
    · exact .inr (.inl q)
    · exact .inr (.inr (.inl q))
    · exact .inr (.inr (.inr q))
  generalize cl 9218868437227405312 x = C at *
  have H1 : Hid (FlB ((w.alloc (.cells #[.int .u64 9223372036854775808, .int .u64 9218868437227405312, .int .i64 52, .int .i64 (-1074)] 119)).alloc (.cells #[.bool false, .int .i64 0, .int .u64 0, .int .i64 0] 90)) w.heap.size _ _ _ _) := (FlB.new w _ _ _ _ _).al _
  have H2 : Hid (FlB ((w.alloc (.cells #[.int .u64 9223372036854775808, .int .u64 9218868437227405312, .int .i64 52, .int .i64 (-1074)] 119)).alloc (.cells #[.bool false, .int .i64 0, .int .u64 0, .int .i64 0] 90)) (w.heap.size + 1) _ _ _ _) := FlB.newAt _ _ _ _ _ _ (by simp)
  have HB : Hid (Below w.heap.size w ((w.alloc (.cells #[.int .u64 9223372036854775808, .int .u64 9218868437227405312, .int .i64 52, .int .i64 (-1074)] 119)).alloc (.cells #[.bool false, .int .i64 0, .int .u64 0, .int .i64 0] 90))) := ((Below.refl _ _).alloc (Nat.le_refl _) _).alloc (by simp) _
  go_enter Tryz.func115, Tryz.ntmps115
  go_upto_region 1 with fail
  go_cut [5] (fun p wx => ∃ K, p = .pointer (some ⟨K, 0, none⟩) ∧ w.heap.size + 2 ≤ K ∧ Below w.heap.size w wx ∧ FlB wx w.heap.size (.int .u64 9223372036854775808) (.int .u64 9218868437227405312) (.int .i64 52) (.int .i64 (-1074)) ∧ FlB wx (w.heap.size + 1) (.bool false) (.int .i64 0) (.int .u64 0) (.int .i64 0) ∧ FlB wx K (.bool c) (.int .i64 C) (.int .u64 0) (.int .i64 0))
  case first =>
    go_region_held3 (fun w' => w'.cell? ⟨w.heap.size, 0, none⟩ = some (.int .u64 9223372036854775808) ∧ w'.cell? ⟨w.heap.size, 1, none⟩ = some (.int .u64 9218868437227405312) ∧ w'.cell? ⟨w.heap.size, 2, none⟩ = some (.int .i64 52) ∧ w'.cell? ⟨w.heap.size, 3, none⟩ = some (.int .i64 (-1074))) (simp [*, go_sem, World.cell?_alloc_lt])
      (first
        | (go_at_call 148; refine (HN _).mono ?_; rintro x1 w2 ⟨rfl, hb2⟩; obtain ⟨hc2, hf2⟩ := bcell hb2; have hz2 := hb2.size; (try simp at hz2); have y2 : w.heap.size < w2.heap.size := (by omega); have v2 : w.heap.size + 1 < w2.heap.size := (by omega); (first | (have u2 : w.heap.size + 1 + 1 < w2.heap.size := (by omega)) | skip); have HB2 : Hid (Below _ _ _) := hb2; clear hb2)
        | (go_at_call 136; refine (HC _).mono ?_; rintro x2 w3 ⟨rfl, hb3⟩; obtain ⟨hc3, hf3⟩ := bcell hb3; have hz3 := hb3.size; (try simp at hz3); have y3 : w.heap.size < w3.heap.size := (by omega); have v3 : w.heap.size + 1 < w3.heap.size := (by omega); have HB3 : Hid (Below _ _ _) := hb3; clear hb3))
    all_goals
      go_wp2_with fail
      go_meet
      first
        | exact ⟨w3.heap.size, rfl, by omega, (HB.out.drew.trans (HB2.out.mono (by simp; omega))).trans (HB3.out.mono (by omega)) |>.alloc (by omega) _, ((H1.out.drew.step HB2.out).step HB3.out).al _, ((H2.out.drew.step HB2.out).step HB3.out).al _, FlB.new _ _ _ _ _ _⟩
        | exact ⟨w2.heap.size, rfl, by omega, ((((((HB.out.drew.trans (HB2.out.mono (by simp; omega))).alloc (by omega) _).trans (HB3.out.mono (by simp; omega))).setCell (by show w.heap.size ≤ w2.heap.size; omega) _).setCell (by show w.heap.size ≤ w2.heap.size; omega) _).setCell (by show w.heap.size ≤ w2.heap.size; omega) _).setCell (by show w.heap.size ≤ w2.heap.size; omega) _, (((((H1.out.drew.step HB2.out).al _).step HB3.out).far _ _ (by show w.heap.size ≠ w2.heap.size; omega)).far _ _ (by show w.heap.size ≠ w2.heap.size; omega)).far _ _ (by show w.heap.size ≠ w2.heap.size; omega) |>.far _ _ (by show w.heap.size ≠ w2.heap.size; omega), (((((H2.out.drew.step HB2.out).al _).step HB3.out).far _ _ (by show w.heap.size + 1 ≠ w2.heap.size; omega)).far _ _ (by show w.heap.size + 1 ≠ w2.heap.size; omega)).far _ _ (by show w.heap.size + 1 ≠ w2.heap.size; omega) |>.far _ _ (by show w.heap.size + 1 ≠ w2.heap.size; omega), (((((FlB.new _ _ _ _ _ _).step HB3.out).set0 _).set1 _).set2 _).set3 _⟩
        | exact ⟨w.heap.size + 1 + 1, rfl, by omega, (((((HB.out.alloc (by simp; omega) _).drew.trans (HB2.out.mono (by simp; omega))).trans (HB3.out.mono (by omega))).setCell (by show w.heap.size ≤ w.heap.size + 1 + 1; omega) _).setCell (by show w.heap.size ≤ w.heap.size + 1 + 1; omega) _).setCell (by show w.heap.size ≤ w.heap.size + 1 + 1; omega) _ |>.setCell (by show w.heap.size ≤ w.heap.size + 1 + 1; omega) _, (((((H1.out.al _).drew.step HB2.out).step HB3.out).far _ _ (by show w.heap.size ≠ w.heap.size + 1 + 1; omega)).far _ _ (by show w.heap.size ≠ w.heap.size + 1 + 1; omega)).far _ _ (by show w.heap.size ≠ w.heap.size + 1 + 1; omega) |>.far _ _ (by show w.heap.size ≠ w.heap.size + 1 + 1; omega), (((((H2.out.al _).drew.step HB2.out).step HB3.out).far _ _ (by show w.heap.size + 1 ≠ w.heap.size + 1 + 1; omega)).far _ _ (by show w.heap.size + 1 ≠ w.heap.size + 1 + 1; omega)).far _ _ (by show w.heap.size + 1 ≠ w.heap.size + 1 + 1; omega) |>.far _ _ (by show w.heap.size + 1 ≠ w.heap.size + 1 + 1; omega), ((((((FlB.newAt _ _ _ _ _ _ (by simp)).drew.step HB2.out).step HB3.out).set0 _).set1 _).set2 _).set3 _⟩
  case rest =>
    clear H1 H2 HB HN HC
    obtain ⟨K, rfl, hK, bl, h1, h2, h3⟩ := hcut
    have BL : Hid (Below w.heap.size w wc) := bl
    have H1 : Hid (FlB _ _ _ _ _ _) := h1
    have H2 : Hid (FlB _ _ _ _ _ _) := h2
    have H3 : Hid (FlB _ _ _ _ _ _) := h3
    obtain ⟨l1, a0, a1, a2, a3, _, _, _, _⟩ := h1
    obtain ⟨l2, b0, b1, b2, b3, e0, e1, e2, e3⟩ := h2
    obtain ⟨l3, c0, c1, c2, c3, g0, g1, g2, g3⟩ := h3
    have n1 : ¬ K = w.heap.size + 1 := by omega
    have n2 : ¬ w.heap.size + 1 = K := by omega
    have n3 : ¬ K = w.heap.size := by omega
    have n4 : ¬ w.heap.size = K := by omega
    clear bl
    rcases HQ.out with q | q | q | q
    · subst q
      go_wp2
      refine bodyPost_ret (v := .agg #[.bool c, .int .i64 1, .int .u64 0, .int .i64 0]) (by simp [results, Tryz.results115, go_sem, World.cell?_setCell_same, World.cell?_setCell_other, *]) rfl ⟨rfl, ?_⟩
      exact (((BL.out.setCell (by show w.heap.size ≤ w.heap.size + 1; omega) _).setCell (by show w.heap.size ≤ w.heap.size + 1; omega) _).setCell (by show w.heap.size ≤ w.heap.size + 1; omega) _).setCell (by show w.heap.size ≤ w.heap.size + 1; omega) _
    · subst q
      go_wp2
      go_region_held3 (fun w' => w'.cell? ⟨w.heap.size, 0, none⟩ = some (.int .u64 9223372036854775808) ∧ w'.cell? ⟨w.heap.size, 1, none⟩ = some (.int .u64 9218868437227405312) ∧ w'.cell? ⟨w.heap.size, 2, none⟩ = some (.int .i64 52) ∧ w'.cell? ⟨w.heap.size, 3, none⟩ = some (.int .i64 (-1074))) (simp [*, go_sem])
        (first
          | (go_at_call 150; refine (HM _).mono ?_; rintro x1 w4 ⟨rfl, hb4⟩; have H14 : Hid (FlB _ _ _ _ _ _) := H1.out.drew.step hb4; have H24 : Hid (FlB _ _ _ _ _ _) := H2.out.drew.step hb4; have H34 : Hid (FlB _ _ _ _ _ _) := H3.out.drew.step hb4; have B4 : Hid (Below w.heap.size w w4) := BL.out.drew.trans (hb4.mono (Nat.le_of_lt l1)); clear hb4; obtain ⟨l14, a04, a14, a24, a34, _, _, _, _⟩ := H14.out)
          | (go_at_call 149; refine (HF _).mono ?_; rintro x2 w5 ⟨rfl, hb5⟩; have H15 : Hid (FlB _ _ _ _ _ _) := H14.out.step hb5; have H25 : Hid (FlB _ _ _ _ _ _) := H24.out.step hb5; have H35 : Hid (FlB _ _ _ _ _ _) := H34.out.step hb5; have B5 : Hid (Below w.heap.size w w5) := B4.out.trans (hb5.mono (Nat.le_of_lt l14)); clear hb5; obtain ⟨l15, a05, a15, a25, a35, _, _, _, _⟩ := H15.out; obtain ⟨l25, b05, b15, b25, b35, e05, e15, e25, e35⟩ := H25.out; obtain ⟨l35, c05, c15, c25, c35, g05, g15, g25, g35⟩ := H35.out))
      all_goals
        go_wp2
        refine bodyPost_ret (v := .agg #[.bool c, .int .i64 2, .int .u64 (M : Int), .int .i64 X]) (by simp [results, Tryz.results115, go_sem, World.cell?_setCell_same, World.cell?_setCell_other, *]) rfl ⟨rfl, ?_⟩
        exact ((((((((((((B5.out).setCell (by show w.heap.size ≤ K; omega) _)).setCell (by show w.heap.size ≤ K; omega) _)).setCell (by show w.heap.size ≤ w.heap.size + 1; omega) _)).setCell (by show w.heap.size ≤ w.heap.size + 1; omega) _)).setCell (by show w.heap.size ≤ w.heap.size + 1; omega) _)).setCell (by show w.heap.size ≤ w.heap.size + 1; omega) _)
    · subst q
      go_wp2
      refine bodyPost_ret (v := .agg #[.bool c, .int .i64 3, .int .u64 0, .int .i64 0]) (by simp [results, Tryz.results115, go_sem, World.cell?_setCell_same, World.cell?_setCell_other, *]) rfl ⟨rfl, ?_⟩
      exact ((((((((BL.out).setCell (by show w.heap.size ≤ w.heap.size + 1; omega) _)).setCell (by show w.heap.size ≤ w.heap.size + 1; omega) _)).setCell (by show w.heap.size ≤ w.heap.size + 1; omega) _)).setCell (by show w.heap.size ≤ w.heap.size + 1; omega) _)
    · subst q
      go_wp2
      refine bodyPost_ret (v := .agg #[.bool false, .int .i64 4, .int .u64 0, .int .i64 0]) (by simp [results, Tryz.results115, go_sem, World.cell?_setCell_same, World.cell?_setCell_other, *]) rfl ⟨rfl, ?_⟩
      exact ((((((((((BL.out).setCell (by show w.heap.size ≤ K; omega) _)).setCell (by show w.heap.size ≤ w.heap.size + 1; omega) _)).setCell (by show w.heap.size ≤ w.heap.size + 1; omega) _)).setCell (by show w.heap.size ≤ w.heap.size + 1; omega) _)).setCell (by show w.heap.size ≤ w.heap.size + 1; omega) _)
set_option maxRecDepth 100000 in
set_option maxHeartbeats 1000000 in
theorem shapeOf_no {s : Int} (h : Sn s) (w : World) : Calls Tryz.prog 101 #[.int .i64 s] w fun e w' => e = .returned (.tuple #[.agg #[.int .u64 0, .int .u64 0, .int .i64 0, .int .i64 0], .iface 74 (.int .i64 5)]) ∧ Below w.heap.size w w' := by
  have p1 : (s == 32) = false := by simpa using h.1
  have p2 : (s == 64) = false := by simpa using h.2
  clear h
  go_enter Tryz.func101, Tryz.ntmps101
  go_wp2
  exact bodyPost_ret (v := .tuple #[.agg #[.int .u64 0, .int .u64 0, .int .i64 0, .int .i64 0], .iface 74 (.int .i64 5)]) (by simp [results, Tryz.results101, go_sem]) rfl ⟨rfl, (Below.refl _ _).alloc (Nat.le_refl _) _⟩
set_option maxRecDepth 100000 in
set_option maxHeartbeats 1000000 in
theorem shapeOf_32 (w : World) : Calls Tryz.prog 101 #[.int .i64 32] w fun e w' => e = .returned (.tuple #[.agg #[.int .u64 2147483648, .int .u64 2139095040, .int .i64 23, .int .i64 (-149)], .nilIface]) ∧ Below w.heap.size w w' := by
  have H := fun W => single_any W
  go_enter Tryz.func101, Tryz.ntmps101
  go_wp2_with fail
  refine (H _).mono ?_
  rintro e w1 ⟨rfl, hb⟩
  have T : Hid (FlB w1 w.heap.size _ _ _ _) := (FlB.new w (.int .u64 0) (.int .u64 0) (.int .i64 0) (.int .i64 0) 119).step hb
  have B : Hid (Below w.heap.size w w1) := ((Below.refl _ _).alloc (Nat.le_refl _) _).trans (hb.mono (by simp))
  clear hb
  obtain ⟨l, a0, a1, a2, a3, f0, f1, f2, f3⟩ := T.out
  go_wp2
  exact bodyPost_ret (v := .tuple #[.agg #[.int .u64 2147483648, .int .u64 2139095040, .int .i64 23, .int .i64 (-149)], .nilIface]) (by simp [results, Tryz.results101, go_sem, World.cell?_setCell_same, World.cell?_setCell_other, *]) rfl ⟨rfl, (((B.out.setCell (Nat.le_refl _) _).setCell (Nat.le_refl _) _).setCell (Nat.le_refl _) _).setCell (Nat.le_refl _) _⟩
set_option maxRecDepth 100000 in
set_option maxHeartbeats 1000000 in
theorem shapeOf_64 (w : World) : Calls Tryz.prog 101 #[.int .i64 64] w fun e w' => e = .returned (.tuple #[.agg #[.int .u64 9223372036854775808, .int .u64 9218868437227405312, .int .i64 52, .int .i64 (-1074)], .nilIface]) ∧ Below w.heap.size w w' := by
  have H := fun W => double_any W
  go_enter Tryz.func101, Tryz.ntmps101
  go_wp2_with fail
  refine (H _).mono ?_
  rintro e w1 ⟨rfl, hb⟩
  have T : Hid (FlB w1 w.heap.size _ _ _ _) := (FlB.new w (.int .u64 0) (.int .u64 0) (.int .i64 0) (.int .i64 0) 119).step hb
  have B : Hid (Below w.heap.size w w1) := ((Below.refl _ _).alloc (Nat.le_refl _) _).trans (hb.mono (by simp))
  clear hb
  obtain ⟨l, a0, a1, a2, a3, f0, f1, f2, f3⟩ := T.out
  go_wp2
  exact bodyPost_ret (v := .tuple #[.agg #[.int .u64 9223372036854775808, .int .u64 9218868437227405312, .int .i64 52, .int .i64 (-1074)], .nilIface]) (by simp [results, Tryz.results101, go_sem, World.cell?_setCell_same, World.cell?_setCell_other, *]) rfl ⟨rfl, (((B.out.setCell (Nat.le_refl _) _).setCell (Nat.le_refl _) _).setCell (Nat.le_refl _) _).setCell (Nat.le_refl _) _⟩
set_option maxRecDepth 100000 in
set_option maxHeartbeats 1000000 in
theorem shapeFor_no {s : Int} (h : Sn s) (b : Int) (w : World) : Calls Tryz.prog 73 #[.int .u64 b, .int .i64 s] w fun e w' => e = .returned (.tuple #[.agg #[.int .u64 0, .int .u64 0, .int .i64 0, .int .i64 0], .iface 74 (.int .i64 5)]) ∧ Below w.heap.size w w' := by
  have H := fun W => shapeOf_no h W
  go_enter Tryz.func73, Tryz.ntmps73
  go_wp2_with fail
  refine (H _).mono ?_
  rintro e w1 ⟨rfl, hb⟩
  have T : Hid (FlB w1 w.heap.size _ _ _ _) := (FlB.new w (.int .u64 0) (.int .u64 0) (.int .i64 0) (.int .i64 0) 119).step hb
  have B : Hid (Below w.heap.size w w1) := ((Below.refl _ _).alloc (Nat.le_refl _) _).trans (hb.mono (by simp))
  clear hb
  obtain ⟨l, a0, a1, a2, a3, f0, f1, f2, f3⟩ := T.out
  go_wp2
  exact bodyPost_ret (v := .tuple #[.agg #[.int .u64 0, .int .u64 0, .int .i64 0, .int .i64 0], .iface 74 (.int .i64 5)]) (by simp [results, Tryz.results73, go_sem, World.cell?_setCell_same, World.cell?_setCell_other, World.cell?_alloc_lt, *]) rfl ⟨rfl, (((((B.out).setCell (Nat.le_refl _) _).setCell (Nat.le_refl _) _).setCell (Nat.le_refl _) _).setCell (Nat.le_refl _) _).alloc (by simp; omega) _⟩
set_option maxRecDepth 100000 in
set_option maxHeartbeats 1000000 in
theorem shapeFor_big {b : Nat} (h : 4294967296 ≤ b) (w : World) : Calls Tryz.prog 73 #[.int .u64 (b : Int), .int .i64 32] w fun e w' => e = .returned (.tuple #[.agg #[.int .u64 0, .int .u64 0, .int .i64 0, .int .i64 0], .iface 74 (.int .i64 1)]) ∧ Below w.heap.size w w' := by
  have H := fun W => shapeOf_32 W
  have hor : bits BinOp.or IntKind.u64 2147483648 2147483647 = 4294967295 := by decide
  have q : (4294967295 : Int) < (b : Int) := by omega
  go_enter Tryz.func73, Tryz.ntmps73
  go_wp2_with fail
  refine (H _).mono ?_
  rintro e w1 ⟨rfl, hb⟩
  have T : Hid (FlB w1 w.heap.size _ _ _ _) := (FlB.new w (.int .u64 0) (.int .u64 0) (.int .i64 0) (.int .i64 0) 119).step hb
  have B : Hid (Below w.heap.size w w1) := ((Below.refl _ _).alloc (Nat.le_refl _) _).trans (hb.mono (by simp))
  clear hb
  obtain ⟨l, a0, a1, a2, a3, f0, f1, f2, f3⟩ := T.out
  go_wp2
  exact bodyPost_ret (v := .tuple #[.agg #[.int .u64 0, .int .u64 0, .int .i64 0, .int .i64 0], .iface 74 (.int .i64 1)]) (by simp [results, Tryz.results73, go_sem, World.cell?_setCell_same, World.cell?_setCell_other, World.cell?_alloc_lt, *]) rfl ⟨rfl, (((((B.out).setCell (Nat.le_refl _) _).setCell (Nat.le_refl _) _).setCell (Nat.le_refl _) _).setCell (Nat.le_refl _) _).alloc (by simp; omega) _⟩
set_option maxRecDepth 100000 in
set_option maxHeartbeats 1000000 in
theorem shapeFor_32 {b : Nat} (h : b < 4294967296) (w : World) : Calls Tryz.prog 73 #[.int .u64 (b : Int), .int .i64 32] w fun e w' => e = .returned (.tuple #[.agg #[.int .u64 2147483648, .int .u64 2139095040, .int .i64 23, .int .i64 (-149)], .nilIface]) ∧ Below w.heap.size w w' := by
  have H := fun W => shapeOf_32 W
  have hor : bits BinOp.or IntKind.u64 2147483648 2147483647 = 4294967295 := by decide
  have q : ¬ (4294967295 : Int) < (b : Int) := by omega
  go_enter Tryz.func73, Tryz.ntmps73
  go_wp2_with fail
  refine (H _).mono ?_
  rintro e w1 ⟨rfl, hb⟩
  have T : Hid (FlB w1 w.heap.size _ _ _ _) := (FlB.new w (.int .u64 0) (.int .u64 0) (.int .i64 0) (.int .i64 0) 119).step hb
  have B : Hid (Below w.heap.size w w1) := ((Below.refl _ _).alloc (Nat.le_refl _) _).trans (hb.mono (by simp))
  clear hb
  obtain ⟨l, a0, a1, a2, a3, f0, f1, f2, f3⟩ := T.out
  go_wp2
  exact bodyPost_ret (v := .tuple #[.agg #[.int .u64 2147483648, .int .u64 2139095040, .int .i64 23, .int .i64 (-149)], .nilIface]) (by simp [results, Tryz.results73, go_sem, World.cell?_setCell_same, World.cell?_setCell_other, World.cell?_alloc_lt, *]) rfl ⟨rfl, (((((B.out).setCell (Nat.le_refl _) _).setCell (Nat.le_refl _) _).setCell (Nat.le_refl _) _).setCell (Nat.le_refl _) _).alloc (by simp; omega) _⟩
set_option maxRecDepth 100000 in
set_option maxHeartbeats 1000000 in
theorem shapeFor_64 {b : Nat} (h : b < 18446744073709551616) (w : World) : Calls Tryz.prog 73 #[.int .u64 (b : Int), .int .i64 64] w fun e w' => e = .returned (.tuple #[.agg #[.int .u64 9223372036854775808, .int .u64 9218868437227405312, .int .i64 52, .int .i64 (-1074)], .nilIface]) ∧ Below w.heap.size w w' := by
  have H := fun W => shapeOf_64 W
  have hor : bits BinOp.or IntKind.u64 9223372036854775808 9223372036854775807 = 18446744073709551615 := by decide
  have q : ¬ (18446744073709551615 : Int) < (b : Int) := by omega
  go_enter Tryz.func73, Tryz.ntmps73
  go_wp2_with fail
  refine (H _).mono ?_
  rintro e w1 ⟨rfl, hb⟩
  have T : Hid (FlB w1 w.heap.size _ _ _ _) := (FlB.new w (.int .u64 0) (.int .u64 0) (.int .i64 0) (.int .i64 0) 119).step hb
  have B : Hid (Below w.heap.size w w1) := ((Below.refl _ _).alloc (Nat.le_refl _) _).trans (hb.mono (by simp))
  clear hb
  obtain ⟨l, a0, a1, a2, a3, f0, f1, f2, f3⟩ := T.out
  go_wp2
  exact bodyPost_ret (v := .tuple #[.agg #[.int .u64 9223372036854775808, .int .u64 9218868437227405312, .int .i64 52, .int .i64 (-1074)], .nilIface]) (by simp [results, Tryz.results73, go_sem, World.cell?_setCell_same, World.cell?_setCell_other, World.cell?_alloc_lt, *]) rfl ⟨rfl, (((((B.out).setCell (Nat.le_refl _) _).setCell (Nat.le_refl _) _).setCell (Nat.le_refl _) _).setCell (Nat.le_refl _) _).alloc (by simp; omega) _⟩
set_option maxRecDepth 100000 in
set_option maxHeartbeats 1000000 in
theorem check_no {s : Int} (h : Sn s) (b : Int) (w : World) : Calls Tryz.prog 39 #[.int .u64 b, .int .i64 s] w fun e w' => e = .returned (.iface 74 (.int .i64 5)) ∧ Below w.heap.size w w' := by
  have H := fun W => shapeFor_no h b W
  clear h
  go_enter Tryz.func39, Tryz.ntmps39
  go_wp2_with fail
  refine (H _).mono ?_
  rintro e w1 ⟨rfl, hb⟩
  have B : Hid (Below w.heap.size w w1) := hb
  have l := hb.size
  clear hb
  go_wp2
  go_ret
  exact ⟨rfl, B.out.alloc l _⟩
set_option maxRecDepth 100000 in
set_option maxHeartbeats 1000000 in
theorem check_32 {b : Nat} (h : b < 4294967296) (w : World) : Calls Tryz.prog 39 #[.int .u64 (b : Int), .int .i64 32] w fun e w' => e = .returned (.nilIface) ∧ Below w.heap.size w w' := by
  have H := fun W => shapeFor_32 h W
  clear h
  go_enter Tryz.func39, Tryz.ntmps39
  go_wp2_with fail
  refine (H _).mono ?_
  rintro e w1 ⟨rfl, hb⟩
  have B : Hid (Below w.heap.size w w1) := hb
  have l := hb.size
  clear hb
  go_wp2
  go_ret
  exact ⟨rfl, B.out.alloc l _⟩
set_option maxRecDepth 100000 in
set_option maxHeartbeats 1000000 in
theorem check_64 {b : Nat} (h : b < 18446744073709551616) (w : World) : Calls Tryz.prog 39 #[.int .u64 (b : Int), .int .i64 64] w fun e w' => e = .returned (.nilIface) ∧ Below w.heap.size w w' := by
  have H := fun W => shapeFor_64 h W
  clear h
  go_enter Tryz.func39, Tryz.ntmps39
  go_wp2_with fail
  refine (H _).mono ?_
  rintro e w1 ⟨rfl, hb⟩
  have B : Hid (Below w.heap.size w w1) := hb
  have l := hb.size
  clear hb
  go_wp2
  go_ret
  exact ⟨rfl, B.out.alloc l _⟩
set_option maxRecDepth 100000 in
set_option maxHeartbeats 1000000 in
theorem cls_32 {b : Nat} (h : b < 4294967296) (w : World) : Calls Tryz.prog 103 #[.int .u64 (b : Int), .int .i64 32] w fun e w' => e = .returned (.tuple #[.int .i64 (cl 2139095040 (mg 2147483648 b)), .nilIface]) ∧ Below w.heap.size w w' := by
  have H := fun W => shapeFor_32 h W
  have HC := fun W => class_32 h W
  clear h
  go_enter Tryz.func103, Tryz.ntmps103
  go_wp2_with fail
  refine (H _).mono ?_
  rintro e w1 ⟨rfl, hb⟩
  have B : Hid (Below w.heap.size w w1) := hb
  have l := hb.size
  clear hb
  go_wp2_with fail
  refine (HC _).mono ?_
  rintro e w2 ⟨rfl, hb⟩
  have B2 : Hid (Below w.heap.size w w2) := (B.out.alloc l _).trans (hb.mono (by simp; omega))
  clear hb
  go_wp2
  go_ret2
  exact ⟨rfl, B2.out⟩
set_option maxRecDepth 100000 in
set_option maxHeartbeats 1000000 in
theorem cls_64 {b : Nat} (h : b < 18446744073709551616) (w : World) : Calls Tryz.prog 103 #[.int .u64 (b : Int), .int .i64 64] w fun e w' => e = .returned (.tuple #[.int .i64 (cl 9218868437227405312 (mg 9223372036854775808 b)), .nilIface]) ∧ Below w.heap.size w w' := by
  have H := fun W => shapeFor_64 h W
  have HC := fun W => class_64 h W
  clear h
  go_enter Tryz.func103, Tryz.ntmps103
  go_wp2_with fail
  refine (H _).mono ?_
  rintro e w1 ⟨rfl, hb⟩
  have B : Hid (Below w.heap.size w w1) := hb
  have l := hb.size
  clear hb
  go_wp2_with fail
  refine (HC _).mono ?_
  rintro e w2 ⟨rfl, hb⟩
  have B2 : Hid (Below w.heap.size w w2) := (B.out.alloc l _).trans (hb.mono (by simp; omega))
  clear hb
  go_wp2
  go_ret2
  exact ⟨rfl, B2.out⟩
set_option maxRecDepth 100000 in
set_option maxHeartbeats 1000000 in
theorem unp_no {s : Int} (h : Sn s) (b : Int) (w : World) : Calls Tryz.prog 80 #[.int .u64 b, .int .i64 s] w fun e w' => e = .returned (.tuple #[.agg #[.bool false, .int .i64 0, .int .u64 0, .int .i64 0], .iface 74 (.int .i64 5)]) ∧ Below w.heap.size w w' := by
  have H := fun W => shapeFor_no h b W
  clear h
  go_enter Tryz.func80, Tryz.ntmps80
  go_wp2_with fail
  refine (H _).mono ?_
  rintro e w1 ⟨rfl, hb⟩
  have T : Hid (FlB w1 w.heap.size _ _ _ _) := (FlB.new w (.bool false) (.int .i64 0) (.int .u64 0) (.int .i64 0) 90).step hb
  have B : Hid (Below w.heap.size w w1) := ((Below.refl _ _).alloc (Nat.le_refl _) _).trans (hb.mono (by simp))
  clear hb
  obtain ⟨l, a0, a1, a2, a3, f0, f1, f2, f3⟩ := T.out
  go_wp2
  exact bodyPost_ret (v := .tuple #[.agg #[.bool false, .int .i64 0, .int .u64 0, .int .i64 0], .iface 74 (.int .i64 5)]) (by simp [results, Tryz.results80, go_sem, World.cell?_setCell_same, World.cell?_setCell_other, World.cell?_alloc_lt, *]) rfl ⟨rfl, (((((B.out).setCell (Nat.le_refl _) _).setCell (Nat.le_refl _) _).setCell (Nat.le_refl _) _).setCell (Nat.le_refl _) _).alloc (by simp; omega) _⟩
set_option maxRecDepth 100000 in
set_option maxHeartbeats 1000000 in
theorem unp_big {b : Nat} (h : 4294967296 ≤ b) (w : World) : Calls Tryz.prog 80 #[.int .u64 (b : Int), .int .i64 32] w fun e w' => e = .returned (.tuple #[.agg #[.bool false, .int .i64 0, .int .u64 0, .int .i64 0], .iface 74 (.int .i64 1)]) ∧ Below w.heap.size w w' := by
  have H := fun W => shapeFor_big h W
  clear h
  go_enter Tryz.func80, Tryz.ntmps80
  go_wp2_with fail
  refine (H _).mono ?_
  rintro e w1 ⟨rfl, hb⟩
  have T : Hid (FlB w1 w.heap.size _ _ _ _) := (FlB.new w (.bool false) (.int .i64 0) (.int .u64 0) (.int .i64 0) 90).step hb
  have B : Hid (Below w.heap.size w w1) := ((Below.refl _ _).alloc (Nat.le_refl _) _).trans (hb.mono (by simp))
  clear hb
  obtain ⟨l, a0, a1, a2, a3, f0, f1, f2, f3⟩ := T.out
  go_wp2
  exact bodyPost_ret (v := .tuple #[.agg #[.bool false, .int .i64 0, .int .u64 0, .int .i64 0], .iface 74 (.int .i64 1)]) (by simp [results, Tryz.results80, go_sem, World.cell?_setCell_same, World.cell?_setCell_other, World.cell?_alloc_lt, *]) rfl ⟨rfl, (((((B.out).setCell (Nat.le_refl _) _).setCell (Nat.le_refl _) _).setCell (Nat.le_refl _) _).setCell (Nat.le_refl _) _).alloc (by simp; omega) _⟩
set_option maxRecDepth 100000 in
set_option maxHeartbeats 1000000 in
theorem unp_32 {b : Nat} (h : b < 4294967296) (w : World) : Calls Tryz.prog 80 #[.int .u64 (b : Int), .int .i64 32] w fun e w' => e = .returned (.tuple #[.agg #[.bool (uN 2147483648 2139095040 b), .int .i64 (cl 2139095040 (mg 2147483648 b)), .int .u64 ((uM 2139095040 23 (mg 2147483648 b) : Nat) : Int), .int .i64 (uE 2139095040 23 (-149) (mg 2147483648 b))], .nilIface]) ∧ Below w.heap.size w w' := by
  have H := fun W => shapeFor_32 h W
  have HU := fun W => unpack_32 h W
  generalize uN 2147483648 2139095040 b = x0 at *
  generalize uM 2139095040 23 (mg 2147483648 b) = x2 at *
  generalize uE 2139095040 23 (-149) (mg 2147483648 b) = x3 at *
  generalize cl 2139095040 (mg 2147483648 b) = x1 at *
  clear h
  go_enter Tryz.func80, Tryz.ntmps80
  go_wp2_with fail
  refine (H _).mono ?_
  rintro e w1 ⟨rfl, hb⟩
  have T : Hid (FlB w1 w.heap.size _ _ _ _) := (FlB.new w (.bool false) (.int .i64 0) (.int .u64 0) (.int .i64 0) 90).step hb
  have B : Hid (Below w.heap.size w w1) := ((Below.refl _ _).alloc (Nat.le_refl _) _).trans (hb.mono (by simp))
  clear hb
  obtain ⟨l, a0, a1, a2, a3, f0, f1, f2, f3⟩ := T.out
  go_wp2_with fail
  refine (HU _).mono ?_
  rintro e w2 ⟨rfl, hb⟩
  have T2 : Hid (FlB w2 w.heap.size _ _ _ _) := (T.out.al _).step hb
  have B2 : Hid (Below w.heap.size w w2) := (B.out.alloc (Nat.le_of_lt l) _).trans (hb.mono (by simp; omega))
  clear hb
  obtain ⟨l2, b0, b1, b2, b3, g0, g1, g2, g3⟩ := T2.out
  go_wp2
  exact bodyPost_ret (v := .tuple #[.agg #[.bool x0, .int .i64 x1, .int .u64 (x2 : Int), .int .i64 x3], .nilIface]) (by simp [results, Tryz.results80, go_sem, World.cell?_setCell_same, World.cell?_setCell_other, *]) rfl ⟨rfl, ((((B2.out).setCell (Nat.le_refl _) _).setCell (Nat.le_refl _) _).setCell (Nat.le_refl _) _).setCell (Nat.le_refl _) _⟩
set_option maxRecDepth 100000 in
set_option maxHeartbeats 1000000 in
theorem unp_64 {b : Nat} (h : b < 18446744073709551616) (w : World) : Calls Tryz.prog 80 #[.int .u64 (b : Int), .int .i64 64] w fun e w' => e = .returned (.tuple #[.agg #[.bool (uN 9223372036854775808 9218868437227405312 b), .int .i64 (cl 9218868437227405312 (mg 9223372036854775808 b)), .int .u64 ((uM 9218868437227405312 52 (mg 9223372036854775808 b) : Nat) : Int), .int .i64 (uE 9218868437227405312 52 (-1074) (mg 9223372036854775808 b))], .nilIface]) ∧ Below w.heap.size w w' := by
  have H := fun W => shapeFor_64 h W
  have HU := fun W => unpack_64 h W
  generalize uN 9223372036854775808 9218868437227405312 b = x0 at *
  generalize uM 9218868437227405312 52 (mg 9223372036854775808 b) = x2 at *
  generalize uE 9218868437227405312 52 (-1074) (mg 9223372036854775808 b) = x3 at *
  generalize cl 9218868437227405312 (mg 9223372036854775808 b) = x1 at *
  clear h
  go_enter Tryz.func80, Tryz.ntmps80
  go_wp2_with fail
  refine (H _).mono ?_
  rintro e w1 ⟨rfl, hb⟩
  have T : Hid (FlB w1 w.heap.size _ _ _ _) := (FlB.new w (.bool false) (.int .i64 0) (.int .u64 0) (.int .i64 0) 90).step hb
  have B : Hid (Below w.heap.size w w1) := ((Below.refl _ _).alloc (Nat.le_refl _) _).trans (hb.mono (by simp))
  clear hb
  obtain ⟨l, a0, a1, a2, a3, f0, f1, f2, f3⟩ := T.out
  go_wp2_with fail
  refine (HU _).mono ?_
  rintro e w2 ⟨rfl, hb⟩
  have T2 : Hid (FlB w2 w.heap.size _ _ _ _) := (T.out.al _).step hb
  have B2 : Hid (Below w.heap.size w w2) := (B.out.alloc (Nat.le_of_lt l) _).trans (hb.mono (by simp; omega))
  clear hb
  obtain ⟨l2, b0, b1, b2, b3, g0, g1, g2, g3⟩ := T2.out
  go_wp2
  exact bodyPost_ret (v := .tuple #[.agg #[.bool x0, .int .i64 x1, .int .u64 (x2 : Int), .int .i64 x3], .nilIface]) (by simp [results, Tryz.results80, go_sem, World.cell?_setCell_same, World.cell?_setCell_other, *]) rfl ⟨rfl, ((((B2.out).setCell (Nat.le_refl _) _).setCell (Nat.le_refl _) _).setCell (Nat.le_refl _) _).setCell (Nat.le_refl _) _⟩
set_option maxRecDepth 100000 in
set_option maxHeartbeats 1000000 in
theorem binf_32 (c : Bool)  (w : World) : Calls Tryz.prog 76 #[.bool c, .int .i64 32] w fun e w' => e = .returned (.tuple #[.int .u64 ((sgd 2147483648 c 2139095040 : Nat) : Int), .nilIface]) ∧ Below w.heap.size w w' := by
  have H := fun W => shapeOf_32 W
  have HS := fun W => signed_32 (x := 2139095040) (by decide) c W
  rw [show ((2139095040 : Nat) : Int) = 2139095040 from rfl] at HS
  generalize sgd 2147483648 c 2139095040 = r at *
  go_enter Tryz.func76, Tryz.ntmps76
  go_wp2_with fail
  refine (H _).mono ?_
  rintro e w1 ⟨rfl, hb⟩
  have B : Hid (Below w.heap.size w w1) := hb
  have l := hb.size
  clear hb
  go_wp2_with fail
  refine (HS _).mono ?_
  rintro e w2 ⟨rfl, hb⟩
  have B2 : Hid (Below w.heap.size w w2) := (B.out.alloc l _).trans (hb.mono (by simp; omega))
  clear hb
  go_wp2
  go_ret2
  exact ⟨rfl, B2.out⟩
set_option maxRecDepth 100000 in
set_option maxHeartbeats 1000000 in
theorem binf_64 (c : Bool)  (w : World) : Calls Tryz.prog 76 #[.bool c, .int .i64 64] w fun e w' => e = .returned (.tuple #[.int .u64 ((sgd 9223372036854775808 c 9218868437227405312 : Nat) : Int), .nilIface]) ∧ Below w.heap.size w w' := by
  have H := fun W => shapeOf_64 W
  have HS := fun W => signed_64 (x := 9218868437227405312) (by decide) c W
  rw [show ((9218868437227405312 : Nat) : Int) = 9218868437227405312 from rfl] at HS
  generalize sgd 9223372036854775808 c 9218868437227405312 = r at *
  go_enter Tryz.func76, Tryz.ntmps76
  go_wp2_with fail
  refine (H _).mono ?_
  rintro e w1 ⟨rfl, hb⟩
  have B : Hid (Below w.heap.size w w1) := hb
  have l := hb.size
  clear hb
  go_wp2_with fail
  refine (HS _).mono ?_
  rintro e w2 ⟨rfl, hb⟩
  have B2 : Hid (Below w.heap.size w w2) := (B.out.alloc l _).trans (hb.mono (by simp; omega))
  clear hb
  go_wp2
  go_ret2
  exact ⟨rfl, B2.out⟩
set_option maxRecDepth 100000 in
set_option maxHeartbeats 1000000 in
theorem bzero_32 (c : Bool)  (w : World) : Calls Tryz.prog 142 #[.bool c, .int .i64 32] w fun e w' => e = .returned (.tuple #[.int .u64 ((sgd 2147483648 c 0 : Nat) : Int), .nilIface]) ∧ Below w.heap.size w w' := by
  have H := fun W => shapeOf_32 W
  have HS := fun W => signed_32 (x := 0) (by decide) c W
  rw [show ((0 : Nat) : Int) = 0 from rfl] at HS
  generalize sgd 2147483648 c 0 = r at *
  go_enter Tryz.func142, Tryz.ntmps142
  go_wp2_with fail
  refine (H _).mono ?_
  rintro e w1 ⟨rfl, hb⟩
  have B : Hid (Below w.heap.size w w1) := hb
  have l := hb.size
  clear hb
  go_wp2_with fail
  refine (HS _).mono ?_
  rintro e w2 ⟨rfl, hb⟩
  have B2 : Hid (Below w.heap.size w w2) := (B.out.alloc l _).trans (hb.mono (by simp; omega))
  clear hb
  go_wp2
  go_ret2
  exact ⟨rfl, B2.out⟩
set_option maxRecDepth 100000 in
set_option maxHeartbeats 1000000 in
theorem bzero_64 (c : Bool)  (w : World) : Calls Tryz.prog 142 #[.bool c, .int .i64 64] w fun e w' => e = .returned (.tuple #[.int .u64 ((sgd 9223372036854775808 c 0 : Nat) : Int), .nilIface]) ∧ Below w.heap.size w w' := by
  have H := fun W => shapeOf_64 W
  have HS := fun W => signed_64 (x := 0) (by decide) c W
  rw [show ((0 : Nat) : Int) = 0 from rfl] at HS
  generalize sgd 9223372036854775808 c 0 = r at *
  go_enter Tryz.func142, Tryz.ntmps142
  go_wp2_with fail
  refine (H _).mono ?_
  rintro e w1 ⟨rfl, hb⟩
  have B : Hid (Below w.heap.size w w1) := hb
  have l := hb.size
  clear hb
  go_wp2_with fail
  refine (HS _).mono ?_
  rintro e w2 ⟨rfl, hb⟩
  have B2 : Hid (Below w.heap.size w w2) := (B.out.alloc l _).trans (hb.mono (by simp; omega))
  clear hb
  go_wp2
  go_ret2
  exact ⟨rfl, B2.out⟩
set_option maxRecDepth 100000 in
set_option maxHeartbeats 1000000 in
theorem bmost_32  (w : World) : Calls Tryz.prog 125 #[.int .i64 32] w fun e w' => e = .returned (.tuple #[.int .u64 2139095039, .nilIface]) ∧ Below w.heap.size w w' := by
  have H := fun W => shapeOf_32 W
  go_enter Tryz.func125, Tryz.ntmps125
  go_wp2_with fail
  refine (H _).mono ?_
  rintro e w1 ⟨rfl, hb⟩
  have B : Hid (Below w.heap.size w w1) := hb
  have l := hb.size
  clear hb
  go_wp2
  go_ret2
  exact ⟨rfl, B.out.alloc l _⟩
set_option maxRecDepth 100000 in
set_option maxHeartbeats 1000000 in
theorem bmost_64  (w : World) : Calls Tryz.prog 125 #[.int .i64 64] w fun e w' => e = .returned (.tuple #[.int .u64 9218868437227405311, .nilIface]) ∧ Below w.heap.size w w' := by
  have H := fun W => shapeOf_64 W
  go_enter Tryz.func125, Tryz.ntmps125
  go_wp2_with fail
  refine (H _).mono ?_
  rintro e w1 ⟨rfl, hb⟩
  have B : Hid (Below w.heap.size w w1) := hb
  have l := hb.size
  clear hb
  go_wp2
  go_ret2
  exact ⟨rfl, B.out.alloc l _⟩
set_option maxRecDepth 100000 in
set_option maxHeartbeats 1000000 in
theorem bleast_32  (w : World) : Calls Tryz.prog 126 #[.int .i64 32] w fun e w' => e = .returned (.tuple #[.int .u64 1, .nilIface]) ∧ Below w.heap.size w w' := by
  have H := fun W => shapeOf_32 W
  go_enter Tryz.func126, Tryz.ntmps126
  go_wp2_with fail
  refine (H _).mono ?_
  rintro e w1 ⟨rfl, hb⟩
  have B : Hid (Below w.heap.size w w1) := hb
  have l := hb.size
  clear hb
  go_wp2
  go_ret2
  exact ⟨rfl, B.out.alloc l _⟩
set_option maxRecDepth 100000 in
set_option maxHeartbeats 1000000 in
theorem bleast_64  (w : World) : Calls Tryz.prog 126 #[.int .i64 64] w fun e w' => e = .returned (.tuple #[.int .u64 1, .nilIface]) ∧ Below w.heap.size w w' := by
  have H := fun W => shapeOf_64 W
  go_enter Tryz.func126, Tryz.ntmps126
  go_wp2_with fail
  refine (H _).mono ?_
  rintro e w1 ⟨rfl, hb⟩
  have B : Hid (Below w.heap.size w w1) := hb
  have l := hb.size
  clear hb
  go_wp2
  go_ret2
  exact ⟨rfl, B.out.alloc l _⟩
set_option maxRecDepth 100000 in
set_option maxHeartbeats 1000000 in
theorem next_ok {b s : Int} {c : Int} (q1 : (c == 4) = false) (q2 : (c == 3) = false) (h0 : 0 ≤ b) (h1 : b + 1 < 18446744073709551616) (HC : ∀ W, Calls Tryz.prog 103 #[.int .u64 b, .int .i64 s] W fun e w' => e = .returned (.tuple #[.int .i64 c, .nilIface]) ∧ Below W.heap.size W w') (w : World) : Calls Tryz.prog 77 #[.int .u64 b, .int .i64 s] w fun e w' => e = .returned (.tuple #[.int .u64 (b + 1), .nilIface]) ∧ Below w.heap.size w w' := by
  go_enter Tryz.func77, Tryz.ntmps77
  go_wp2_with fail
  refine (HC _).mono ?_
  rintro e w1 ⟨rfl, hb⟩
  have B : Hid (Below w.heap.size w w1) := hb
  clear hb
  go_wp2
  go_ret2
  exact ⟨rfl, B.out⟩
set_option maxRecDepth 100000 in
set_option maxHeartbeats 1000000 in
theorem room_32 {x p n : Int} (hx : Word x) (hn : blen x = n) (h0 : -9223372036854775808 ≤ p) (h1 : p ≤ 5000) (w : World) : Calls Tryz.prog 180 #[.agg #[.int .u64 2147483648, .int .u64 2139095040, .int .i64 23, .int .i64 (-149)], .int .u64 x, .int .i64 p] w fun e w' => e = .returned (.int .i64 (min (24 - n) (p + 149))) ∧ Below w.heap.size w w' := by
  have HL := fun W => len64_any x hx W
  rw [hn] at HL
  have b := blen_01 x hx.1 hx.2
  rw [hn] at b
  obtain ⟨n0, n1⟩ := b
  clear hn hx
  obtain ⟨R, hR⟩ : ∃ R, R = min (24 - n) (p + 149) := ⟨_, rfl⟩
  have i1 : IntKind.i64.wrap (p + 149) = p + 149 := IntWalk.i64_in _ ⟨by omega, by omega⟩
  have i2 : IntKind.i64.wrap 24 = 24 := by decide
  have i3 : IntKind.i64.wrap (24 - n) = 24 - n := IntWalk.i64_in _ ⟨by omega, by omega⟩
  have E : (if IntKind.i64.wrap (p + 149) < IntKind.i64.wrap (IntKind.i64.wrap 24 - n) then IntKind.i64.wrap (p + 149) else IntKind.i64.wrap (IntKind.i64.wrap 24 - n)) = R := by
    rw [i2, i1, i3, hR]
    split <;> omega
  rw [← hR]
  clear i1 i2 i3 hR h0 h1 n0 n1
  go_enter Tryz.func180, Tryz.ntmps180
  go_wp2
  go_region_held3 (fun w' => w'.cell? ⟨w.heap.size, 0, none⟩ = some (.int .u64 2147483648) ∧ w'.cell? ⟨w.heap.size, 1, none⟩ = some (.int .u64 2139095040) ∧ w'.cell? ⟨w.heap.size, 2, none⟩ = some (.int .i64 23) ∧ w'.cell? ⟨w.heap.size, 3, none⟩ = some (.int .i64 (-149))) (simp [*, go_sem])
    (first
      | (go_at_call 127; refine (HL _).mono ?_; rintro x1 w2 ⟨rfl, hh⟩; subst hh))
  go_wp2
  go_ret
  exact ⟨rfl, ((Below.refl _ _).alloc (Nat.le_refl _) _).drew⟩
set_option maxRecDepth 100000 in
set_option maxHeartbeats 1000000 in
theorem lay_32 {x k : Nat} {p : Int} (hp : p = (-149) + (k : Int)) (hk : k ≤ 255) (hx : x ≤ 16777216) (w : World) : Calls Tryz.prog 181 #[.agg #[.int .u64 2147483648, .int .u64 2139095040, .int .i64 23, .int .i64 (-149)], .int .u64 (x : Int), .int .i64 p] w fun e w' => e = .returned (.int .u64 ((k * 8388608 + x : Nat) : Int)) ∧ Below w.heap.size w w' := by
  have e1 : p + 149 = (k : Int) := by omega
  have e2 : ((k : Int) * 8388608) + (x : Int) = ((k * 8388608 + x : Nat) : Int) := by omega
  obtain ⟨Z, hZ⟩ : ∃ Z, Z = k * 8388608 + x := ⟨_, rfl⟩
  rw [← hZ] at e2 ⊢
  have hz : Z < 18446744073709551616 := by omega
  clear hZ hp
  go_enter Tryz.func181, Tryz.ntmps181
  go_wp2
  go_ret
  exact ⟨rfl, (Below.refl _ _).alloc (Nat.le_refl _) _⟩
set_option maxRecDepth 100000 in
set_option maxHeartbeats 1000000 in
theorem room_64 {x p n : Int} (hx : Word x) (hn : blen x = n) (h0 : -9223372036854775808 ≤ p) (h1 : p ≤ 5000) (w : World) : Calls Tryz.prog 180 #[.agg #[.int .u64 9223372036854775808, .int .u64 9218868437227405312, .int .i64 52, .int .i64 (-1074)], .int .u64 x, .int .i64 p] w fun e w' => e = .returned (.int .i64 (min (53 - n) (p + 1074))) ∧ Below w.heap.size w w' := by
  have HL := fun W => len64_any x hx W
  rw [hn] at HL
  have b := blen_01 x hx.1 hx.2
  rw [hn] at b
  obtain ⟨n0, n1⟩ := b
  clear hn hx
  obtain ⟨R, hR⟩ : ∃ R, R = min (53 - n) (p + 1074) := ⟨_, rfl⟩
  have i1 : IntKind.i64.wrap (p + 1074) = p + 1074 := IntWalk.i64_in _ ⟨by omega, by omega⟩
  have i2 : IntKind.i64.wrap 53 = 53 := by decide
  have i3 : IntKind.i64.wrap (53 - n) = 53 - n := IntWalk.i64_in _ ⟨by omega, by omega⟩
  have E : (if IntKind.i64.wrap (p + 1074) < IntKind.i64.wrap (IntKind.i64.wrap 53 - n) then IntKind.i64.wrap (p + 1074) else IntKind.i64.wrap (IntKind.i64.wrap 53 - n)) = R := by
    rw [i2, i1, i3, hR]
    split <;> omega
  rw [← hR]
  clear i1 i2 i3 hR h0 h1 n0 n1
  go_enter Tryz.func180, Tryz.ntmps180
  go_wp2
  go_region_held3 (fun w' => w'.cell? ⟨w.heap.size, 0, none⟩ = some (.int .u64 9223372036854775808) ∧ w'.cell? ⟨w.heap.size, 1, none⟩ = some (.int .u64 9218868437227405312) ∧ w'.cell? ⟨w.heap.size, 2, none⟩ = some (.int .i64 52) ∧ w'.cell? ⟨w.heap.size, 3, none⟩ = some (.int .i64 (-1074))) (simp [*, go_sem])
    (first
      | (go_at_call 127; refine (HL _).mono ?_; rintro x1 w2 ⟨rfl, hh⟩; subst hh))
  go_wp2
  go_ret
  exact ⟨rfl, ((Below.refl _ _).alloc (Nat.le_refl _) _).drew⟩
set_option maxRecDepth 100000 in
set_option maxHeartbeats 1000000 in
theorem lay_64 {x k : Nat} {p : Int} (hp : p = (-1074) + (k : Int)) (hk : k ≤ 2047) (hx : x ≤ 9007199254740992) (w : World) : Calls Tryz.prog 181 #[.agg #[.int .u64 9223372036854775808, .int .u64 9218868437227405312, .int .i64 52, .int .i64 (-1074)], .int .u64 (x : Int), .int .i64 p] w fun e w' => e = .returned (.int .u64 ((k * 4503599627370496 + x : Nat) : Int)) ∧ Below w.heap.size w w' := by
  have e1 : p + 1074 = (k : Int) := by omega
  have e2 : ((k : Int) * 4503599627370496) + (x : Int) = ((k * 4503599627370496 + x : Nat) : Int) := by omega
  obtain ⟨Z, hZ⟩ : ∃ Z, Z = k * 4503599627370496 + x := ⟨_, rfl⟩
  rw [← hZ] at e2 ⊢
  have hz : Z < 18446744073709551616 := by omega
  clear hZ hp
  go_enter Tryz.func181, Tryz.ntmps181
  go_wp2
  go_ret
  exact ⟨rfl, (Below.refl _ _).alloc (Nat.le_refl _) _⟩
theorem blen_ln (m : Nat) (h : m < 18446744073709551616) : blen (m : Int) = (ln m : Int) := by
  by_cases z : m = 0
  · subst z; decide
  · obtain ⟨n, a, _, b, c⟩ := blen_bounds (m : Int) (by omega) (by omega)
    rw [a, ln_of (m := m) (k := n) (by exact_mod_cast b) (by exact_mod_cast c)]
    omega
theorem word_nat {m : Nat} (h : m < 18446744073709551616) : Word (m : Int) := ⟨by omega, by omega⟩
set_option maxRecDepth 100000 in
set_option maxHeartbeats 1000000 in
theorem exact_high_32 {m : Nat} {p : Int} (m0 : ((m : Int) == 0) = false) (h : 127 < p) (w : World) : Calls Tryz.prog 173 #[.agg #[.int .u64 2147483648, .int .u64 2139095040, .int .i64 23, .int .i64 (-149)], .int .u64 (m : Int), .int .i64 p] w fun e w' => e = .returned (.tuple #[.int .u64 0, .iface 74 (.int .i64 4)]) ∧ Below w.heap.size w w' := by
  have HM := fun W => most_32 W
  have i1 : IntKind.i64.wrap 127 = 127 := by decide
  go_enter Tryz.func173, Tryz.ntmps173
  go_wp2
  go_region_held3 (fun w' => w'.cell? ⟨w.heap.size, 0, none⟩ = some (.int .u64 2147483648) ∧ w'.cell? ⟨w.heap.size, 1, none⟩ = some (.int .u64 2139095040) ∧ w'.cell? ⟨w.heap.size, 2, none⟩ = some (.int .i64 23) ∧ w'.cell? ⟨w.heap.size, 3, none⟩ = some (.int .i64 (-149))) (simp [*, go_sem])
    (first
      | (go_at_call 179; refine (HM _).mono ?_; rintro x1 w2 ⟨rfl, hb⟩; have T2 : Hid (ShB w w2 _ _ _ _) := (ShB.start w (.int .u64 2147483648) (.int .u64 2139095040) (.int .i64 23) (.int .i64 (-149)) 119).drew.step hb; clear hb; obtain ⟨z2, _, a0, a1, a2, a3⟩ := T2.out))
  go_wp2
  go_ret2
  exact ⟨rfl, T2.out.bel⟩
set_option maxRecDepth 100000 in
set_option maxHeartbeats 1000000 in
theorem exact_low_32 {m : Nat} {p : Int} (hm : m < 18446744073709551616) (m0 : ((m : Int) == 0) = false) (hp0 : -9223372036854775808 ≤ p) (hp : ¬ 127 < p) {u : Int} {z : Nat} (hu : min (24 - (ln m : Int)) (p + 149) = u) (hz : ctzW (m : Int) = (z : Int)) (q : (z : Int) < -u) (w : World) (hT : Tab w) : Calls Tryz.prog 173 #[.agg #[.int .u64 2147483648, .int .u64 2139095040, .int .i64 23, .int .i64 (-149)], .int .u64 (m : Int), .int .i64 p] w fun e w' => e = .returned (.tuple #[.int .u64 0, .iface 74 (.int .i64 4)]) ∧ Below w.heap.size w w' := by
  have HM := fun W => most_32 W
  have HR := fun W => room_32 (word_nat hm) (blen_ln m hm) hp0 (by omega : p ≤ 5000) W
  have HZ := fun W (g : Tab W) => tz64_any (m : Int) (word_nat hm) W g
  have HT : Hid (Tab w) := hT
  rw [hz] at HZ
  rw [hu] at HR
  have i1 : IntKind.i64.wrap 127 = 127 := by decide
  clear hT
  have u0 : -9223372036854775807 ≤ u := by have := (ln_iff m 64).2 hm; omega
  have u1 : u ≤ 24 := by omega
  clear hu hz hm
  go_enter Tryz.func173, Tryz.ntmps173
  go_wp2
  go_region_held3 (fun w' => w'.cell? ⟨w.heap.size, 0, none⟩ = some (.int .u64 2147483648) ∧ w'.cell? ⟨w.heap.size, 1, none⟩ = some (.int .u64 2139095040) ∧ w'.cell? ⟨w.heap.size, 2, none⟩ = some (.int .i64 23) ∧ w'.cell? ⟨w.heap.size, 3, none⟩ = some (.int .i64 (-149))) (simp [*, go_sem])
    (first
      | (go_at_call 179; refine (HM _).mono ?_; rintro x1 w2 ⟨rfl, hb⟩; have T2 : Hid (ShB w w2 _ _ _ _) := (ShB.start w (.int .u64 2147483648) (.int .u64 2139095040) (.int .i64 23) (.int .i64 (-149)) 119).drew.step hb; clear hb; obtain ⟨z2, _, a0, a1, a2, a3⟩ := T2.out))
  go_wp2_with fail
  refine (HR _).mono ?_
  rintro e w3 ⟨rfl, hb⟩
  have T3 : Hid (ShB w w3 _ _ _ _) := T2.out.step hb
  clear hb a0 a1 a2 a3
  obtain ⟨z3, _, b0, b1, b2, b3⟩ := T3.out
  go_wp2_with fail
  refine (HZ _ (HT.out.below T3.out.bel HT.out.pos)).mono ?_
  rintro e w3 ⟨rfl, rfl⟩
  go_wp2
  go_ret2
  exact ⟨rfl, T3.out.bel⟩
set_option maxRecDepth 100000 in
set_option maxHeartbeats 1000000 in
theorem exact_top_32 {m : Nat} {p : Int} (hm : m < 18446744073709551616) (m0 : ((m : Int) == 0) = false) (hp0 : -9223372036854775808 ≤ p) (hp : ¬ 127 < p) {u : Int} {z : Nat} (hu : min (24 - (ln m : Int)) (p + 149) = u) (hz : ctzW (m : Int) = (z : Int)) (q : ¬ (z : Int) < -u) (q2 : 104 < p - u) (w : World) (hT : Tab w) : Calls Tryz.prog 173 #[.agg #[.int .u64 2147483648, .int .u64 2139095040, .int .i64 23, .int .i64 (-149)], .int .u64 (m : Int), .int .i64 p] w fun e w' => e = .returned (.tuple #[.int .u64 0, .iface 74 (.int .i64 4)]) ∧ Below w.heap.size w w' := by
  have HM := fun W => most_32 W
  have HR := fun W => room_32 (word_nat hm) (blen_ln m hm) hp0 (by omega : p ≤ 5000) W
  have HZ := fun W (g : Tab W) => tz64_any (m : Int) (word_nat hm) W g
  have HT : Hid (Tab w) := hT
  rw [hz] at HZ
  rw [hu] at HR
  have i1 : IntKind.i64.wrap 127 = 127 := by decide
  clear hT
  have u0 : -9223372036854775807 ≤ u := by have := (ln_iff m 64).2 hm; omega
  have u1 : u ≤ 24 := by omega
  have v0 : -100000 ≤ p - u := by have := (ln_iff m 64).2 hm; omega
  have v1 : p - u ≤ 100000 := by have := (ln_iff m 64).2 hm; omega
  clear hu hz hm
  go_enter Tryz.func173, Tryz.ntmps173
  go_wp2
  go_region_held3 (fun w' => w'.cell? ⟨w.heap.size, 0, none⟩ = some (.int .u64 2147483648) ∧ w'.cell? ⟨w.heap.size, 1, none⟩ = some (.int .u64 2139095040) ∧ w'.cell? ⟨w.heap.size, 2, none⟩ = some (.int .i64 23) ∧ w'.cell? ⟨w.heap.size, 3, none⟩ = some (.int .i64 (-149))) (simp [*, go_sem])
    (first
      | (go_at_call 179; refine (HM _).mono ?_; rintro x1 w2 ⟨rfl, hb⟩; have T2 : Hid (ShB w w2 _ _ _ _) := (ShB.start w (.int .u64 2147483648) (.int .u64 2139095040) (.int .i64 23) (.int .i64 (-149)) 119).drew.step hb; clear hb; obtain ⟨z2, _, a0, a1, a2, a3⟩ := T2.out))
  go_wp2_with fail
  refine (HR _).mono ?_
  rintro e w3 ⟨rfl, hb⟩
  have T3 : Hid (ShB w w3 _ _ _ _) := T2.out.step hb
  clear hb a0 a1 a2 a3
  obtain ⟨z3, _, b0, b1, b2, b3⟩ := T3.out
  go_wp2_with fail
  refine (HZ _ (HT.out.below T3.out.bel HT.out.pos)).mono ?_
  rintro e w3 ⟨rfl, rfl⟩
  go_wp2_with fail
  refine (HM _).mono ?_
  rintro e w4 ⟨rfl, hb⟩
  have T4 : Hid (ShB w w4 _ _ _ _) := T3.out.step hb
  clear hb b0 b1 b2 b3
  obtain ⟨z4, _, c0, c1, c2, c3⟩ := T4.out
  go_wp2
  go_ret2
  exact ⟨rfl, T4.out.bel⟩
set_option maxRecDepth 100000 in
set_option maxHeartbeats 1000000 in
theorem exact_up_32 {m : Nat} {p : Int} (hm : m < 18446744073709551616) (m0 : ((m : Int) == 0) = false) (hp0 : -9223372036854775808 ≤ p) (hp : ¬ 127 < p) {u : Int} {z : Nat} (hu : min (24 - (ln m : Int)) (p + 149) = u) (hz : ctzW (m : Int) = (z : Int)) (q : ¬ (z : Int) < -u) (q2 : ¬ 104 < p - u) (g : 0 < u) {X : Nat} (hX : (m : Int) * 2 ^ u.toNat = (X : Int)) (hx : X ≤ 16777216) {k : Nat} (hk : p - u = (-149) + (k : Int)) (hk2 : k ≤ 255) (w : World) (hT : Tab w) : Calls Tryz.prog 173 #[.agg #[.int .u64 2147483648, .int .u64 2139095040, .int .i64 23, .int .i64 (-149)], .int .u64 (m : Int), .int .i64 p] w fun e w' => e = .returned (.tuple #[.int .u64 ((k * 8388608 + X : Nat) : Int), .nilIface]) ∧ Below w.heap.size w w' := by
  have HM := fun W => most_32 W
  have HR := fun W => room_32 (word_nat hm) (blen_ln m hm) hp0 (by omega : p ≤ 5000) W
  have HZ := fun W (g : Tab W) => tz64_any (m : Int) (word_nat hm) W g
  have HT : Hid (Tab w) := hT
  rw [hz] at HZ
  rw [hu] at HR
  have i1 : IntKind.i64.wrap 127 = 127 := by decide
  clear hT
  have u0 : -9223372036854775807 ≤ u := by have := (ln_iff m 64).2 hm; omega
  have u1 : u ≤ 24 := by omega
  have v0 : -100000 ≤ p - u := by have := (ln_iff m 64).2 hm; omega
  have v1 : p - u ≤ 100000 := by have := (ln_iff m 64).2 hm; omega
  have HY := fun W => lay_32 hk hk2 hx W
  have g1 : ¬ u < 0 := by omega
  have g2 : 0 ≤ u := by omega
  have g3 : -u < 0 := by omega
  have e1 : IntKind.i64.wrap (-u) = -u := IntWalk.i64_in _ ⟨by omega, by omega⟩
  have s1 : IntKind.u64.wrap ((m : Int) * 2 ^ u.toNat) = (X : Int) := by rw [hX, IntKind.wrap_u64]; omega
  have x1 : (if u < 0 then 0 else u) = u := if_neg g1
  have x2 : (if -u < 0 then 0 else -u) = 0 := if_pos g3
  have e2 : IntKind.i64.wrap (p - u) = p - u := IntWalk.i64_in _ ⟨by omega, by omega⟩
  clear hX
  generalize k * 8388608 + X = R at *
  clear hu hz hm hk
  go_enter Tryz.func173, Tryz.ntmps173
  go_wp2
  go_region_held3 (fun w' => w'.cell? ⟨w.heap.size, 0, none⟩ = some (.int .u64 2147483648) ∧ w'.cell? ⟨w.heap.size, 1, none⟩ = some (.int .u64 2139095040) ∧ w'.cell? ⟨w.heap.size, 2, none⟩ = some (.int .i64 23) ∧ w'.cell? ⟨w.heap.size, 3, none⟩ = some (.int .i64 (-149))) (simp [*, go_sem])
    (first
      | (go_at_call 179; refine (HM _).mono ?_; rintro x1 w2 ⟨rfl, hb⟩; have T2 : Hid (ShB w w2 _ _ _ _) := (ShB.start w (.int .u64 2147483648) (.int .u64 2139095040) (.int .i64 23) (.int .i64 (-149)) 119).drew.step hb; clear hb; obtain ⟨z2, _, a0, a1, a2, a3⟩ := T2.out))
  go_wp2_with fail
  refine (HR _).mono ?_
  rintro e w3 ⟨rfl, hb⟩
  have T3 : Hid (ShB w w3 _ _ _ _) := T2.out.step hb
  clear hb a0 a1 a2 a3
  obtain ⟨z3, _, b0, b1, b2, b3⟩ := T3.out
  go_wp2_with fail
  refine (HZ _ (HT.out.below T3.out.bel HT.out.pos)).mono ?_
  rintro e w3 ⟨rfl, rfl⟩
  go_wp2_with fail
  refine (HM _).mono ?_
  rintro e w4 ⟨rfl, hb⟩
  have T4 : Hid (ShB w w4 _ _ _ _) := T3.out.step hb
  clear hb b0 b1 b2 b3
  obtain ⟨z4, _, c0, c1, c2, c3⟩ := T4.out
  go_wp2
  go_region_held3 (fun w' => w'.cell? ⟨w.heap.size, 0, none⟩ = some (.int .u64 2147483648) ∧ w'.cell? ⟨w.heap.size, 1, none⟩ = some (.int .u64 2139095040) ∧ w'.cell? ⟨w.heap.size, 2, none⟩ = some (.int .i64 23) ∧ w'.cell? ⟨w.heap.size, 3, none⟩ = some (.int .i64 (-149))) (simp [*, go_sem])
    (first
      | (go_at_call 181; refine (HY _).mono ?_; rintro x5 w5 ⟨rfl, hb⟩; have T5 : Hid (ShB w w5 _ _ _ _) := T4.out.drew.step hb; clear hb; obtain ⟨z5, _, d0, d1, d2, d3⟩ := T5.out))
  all_goals
    go_wp2
    go_ret2
    exact ⟨rfl, T5.out.bel⟩
set_option maxRecDepth 100000 in
set_option maxHeartbeats 1000000 in
theorem exact_down_32 {m : Nat} {p : Int} (hm : m < 18446744073709551616) (m0 : ((m : Int) == 0) = false) (hp0 : -9223372036854775808 ≤ p) (hp : ¬ 127 < p) {v : Int} {z : Nat} (hu : min (24 - (ln m : Int)) (p + 149) = (-v)) (hz : ctzW (m : Int) = (z : Int)) (q : ¬ (z : Int) < v) (q2 : ¬ 104 < p + v) (g : 0 < v) (z1 : z < 64) {X : Nat} (hX : (m : Int) / 2 ^ v.toNat = (X : Int)) (hx : X ≤ 16777216) {k : Nat} (hk : p + v = (-149) + (k : Int)) (hk2 : k ≤ 255) (w : World) (hT : Tab w) : Calls Tryz.prog 173 #[.agg #[.int .u64 2147483648, .int .u64 2139095040, .int .i64 23, .int .i64 (-149)], .int .u64 (m : Int), .int .i64 p] w fun e w' => e = .returned (.tuple #[.int .u64 ((k * 8388608 + X : Nat) : Int), .nilIface]) ∧ Below w.heap.size w w' := by
  have HM := fun W => most_32 W
  have HR := fun W => room_32 (word_nat hm) (blen_ln m hm) hp0 (by omega : p ≤ 5000) W
  have HZ := fun W (g : Tab W) => tz64_any (m : Int) (word_nat hm) W g
  have HT : Hid (Tab w) := hT
  rw [hz] at HZ
  rw [hu] at HR
  have i1 : IntKind.i64.wrap 127 = 127 := by decide
  clear hT
  have u0 : -9223372036854775807 ≤ (-v) := by have := (ln_iff m 64).2 hm; omega
  have u1 : (-v) ≤ 24 := by omega
  have v0 : -100000 ≤ p + v := by have := (ln_iff m 64).2 hm; omega
  have v1 : p + v ≤ 100000 := by have := (ln_iff m 64).2 hm; omega
  have HY := fun W => lay_32 hk hk2 hx W
  have g1 : ¬ v < 0 := by omega
  have g2 : 0 ≤ v := by omega
  have g3 : -v < 0 := by omega
  have e1 : IntKind.i64.wrap v = v := IntWalk.i64_in _ ⟨by omega, by omega⟩
  have s0 : IntKind.u64.wrap (m : Int) = (m : Int) := by rw [IntKind.wrap_u64]; omega
  have s1 : (m : Int) / 2 ^ min v.toNat 64 = (X : Int) := by rw [Nat.min_eq_left (by omega), hX]
  have x1 : (if -v < 0 then 0 else -v) = 0 := if_pos g3
  have x2 : (if v < 0 then 0 else v) = v := if_neg g1
  have e2 : IntKind.i64.wrap (p + v) = p + v := IntWalk.i64_in _ ⟨by omega, by omega⟩
  clear hX z1
  generalize k * 8388608 + X = R at *
  clear hu hz hm hk
  go_enter Tryz.func173, Tryz.ntmps173
  go_wp2
  go_region_held3 (fun w' => w'.cell? ⟨w.heap.size, 0, none⟩ = some (.int .u64 2147483648) ∧ w'.cell? ⟨w.heap.size, 1, none⟩ = some (.int .u64 2139095040) ∧ w'.cell? ⟨w.heap.size, 2, none⟩ = some (.int .i64 23) ∧ w'.cell? ⟨w.heap.size, 3, none⟩ = some (.int .i64 (-149))) (simp [*, go_sem])
    (first
      | (go_at_call 179; refine (HM _).mono ?_; rintro x1 w2 ⟨rfl, hb⟩; have T2 : Hid (ShB w w2 _ _ _ _) := (ShB.start w (.int .u64 2147483648) (.int .u64 2139095040) (.int .i64 23) (.int .i64 (-149)) 119).drew.step hb; clear hb; obtain ⟨z2, _, a0, a1, a2, a3⟩ := T2.out))
  go_wp2_with fail
  refine (HR _).mono ?_
  rintro e w3 ⟨rfl, hb⟩
  have T3 : Hid (ShB w w3 _ _ _ _) := T2.out.step hb
  clear hb a0 a1 a2 a3
  obtain ⟨z3, _, b0, b1, b2, b3⟩ := T3.out
  go_wp2_with fail
  refine (HZ _ (HT.out.below T3.out.bel HT.out.pos)).mono ?_
  rintro e w3 ⟨rfl, rfl⟩
  go_wp2_with fail
  refine (HM _).mono ?_
  rintro e w4 ⟨rfl, hb⟩
  have T4 : Hid (ShB w w4 _ _ _ _) := T3.out.step hb
  clear hb b0 b1 b2 b3
  obtain ⟨z4, _, c0, c1, c2, c3⟩ := T4.out
  go_wp2
  go_region_held3 (fun w' => w'.cell? ⟨w.heap.size, 0, none⟩ = some (.int .u64 2147483648) ∧ w'.cell? ⟨w.heap.size, 1, none⟩ = some (.int .u64 2139095040) ∧ w'.cell? ⟨w.heap.size, 2, none⟩ = some (.int .i64 23) ∧ w'.cell? ⟨w.heap.size, 3, none⟩ = some (.int .i64 (-149))) (simp [*, go_sem])
    (first
      | (go_at_call 181; refine (HY _).mono ?_; rintro x5 w5 ⟨rfl, hb⟩; have T5 : Hid (ShB w w5 _ _ _ _) := T4.out.drew.step hb; clear hb; obtain ⟨z5, _, d0, d1, d2, d3⟩ := T5.out))
  all_goals
    go_wp2
    go_ret2
    exact ⟨rfl, T5.out.bel⟩
set_option maxRecDepth 100000 in
set_option maxHeartbeats 1000000 in
theorem exact_even_32 {m : Nat} {p : Int} (hm : m < 18446744073709551616) (m0 : ((m : Int) == 0) = false) (hp0 : -9223372036854775808 ≤ p) (hp : ¬ 127 < p) {z : Nat} (hu : min (24 - (ln m : Int)) (p + 149) = 0) (hz : ctzW (m : Int) = (z : Int)) (q : 0 ≤ z) (q2 : ¬ 104 < p) {X : Nat} (hX : m = X) (hx : X ≤ 16777216) {k : Nat} (hk : p = (-149) + (k : Int)) (hk2 : k ≤ 255) (w : World) (hT : Tab w) : Calls Tryz.prog 173 #[.agg #[.int .u64 2147483648, .int .u64 2139095040, .int .i64 23, .int .i64 (-149)], .int .u64 (m : Int), .int .i64 p] w fun e w' => e = .returned (.tuple #[.int .u64 ((k * 8388608 + X : Nat) : Int), .nilIface]) ∧ Below w.heap.size w w' := by
  have HM := fun W => most_32 W
  have HR := fun W => room_32 (word_nat hm) (blen_ln m hm) hp0 (by omega : p ≤ 5000) W
  have HZ := fun W (g : Tab W) => tz64_any (m : Int) (word_nat hm) W g
  have HT : Hid (Tab w) := hT
  rw [hz] at HZ
  rw [hu] at HR
  have i1 : IntKind.i64.wrap 127 = 127 := by decide
  clear hT
  have u0 : -9223372036854775807 ≤ 0 := by have := (ln_iff m 64).2 hm; omega
  have u1 : 0 ≤ 24 := by omega
  have v0 : -100000 ≤ p := by have := (ln_iff m 64).2 hm; omega
  have v1 : p ≤ 100000 := by have := (ln_iff m 64).2 hm; omega
  have HY := fun W => lay_32 hk hk2 hx W
  subst hX
  have s0 : IntKind.u64.wrap (m : Int) = (m : Int) := by rw [IntKind.wrap_u64]; omega
  have i0 : IntKind.i64.wrap 0 = 0 := by decide
  have e2 : IntKind.i64.wrap p = p := IntWalk.i64_in _ ⟨by omega, by omega⟩
  generalize k * 8388608 + m = R at *
  clear hu hz hm hk
  go_enter Tryz.func173, Tryz.ntmps173
  go_wp2
  go_region_held3 (fun w' => w'.cell? ⟨w.heap.size, 0, none⟩ = some (.int .u64 2147483648) ∧ w'.cell? ⟨w.heap.size, 1, none⟩ = some (.int .u64 2139095040) ∧ w'.cell? ⟨w.heap.size, 2, none⟩ = some (.int .i64 23) ∧ w'.cell? ⟨w.heap.size, 3, none⟩ = some (.int .i64 (-149))) (simp [*, go_sem])
    (first
      | (go_at_call 179; refine (HM _).mono ?_; rintro x1 w2 ⟨rfl, hb⟩; have T2 : Hid (ShB w w2 _ _ _ _) := (ShB.start w (.int .u64 2147483648) (.int .u64 2139095040) (.int .i64 23) (.int .i64 (-149)) 119).drew.step hb; clear hb; obtain ⟨z2, _, a0, a1, a2, a3⟩ := T2.out))
  go_wp2_with fail
  refine (HR _).mono ?_
  rintro e w3 ⟨rfl, hb⟩
  have T3 : Hid (ShB w w3 _ _ _ _) := T2.out.step hb
  clear hb a0 a1 a2 a3
  obtain ⟨z3, _, b0, b1, b2, b3⟩ := T3.out
  go_wp2_with fail
  refine (HZ _ (HT.out.below T3.out.bel HT.out.pos)).mono ?_
  rintro e w3 ⟨rfl, rfl⟩
  go_wp2_with fail
  refine (HM _).mono ?_
  rintro e w4 ⟨rfl, hb⟩
  have T4 : Hid (ShB w w4 _ _ _ _) := T3.out.step hb
  clear hb b0 b1 b2 b3
  obtain ⟨z4, _, c0, c1, c2, c3⟩ := T4.out
  go_wp2
  go_region_held3 (fun w' => w'.cell? ⟨w.heap.size, 0, none⟩ = some (.int .u64 2147483648) ∧ w'.cell? ⟨w.heap.size, 1, none⟩ = some (.int .u64 2139095040) ∧ w'.cell? ⟨w.heap.size, 2, none⟩ = some (.int .i64 23) ∧ w'.cell? ⟨w.heap.size, 3, none⟩ = some (.int .i64 (-149))) (simp [*, go_sem])
    (first
      | (go_at_call 181; refine (HY _).mono ?_; rintro x5 w5 ⟨rfl, hb⟩; have T5 : Hid (ShB w w5 _ _ _ _) := T4.out.drew.step hb; clear hb; obtain ⟨z5, _, d0, d1, d2, d3⟩ := T5.out))
  all_goals
    go_wp2
    go_ret2
    exact ⟨rfl, T5.out.bel⟩
set_option maxRecDepth 100000 in
set_option maxHeartbeats 1000000 in
theorem exact_high_64 {m : Nat} {p : Int} (m0 : ((m : Int) == 0) = false) (h : 1023 < p) (w : World) : Calls Tryz.prog 173 #[.agg #[.int .u64 9223372036854775808, .int .u64 9218868437227405312, .int .i64 52, .int .i64 (-1074)], .int .u64 (m : Int), .int .i64 p] w fun e w' => e = .returned (.tuple #[.int .u64 0, .iface 74 (.int .i64 4)]) ∧ Below w.heap.size w w' := by
  have HM := fun W => most_64 W
  have i1 : IntKind.i64.wrap 1023 = 1023 := by decide
  go_enter Tryz.func173, Tryz.ntmps173
  go_wp2
  go_region_held3 (fun w' => w'.cell? ⟨w.heap.size, 0, none⟩ = some (.int .u64 9223372036854775808) ∧ w'.cell? ⟨w.heap.size, 1, none⟩ = some (.int .u64 9218868437227405312) ∧ w'.cell? ⟨w.heap.size, 2, none⟩ = some (.int .i64 52) ∧ w'.cell? ⟨w.heap.size, 3, none⟩ = some (.int .i64 (-1074))) (simp [*, go_sem])
    (first
      | (go_at_call 179; refine (HM _).mono ?_; rintro x1 w2 ⟨rfl, hb⟩; have T2 : Hid (ShB w w2 _ _ _ _) := (ShB.start w (.int .u64 9223372036854775808) (.int .u64 9218868437227405312) (.int .i64 52) (.int .i64 (-1074)) 119).drew.step hb; clear hb; obtain ⟨z2, _, a0, a1, a2, a3⟩ := T2.out))
  go_wp2
  go_ret2
  exact ⟨rfl, T2.out.bel⟩
set_option maxRecDepth 100000 in
set_option maxHeartbeats 1000000 in
theorem exact_low_64 {m : Nat} {p : Int} (hm : m < 18446744073709551616) (m0 : ((m : Int) == 0) = false) (hp0 : -9223372036854775808 ≤ p) (hp : ¬ 1023 < p) {u : Int} {z : Nat} (hu : min (53 - (ln m : Int)) (p + 1074) = u) (hz : ctzW (m : Int) = (z : Int)) (q : (z : Int) < -u) (w : World) (hT : Tab w) : Calls Tryz.prog 173 #[.agg #[.int .u64 9223372036854775808, .int .u64 9218868437227405312, .int .i64 52, .int .i64 (-1074)], .int .u64 (m : Int), .int .i64 p] w fun e w' => e = .returned (.tuple #[.int .u64 0, .iface 74 (.int .i64 4)]) ∧ Below w.heap.size w w' := by
  have HM := fun W => most_64 W
  have HR := fun W => room_64 (word_nat hm) (blen_ln m hm) hp0 (by omega : p ≤ 5000) W
  have HZ := fun W (g : Tab W) => tz64_any (m : Int) (word_nat hm) W g
  have HT : Hid (Tab w) := hT
  rw [hz] at HZ
  rw [hu] at HR
  have i1 : IntKind.i64.wrap 1023 = 1023 := by decide
  clear hT
  have u0 : -9223372036854775807 ≤ u := by have := (ln_iff m 64).2 hm; omega
  have u1 : u ≤ 53 := by omega
  clear hu hz hm
  go_enter Tryz.func173, Tryz.ntmps173
  go_wp2
  go_region_held3 (fun w' => w'.cell? ⟨w.heap.size, 0, none⟩ = some (.int .u64 9223372036854775808) ∧ w'.cell? ⟨w.heap.size, 1, none⟩ = some (.int .u64 9218868437227405312) ∧ w'.cell? ⟨w.heap.size, 2, none⟩ = some (.int .i64 52) ∧ w'.cell? ⟨w.heap.size, 3, none⟩ = some (.int .i64 (-1074))) (simp [*, go_sem])
    (first
      | (go_at_call 179; refine (HM _).mono ?_; rintro x1 w2 ⟨rfl, hb⟩; have T2 : Hid (ShB w w2 _ _ _ _) := (ShB.start w (.int .u64 9223372036854775808) (.int .u64 9218868437227405312) (.int .i64 52) (.int .i64 (-1074)) 119).drew.step hb; clear hb; obtain ⟨z2, _, a0, a1, a2, a3⟩ := T2.out))
  go_wp2_with fail
  refine (HR _).mono ?_
  rintro e w3 ⟨rfl, hb⟩
  have T3 : Hid (ShB w w3 _ _ _ _) := T2.out.step hb
  clear hb a0 a1 a2 a3
  obtain ⟨z3, _, b0, b1, b2, b3⟩ := T3.out
  go_wp2_with fail
  refine (HZ _ (HT.out.below T3.out.bel HT.out.pos)).mono ?_
  rintro e w3 ⟨rfl, rfl⟩
  go_wp2
  go_ret2
  exact ⟨rfl, T3.out.bel⟩
set_option maxRecDepth 100000 in
set_option maxHeartbeats 1000000 in
theorem exact_top_64 {m : Nat} {p : Int} (hm : m < 18446744073709551616) (m0 : ((m : Int) == 0) = false) (hp0 : -9223372036854775808 ≤ p) (hp : ¬ 1023 < p) {u : Int} {z : Nat} (hu : min (53 - (ln m : Int)) (p + 1074) = u) (hz : ctzW (m : Int) = (z : Int)) (q : ¬ (z : Int) < -u) (q2 : 971 < p - u) (w : World) (hT : Tab w) : Calls Tryz.prog 173 #[.agg #[.int .u64 9223372036854775808, .int .u64 9218868437227405312, .int .i64 52, .int .i64 (-1074)], .int .u64 (m : Int), .int .i64 p] w fun e w' => e = .returned (.tuple #[.int .u64 0, .iface 74 (.int .i64 4)]) ∧ Below w.heap.size w w' := by
  have HM := fun W => most_64 W
  have HR := fun W => room_64 (word_nat hm) (blen_ln m hm) hp0 (by omega : p ≤ 5000) W
  have HZ := fun W (g : Tab W) => tz64_any (m : Int) (word_nat hm) W g
  have HT : Hid (Tab w) := hT
  rw [hz] at HZ
  rw [hu] at HR
  have i1 : IntKind.i64.wrap 1023 = 1023 := by decide
  clear hT
  have u0 : -9223372036854775807 ≤ u := by have := (ln_iff m 64).2 hm; omega
  have u1 : u ≤ 53 := by omega
  have v0 : -100000 ≤ p - u := by have := (ln_iff m 64).2 hm; omega
  have v1 : p - u ≤ 100000 := by have := (ln_iff m 64).2 hm; omega
  clear hu hz hm
  go_enter Tryz.func173, Tryz.ntmps173
  go_wp2
  go_region_held3 (fun w' => w'.cell? ⟨w.heap.size, 0, none⟩ = some (.int .u64 9223372036854775808) ∧ w'.cell? ⟨w.heap.size, 1, none⟩ = some (.int .u64 9218868437227405312) ∧ w'.cell? ⟨w.heap.size, 2, none⟩ = some (.int .i64 52) ∧ w'.cell? ⟨w.heap.size, 3, none⟩ = some (.int .i64 (-1074))) (simp [*, go_sem])
    (first
      | (go_at_call 179; refine (HM _).mono ?_; rintro x1 w2 ⟨rfl, hb⟩; have T2 : Hid (ShB w w2 _ _ _ _) := (ShB.start w (.int .u64 9223372036854775808) (.int .u64 9218868437227405312) (.int .i64 52) (.int .i64 (-1074)) 119).drew.step hb; clear hb; obtain ⟨z2, _, a0, a1, a2, a3⟩ := T2.out))
  go_wp2_with fail
  refine (HR _).mono ?_
  rintro e w3 ⟨rfl, hb⟩
  have T3 : Hid (ShB w w3 _ _ _ _) := T2.out.step hb
  clear hb a0 a1 a2 a3
  obtain ⟨z3, _, b0, b1, b2, b3⟩ := T3.out
  go_wp2_with fail
  refine (HZ _ (HT.out.below T3.out.bel HT.out.pos)).mono ?_
  rintro e w3 ⟨rfl, rfl⟩
  go_wp2_with fail
  refine (HM _).mono ?_
  rintro e w4 ⟨rfl, hb⟩
  have T4 : Hid (ShB w w4 _ _ _ _) := T3.out.step hb
  clear hb b0 b1 b2 b3
  obtain ⟨z4, _, c0, c1, c2, c3⟩ := T4.out
  go_wp2
  go_ret2
  exact ⟨rfl, T4.out.bel⟩
set_option maxRecDepth 100000 in
set_option maxHeartbeats 1000000 in
theorem exact_up_64 {m : Nat} {p : Int} (hm : m < 18446744073709551616) (m0 : ((m : Int) == 0) = false) (hp0 : -9223372036854775808 ≤ p) (hp : ¬ 1023 < p) {u : Int} {z : Nat} (hu : min (53 - (ln m : Int)) (p + 1074) = u) (hz : ctzW (m : Int) = (z : Int)) (q : ¬ (z : Int) < -u) (q2 : ¬ 971 < p - u) (g : 0 < u) {X : Nat} (hX : (m : Int) * 2 ^ u.toNat = (X : Int)) (hx : X ≤ 9007199254740992) {k : Nat} (hk : p - u = (-1074) + (k : Int)) (hk2 : k ≤ 2047) (w : World) (hT : Tab w) : Calls Tryz.prog 173 #[.agg #[.int .u64 9223372036854775808, .int .u64 9218868437227405312, .int .i64 52, .int .i64 (-1074)], .int .u64 (m : Int), .int .i64 p] w fun e w' => e = .returned (.tuple #[.int .u64 ((k * 4503599627370496 + X : Nat) : Int), .nilIface]) ∧ Below w.heap.size w w' := by
  have HM := fun W => most_64 W
  have HR := fun W => room_64 (word_nat hm) (blen_ln m hm) hp0 (by omega : p ≤ 5000) W
  have HZ := fun W (g : Tab W) => tz64_any (m : Int) (word_nat hm) W g
  have HT : Hid (Tab w) := hT
  rw [hz] at HZ
  rw [hu] at HR
  have i1 : IntKind.i64.wrap 1023 = 1023 := by decide
  clear hT
  have u0 : -9223372036854775807 ≤ u := by have := (ln_iff m 64).2 hm; omega
  have u1 : u ≤ 53 := by omega
  have v0 : -100000 ≤ p - u := by have := (ln_iff m 64).2 hm; omega
  have v1 : p - u ≤ 100000 := by have := (ln_iff m 64).2 hm; omega
  have HY := fun W => lay_64 hk hk2 hx W
  have g1 : ¬ u < 0 := by omega
  have g2 : 0 ≤ u := by omega
  have g3 : -u < 0 := by omega
  have e1 : IntKind.i64.wrap (-u) = -u := IntWalk.i64_in _ ⟨by omega, by omega⟩
  have s1 : IntKind.u64.wrap ((m : Int) * 2 ^ u.toNat) = (X : Int) := by rw [hX, IntKind.wrap_u64]; omega
  have x1 : (if u < 0 then 0 else u) = u := if_neg g1
  have x2 : (if -u < 0 then 0 else -u) = 0 := if_pos g3
  have e2 : IntKind.i64.wrap (p - u) = p - u := IntWalk.i64_in _ ⟨by omega, by omega⟩
  clear hX
  generalize k * 4503599627370496 + X = R at *
  clear hu hz hm hk
  go_enter Tryz.func173, Tryz.ntmps173
  go_wp2
  go_region_held3 (fun w' => w'.cell? ⟨w.heap.size, 0, none⟩ = some (.int .u64 9223372036854775808) ∧ w'.cell? ⟨w.heap.size, 1, none⟩ = some (.int .u64 9218868437227405312) ∧ w'.cell? ⟨w.heap.size, 2, none⟩ = some (.int .i64 52) ∧ w'.cell? ⟨w.heap.size, 3, none⟩ = some (.int .i64 (-1074))) (simp [*, go_sem])
    (first
      | (go_at_call 179; refine (HM _).mono ?_; rintro x1 w2 ⟨rfl, hb⟩; have T2 : Hid (ShB w w2 _ _ _ _) := (ShB.start w (.int .u64 9223372036854775808) (.int .u64 9218868437227405312) (.int .i64 52) (.int .i64 (-1074)) 119).drew.step hb; clear hb; obtain ⟨z2, _, a0, a1, a2, a3⟩ := T2.out))
  go_wp2_with fail
  refine (HR _).mono ?_
  rintro e w3 ⟨rfl, hb⟩
  have T3 : Hid (ShB w w3 _ _ _ _) := T2.out.step hb
  clear hb a0 a1 a2 a3
  obtain ⟨z3, _, b0, b1, b2, b3⟩ := T3.out
  go_wp2_with fail
  refine (HZ _ (HT.out.below T3.out.bel HT.out.pos)).mono ?_
  rintro e w3 ⟨rfl, rfl⟩
  go_wp2_with fail
  refine (HM _).mono ?_
  rintro e w4 ⟨rfl, hb⟩
  have T4 : Hid (ShB w w4 _ _ _ _) := T3.out.step hb
  clear hb b0 b1 b2 b3
  obtain ⟨z4, _, c0, c1, c2, c3⟩ := T4.out
  go_wp2
  go_region_held3 (fun w' => w'.cell? ⟨w.heap.size, 0, none⟩ = some (.int .u64 9223372036854775808) ∧ w'.cell? ⟨w.heap.size, 1, none⟩ = some (.int .u64 9218868437227405312) ∧ w'.cell? ⟨w.heap.size, 2, none⟩ = some (.int .i64 52) ∧ w'.cell? ⟨w.heap.size, 3, none⟩ = some (.int .i64 (-1074))) (simp [*, go_sem])
    (first
      | (go_at_call 181; refine (HY _).mono ?_; rintro x5 w5 ⟨rfl, hb⟩; have T5 : Hid (ShB w w5 _ _ _ _) := T4.out.drew.step hb; clear hb; obtain ⟨z5, _, d0, d1, d2, d3⟩ := T5.out))
  all_goals
    go_wp2
    go_ret2
    exact ⟨rfl, T5.out.bel⟩
set_option maxRecDepth 100000 in
set_option maxHeartbeats 1000000 in
theorem exact_down_64 {m : Nat} {p : Int} (hm : m < 18446744073709551616) (m0 : ((m : Int) == 0) = false) (hp0 : -9223372036854775808 ≤ p) (hp : ¬ 1023 < p) {v : Int} {z : Nat} (hu : min (53 - (ln m : Int)) (p + 1074) = (-v)) (hz : ctzW (m : Int) = (z : Int)) (q : ¬ (z : Int) < v) (q2 : ¬ 971 < p + v) (g : 0 < v) (z1 : z < 64) {X : Nat} (hX : (m : Int) / 2 ^ v.toNat = (X : Int)) (hx : X ≤ 9007199254740992) {k : Nat} (hk : p + v = (-1074) + (k : Int)) (hk2 : k ≤ 2047) (w : World) (hT : Tab w) : Calls Tryz.prog 173 #[.agg #[.int .u64 9223372036854775808, .int .u64 9218868437227405312, .int .i64 52, .int .i64 (-1074)], .int .u64 (m : Int), .int .i64 p] w fun e w' => e = .returned (.tuple #[.int .u64 ((k * 4503599627370496 + X : Nat) : Int), .nilIface]) ∧ Below w.heap.size w w' := by
  have HM := fun W => most_64 W
  have HR := fun W => room_64 (word_nat hm) (blen_ln m hm) hp0 (by omega : p ≤ 5000) W
  have HZ := fun W (g : Tab W) => tz64_any (m : Int) (word_nat hm) W g
  have HT : Hid (Tab w) := hT
  rw [hz] at HZ
  rw [hu] at HR
  have i1 : IntKind.i64.wrap 1023 = 1023 := by decide
  clear hT
  have u0 : -9223372036854775807 ≤ (-v) := by have := (ln_iff m 64).2 hm; omega
  have u1 : (-v) ≤ 53 := by omega
  have v0 : -100000 ≤ p + v := by have := (ln_iff m 64).2 hm; omega
  have v1 : p + v ≤ 100000 := by have := (ln_iff m 64).2 hm; omega
  have HY := fun W => lay_64 hk hk2 hx W
  have g1 : ¬ v < 0 := by omega
  have g2 : 0 ≤ v := by omega
  have g3 : -v < 0 := by omega
  have e1 : IntKind.i64.wrap v = v := IntWalk.i64_in _ ⟨by omega, by omega⟩
  have s0 : IntKind.u64.wrap (m : Int) = (m : Int) := by rw [IntKind.wrap_u64]; omega
  have s1 : (m : Int) / 2 ^ min v.toNat 64 = (X : Int) := by rw [Nat.min_eq_left (by omega), hX]
  have x1 : (if -v < 0 then 0 else -v) = 0 := if_pos g3
  have x2 : (if v < 0 then 0 else v) = v := if_neg g1
  have e2 : IntKind.i64.wrap (p + v) = p + v := IntWalk.i64_in _ ⟨by omega, by omega⟩
  clear hX z1
  generalize k * 4503599627370496 + X = R at *
  clear hu hz hm hk
  go_enter Tryz.func173, Tryz.ntmps173
  go_wp2
  go_region_held3 (fun w' => w'.cell? ⟨w.heap.size, 0, none⟩ = some (.int .u64 9223372036854775808) ∧ w'.cell? ⟨w.heap.size, 1, none⟩ = some (.int .u64 9218868437227405312) ∧ w'.cell? ⟨w.heap.size, 2, none⟩ = some (.int .i64 52) ∧ w'.cell? ⟨w.heap.size, 3, none⟩ = some (.int .i64 (-1074))) (simp [*, go_sem])
    (first
      | (go_at_call 179; refine (HM _).mono ?_; rintro x1 w2 ⟨rfl, hb⟩; have T2 : Hid (ShB w w2 _ _ _ _) := (ShB.start w (.int .u64 9223372036854775808) (.int .u64 9218868437227405312) (.int .i64 52) (.int .i64 (-1074)) 119).drew.step hb; clear hb; obtain ⟨z2, _, a0, a1, a2, a3⟩ := T2.out))
  go_wp2_with fail
  refine (HR _).mono ?_
  rintro e w3 ⟨rfl, hb⟩
  have T3 : Hid (ShB w w3 _ _ _ _) := T2.out.step hb
  clear hb a0 a1 a2 a3
  obtain ⟨z3, _, b0, b1, b2, b3⟩ := T3.out
  go_wp2_with fail
  refine (HZ _ (HT.out.below T3.out.bel HT.out.pos)).mono ?_
  rintro e w3 ⟨rfl, rfl⟩
  go_wp2_with fail
  refine (HM _).mono ?_
  rintro e w4 ⟨rfl, hb⟩
  have T4 : Hid (ShB w w4 _ _ _ _) := T3.out.step hb
  clear hb b0 b1 b2 b3
  obtain ⟨z4, _, c0, c1, c2, c3⟩ := T4.out
  go_wp2
  go_region_held3 (fun w' => w'.cell? ⟨w.heap.size, 0, none⟩ = some (.int .u64 9223372036854775808) ∧ w'.cell? ⟨w.heap.size, 1, none⟩ = some (.int .u64 9218868437227405312) ∧ w'.cell? ⟨w.heap.size, 2, none⟩ = some (.int .i64 52) ∧ w'.cell? ⟨w.heap.size, 3, none⟩ = some (.int .i64 (-1074))) (simp [*, go_sem])
    (first
      | (go_at_call 181; refine (HY _).mono ?_; rintro x5 w5 ⟨rfl, hb⟩; have T5 : Hid (ShB w w5 _ _ _ _) := T4.out.drew.step hb; clear hb; obtain ⟨z5, _, d0, d1, d2, d3⟩ := T5.out))
  all_goals
    go_wp2
    go_ret2
    exact ⟨rfl, T5.out.bel⟩
set_option maxRecDepth 100000 in
set_option maxHeartbeats 1000000 in
theorem exact_even_64 {m : Nat} {p : Int} (hm : m < 18446744073709551616) (m0 : ((m : Int) == 0) = false) (hp0 : -9223372036854775808 ≤ p) (hp : ¬ 1023 < p) {z : Nat} (hu : min (53 - (ln m : Int)) (p + 1074) = 0) (hz : ctzW (m : Int) = (z : Int)) (q : 0 ≤ z) (q2 : ¬ 971 < p) {X : Nat} (hX : m = X) (hx : X ≤ 9007199254740992) {k : Nat} (hk : p = (-1074) + (k : Int)) (hk2 : k ≤ 2047) (w : World) (hT : Tab w) : Calls Tryz.prog 173 #[.agg #[.int .u64 9223372036854775808, .int .u64 9218868437227405312, .int .i64 52, .int .i64 (-1074)], .int .u64 (m : Int), .int .i64 p] w fun e w' => e = .returned (.tuple #[.int .u64 ((k * 4503599627370496 + X : Nat) : Int), .nilIface]) ∧ Below w.heap.size w w' := by
  have HM := fun W => most_64 W
  have HR := fun W => room_64 (word_nat hm) (blen_ln m hm) hp0 (by omega : p ≤ 5000) W
  have HZ := fun W (g : Tab W) => tz64_any (m : Int) (word_nat hm) W g
  have HT : Hid (Tab w) := hT
  rw [hz] at HZ
  rw [hu] at HR
  have i1 : IntKind.i64.wrap 1023 = 1023 := by decide
  clear hT
  have u0 : -9223372036854775807 ≤ 0 := by have := (ln_iff m 64).2 hm; omega
  have u1 : 0 ≤ 53 := by omega
  have v0 : -100000 ≤ p := by have := (ln_iff m 64).2 hm; omega
  have v1 : p ≤ 100000 := by have := (ln_iff m 64).2 hm; omega
  have HY := fun W => lay_64 hk hk2 hx W
  subst hX
  have s0 : IntKind.u64.wrap (m : Int) = (m : Int) := by rw [IntKind.wrap_u64]; omega
  have i0 : IntKind.i64.wrap 0 = 0 := by decide
  have e2 : IntKind.i64.wrap p = p := IntWalk.i64_in _ ⟨by omega, by omega⟩
  generalize k * 4503599627370496 + m = R at *
  clear hu hz hm hk
  go_enter Tryz.func173, Tryz.ntmps173
  go_wp2
  go_region_held3 (fun w' => w'.cell? ⟨w.heap.size, 0, none⟩ = some (.int .u64 9223372036854775808) ∧ w'.cell? ⟨w.heap.size, 1, none⟩ = some (.int .u64 9218868437227405312) ∧ w'.cell? ⟨w.heap.size, 2, none⟩ = some (.int .i64 52) ∧ w'.cell? ⟨w.heap.size, 3, none⟩ = some (.int .i64 (-1074))) (simp [*, go_sem])
    (first
      | (go_at_call 179; refine (HM _).mono ?_; rintro x1 w2 ⟨rfl, hb⟩; have T2 : Hid (ShB w w2 _ _ _ _) := (ShB.start w (.int .u64 9223372036854775808) (.int .u64 9218868437227405312) (.int .i64 52) (.int .i64 (-1074)) 119).drew.step hb; clear hb; obtain ⟨z2, _, a0, a1, a2, a3⟩ := T2.out))
  go_wp2_with fail
  refine (HR _).mono ?_
  rintro e w3 ⟨rfl, hb⟩
  have T3 : Hid (ShB w w3 _ _ _ _) := T2.out.step hb
  clear hb a0 a1 a2 a3
  obtain ⟨z3, _, b0, b1, b2, b3⟩ := T3.out
  go_wp2_with fail
  refine (HZ _ (HT.out.below T3.out.bel HT.out.pos)).mono ?_
  rintro e w3 ⟨rfl, rfl⟩
  go_wp2_with fail
  refine (HM _).mono ?_
  rintro e w4 ⟨rfl, hb⟩
  have T4 : Hid (ShB w w4 _ _ _ _) := T3.out.step hb
  clear hb b0 b1 b2 b3
  obtain ⟨z4, _, c0, c1, c2, c3⟩ := T4.out
  go_wp2
  go_region_held3 (fun w' => w'.cell? ⟨w.heap.size, 0, none⟩ = some (.int .u64 9223372036854775808) ∧ w'.cell? ⟨w.heap.size, 1, none⟩ = some (.int .u64 9218868437227405312) ∧ w'.cell? ⟨w.heap.size, 2, none⟩ = some (.int .i64 52) ∧ w'.cell? ⟨w.heap.size, 3, none⟩ = some (.int .i64 (-1074))) (simp [*, go_sem])
    (first
      | (go_at_call 181; refine (HY _).mono ?_; rintro x5 w5 ⟨rfl, hb⟩; have T5 : Hid (ShB w w5 _ _ _ _) := T4.out.drew.step hb; clear hb; obtain ⟨z5, _, d0, d1, d2, d3⟩ := T5.out))
  all_goals
    go_wp2
    go_ret2
    exact ⟨rfl, T5.out.bel⟩
/-- What is answered where a float, or none, has a value; the value with a sign. -/
def exV : Option Nat → Value
  | none => .tuple #[.int .u64 0, .iface 74 (.int .i64 4)]
  | some b => .tuple #[.int .u64 (b : Int), .nilIface]
theorem exactly_32 {m : Nat} {p : Int} (hm : m < 18446744073709551616) (m0 : m ≠ 0) (hp0 : -9223372036854775808 ≤ p) (w : World) (hT : Tab w) : Calls Tryz.prog 173 #[.agg #[.int .u64 2147483648, .int .u64 2139095040, .int .i64 23, .int .i64 (-149)], .int .u64 (m : Int), .int .i64 p] w fun e w' => e = .returned (exV (pk 23 255 (-149) m p)) ∧ Below w.heap.size w w' := by
  have n0 : ((m : Int) == 0) = false := by simp; omega
  by_cases hp : 127 < p
  · rw [pk_high (f := 23) (t := 255) (L := (-149)) (by decide) m0 (by omega)]
    exact exact_high_32 n0 hp w
  · obtain ⟨j, hj, z1⟩ := ctz_odd m0 hm
    obtain ⟨z, hz⟩ : ∃ z, z = Lib.ctz 64 m := ⟨_, rfl⟩
    rw [← hz] at hj z1
    have hz' : ctzW (m : Int) = (z : Int) := by unfold ctzW; rw [Int.toNat_natCast, hz]
    obtain ⟨u, hu⟩ : ∃ u, u = rm 23 (-149) m p := ⟨_, rfl⟩
    have hu' : min (24 - (ln m : Int)) (p + 149) = u := by rw [hu]; unfold rm; omega
    by_cases q : (z : Int) < -u
    · rw [pk_low (f := 23) (t := 255) (L := (-149)) hj (by rw [← hu]; exact q)]
      exact exact_low_32 hm n0 hp0 hp hu' hz' q w hT
    · have hq : ¬ (z : Int) < -(rm 23 (-149) m p) := by rw [← hu]; exact q
      obtain ⟨g, _, _⟩ := pl_ok (f := 23) (L := (-149)) hj hq
      rw [pk_place (f := 23) (t := 255) (L := (-149)) (by decide) hj hq, ← hu]
      rw [← hu] at g
      obtain ⟨g1, g2, _⟩ := g
      by_cases q2 : 104 < p - u
      · rw [if_pos (by omega)]
        exact exact_top_32 hm n0 hp0 hp hu' hz' q q2 w hT
      · rw [if_neg (by omega)]
        obtain ⟨k, hk⟩ : ∃ k : Nat, p - u = (-149) + (k : Int) := ⟨(p - u + 149).toNat, by omega⟩
        have hk2 : k ≤ 255 := by omega
        have el : ly 23 (-149) (pl m u) (p - u) = k * 8388608 + pl m u := by
          unfold ly
          rw [show (p - u - (-149)).toNat = k by omega]
        rw [el]
        have hx : pl m u ≤ 16777216 := by
          have : pl m u < 16777216 := g1
          omega
        clear g1 g2 el hu hq
        rcases Int.lt_trichotomy u 0 with c | c | c
        · obtain ⟨v, rfl⟩ : ∃ v, u = -v := ⟨-u, by omega⟩
          have e : pl m (-v) = m / 2 ^ v.toNat := by
            unfold pl
            rw [show (-v).toNat = 0 by omega, show (- -v).toNat = v.toNat by omega, Nat.pow_zero, Nat.mul_one]
          exact exact_down_32 hm n0 hp0 hp hu' hz' (by omega) (by omega) (by omega) z1 (X := pl m (-v)) (by rw [e]; simp) hx (by omega) hk2 w hT
        · subst c
          have e : m = pl m 0 := by
            unfold pl
            simp
          exact exact_even_32 hm n0 hp0 hp hu' hz' (by omega) (by omega) e hx (by omega) hk2 w hT
        · have e : pl m u = m * 2 ^ u.toNat := by
            unfold pl
            rw [show (-u).toNat = 0 by omega, Nat.pow_zero, Nat.div_one]
          exact exact_up_32 hm n0 hp0 hp hu' hz' q q2 c (X := pl m u) (by rw [e]; simp) hx hk hk2 w hT
theorem exactly_64 {m : Nat} {p : Int} (hm : m < 18446744073709551616) (m0 : m ≠ 0) (hp0 : -9223372036854775808 ≤ p) (w : World) (hT : Tab w) : Calls Tryz.prog 173 #[.agg #[.int .u64 9223372036854775808, .int .u64 9218868437227405312, .int .i64 52, .int .i64 (-1074)], .int .u64 (m : Int), .int .i64 p] w fun e w' => e = .returned (exV (pk 52 2047 (-1074) m p)) ∧ Below w.heap.size w w' := by
  have n0 : ((m : Int) == 0) = false := by simp; omega
  by_cases hp : 1023 < p
  · rw [pk_high (f := 52) (t := 2047) (L := (-1074)) (by decide) m0 (by omega)]
    exact exact_high_64 n0 hp w
  · obtain ⟨j, hj, z1⟩ := ctz_odd m0 hm
    obtain ⟨z, hz⟩ : ∃ z, z = Lib.ctz 64 m := ⟨_, rfl⟩
    rw [← hz] at hj z1
    have hz' : ctzW (m : Int) = (z : Int) := by unfold ctzW; rw [Int.toNat_natCast, hz]
    obtain ⟨u, hu⟩ : ∃ u, u = rm 52 (-1074) m p := ⟨_, rfl⟩
    have hu' : min (53 - (ln m : Int)) (p + 1074) = u := by rw [hu]; unfold rm; omega
    by_cases q : (z : Int) < -u
    · rw [pk_low (f := 52) (t := 2047) (L := (-1074)) hj (by rw [← hu]; exact q)]
      exact exact_low_64 hm n0 hp0 hp hu' hz' q w hT
    · have hq : ¬ (z : Int) < -(rm 52 (-1074) m p) := by rw [← hu]; exact q
      obtain ⟨g, _, _⟩ := pl_ok (f := 52) (L := (-1074)) hj hq
      rw [pk_place (f := 52) (t := 2047) (L := (-1074)) (by decide) hj hq, ← hu]
      rw [← hu] at g
      obtain ⟨g1, g2, _⟩ := g
      by_cases q2 : 971 < p - u
      · rw [if_pos (by omega)]
        exact exact_top_64 hm n0 hp0 hp hu' hz' q q2 w hT
      · rw [if_neg (by omega)]
        obtain ⟨k, hk⟩ : ∃ k : Nat, p - u = (-1074) + (k : Int) := ⟨(p - u + 1074).toNat, by omega⟩
        have hk2 : k ≤ 2047 := by omega
        have el : ly 52 (-1074) (pl m u) (p - u) = k * 4503599627370496 + pl m u := by
          unfold ly
          rw [show (p - u - (-1074)).toNat = k by omega]
        rw [el]
        have hx : pl m u ≤ 9007199254740992 := by
          have : pl m u < 9007199254740992 := g1
          omega
        clear g1 g2 el hu hq
        rcases Int.lt_trichotomy u 0 with c | c | c
        · obtain ⟨v, rfl⟩ : ∃ v, u = -v := ⟨-u, by omega⟩
          have e : pl m (-v) = m / 2 ^ v.toNat := by
            unfold pl
            rw [show (-v).toNat = 0 by omega, show (- -v).toNat = v.toNat by omega, Nat.pow_zero, Nat.mul_one]
          exact exact_down_64 hm n0 hp0 hp hu' hz' (by omega) (by omega) (by omega) z1 (X := pl m (-v)) (by rw [e]; simp) hx (by omega) hk2 w hT
        · subst c
          have e : m = pl m 0 := by
            unfold pl
            simp
          exact exact_even_64 hm n0 hp0 hp hu' hz' (by omega) (by omega) e hx (by omega) hk2 w hT
        · have e : pl m u = m * 2 ^ u.toNat := by
            unfold pl
            rw [show (-u).toNat = 0 by omega, Nat.pow_zero, Nat.div_one]
          exact exact_up_64 hm n0 hp0 hp hu' hz' q q2 c (X := pl m u) (by rw [e]; simp) hx hk hk2 w hT
theorem out_lt {f : Nat} {t L : Int} {M b : Nat} {E : Int} {T : Nat} (ht : t = (T : Int)) (hT : 0 < T) (h : out f t L M E = some b) : b < T * 2 ^ f := by
  unfold out at h
  have p := Nat.two_pow_pos f
  split at h
  · cases h
  · rename_i c
    split at h
    · cases h
      have : 1 * 2 ^ f ≤ T * 2 ^ f := Nat.mul_le_mul_right _ hT
      omega
    · rename_i k
      cases h
      have c1 : M < 2 ^ (f + 1) := by
        have : ¬ 2 ^ (f + 1) ≤ M := fun x => c (.inl x)
        omega
      rw [Nat.pow_succ] at c1
      have c2 : ¬ t ≤ E - L + 1 := fun x => c (.inr (.inr ⟨by omega, x⟩))
      have : ((E - L + 1).toNat + 1) * 2 ^ f ≤ T * 2 ^ f := Nat.mul_le_mul_right _ (by omega)
      rw [Nat.succ_mul] at this
      omega
theorem pk_lt {f : Nat} {t L : Int} {m b : Nat} {e : Int} {T : Nat} (ht : t = (T : Int)) (hT : 0 < T) (h : pk f t L m e = some b) : b < T * 2 ^ f := out_lt ht hT h
set_option maxRecDepth 100000 in
set_option maxHeartbeats 1000000 in
theorem pack_none_32 (c : Bool) {m : Nat} {p : Int} (hm : m < 18446744073709551616) (m0 : m ≠ 0) (hp0 : -9223372036854775808 ≤ p) (h : pk 23 255 (-149) m p = none) (w : World) (hT : Tab w) : Calls Tryz.prog 162 #[.agg #[.int .u64 2147483648, .int .u64 2139095040, .int .i64 23, .int .i64 (-149)], .agg #[.bool c, .int .i64 2, .int .u64 (m : Int), .int .i64 p]] w fun e w' => e = .returned (.tuple #[.int .u64 0, .iface 74 (.int .i64 4)]) ∧ Below w.heap.size w w' := by
  have HX := fun W (g : Tab W) => exactly_32 hm m0 hp0 W g
  rw [h] at HX
  unfold exV at HX
  have HT : Hid (Tab w) := hT
  clear hT h hm m0 hp0
  have H1 : Hid (FlB ((w.alloc (.cells #[.int .u64 2147483648, .int .u64 2139095040, .int .i64 23, .int .i64 (-149)] 119)).alloc (.cells #[.bool c, .int .i64 2, .int .u64 (m : Int), .int .i64 p] 90)) w.heap.size _ _ _ _) := (FlB.new w _ _ _ _ _).al _
  have H2 : Hid (FlB ((w.alloc (.cells #[.int .u64 2147483648, .int .u64 2139095040, .int .i64 23, .int .i64 (-149)] 119)).alloc (.cells #[.bool c, .int .i64 2, .int .u64 (m : Int), .int .i64 p] 90)) (w.heap.size + 1) _ _ _ _) := FlB.newAt _ _ _ _ _ _ (by simp)
  have B0 : Hid (Below w.heap.size w ((w.alloc (.cells #[.int .u64 2147483648, .int .u64 2139095040, .int .i64 23, .int .i64 (-149)] 119)).alloc (.cells #[.bool c, .int .i64 2, .int .u64 (m : Int), .int .i64 p] 90))) := ((Below.refl _ _).alloc (Nat.le_refl _) _).alloc (by simp) _
  have l0 : w.heap.size ≤ ((w.alloc (.cells #[.int .u64 2147483648, .int .u64 2139095040, .int .i64 23, .int .i64 (-149)] 119)).alloc (.cells #[.bool c, .int .i64 2, .int .u64 (m : Int), .int .i64 p] 90)).heap.size := by simp; omega
  go_enter Tryz.func162, Tryz.ntmps162
  go_wp2_with fail
  refine (HX _ (HT.out.below B0.out HT.out.pos)).mono ?_
  rintro e w1 ⟨rfl, hb⟩
  have B1 : Hid (Below w.heap.size w w1) := B0.out.trans (hb.mono l0)
  have l1 : w.heap.size ≤ w1.heap.size := Nat.le_trans l0 hb.size
  have H1n : Hid (FlB w1 _ _ _ _ _) := H1.out.step hb
  have H2n : Hid (FlB w1 _ _ _ _ _) := H2.out.step hb
  clear H1 H2 hb
  have H1 := H1n
  have H2 := H2n
  clear H1n H2n
  go_wp2
  go_ret2
  exact ⟨rfl, B1.out⟩
set_option maxRecDepth 100000 in
set_option maxHeartbeats 1000000 in
theorem pack_some_32 (c : Bool) {m b : Nat} {p : Int} (hm : m < 18446744073709551616) (m0 : m ≠ 0) (hp0 : -9223372036854775808 ≤ p) (h : pk 23 255 (-149) m p = some b) (w : World) (hT : Tab w) : Calls Tryz.prog 162 #[.agg #[.int .u64 2147483648, .int .u64 2139095040, .int .i64 23, .int .i64 (-149)], .agg #[.bool c, .int .i64 2, .int .u64 (m : Int), .int .i64 p]] w fun e w' => e = .returned (.tuple #[.int .u64 ((sgd 2147483648 c b : Nat) : Int), .nilIface]) ∧ Below w.heap.size w w' := by
  have HX := fun W (g : Tab W) => exactly_32 hm m0 hp0 W g
  rw [h] at HX
  unfold exV at HX
  have hl := pk_lt (T := 255) rfl (by decide) h
  have HS := fun W => signed_32 (x := b) (by omega) c W
  generalize sgd 2147483648 c b = r at *
  have HT : Hid (Tab w) := hT
  clear hT h hl hm m0 hp0
  have H1 : Hid (FlB ((w.alloc (.cells #[.int .u64 2147483648, .int .u64 2139095040, .int .i64 23, .int .i64 (-149)] 119)).alloc (.cells #[.bool c, .int .i64 2, .int .u64 (m : Int), .int .i64 p] 90)) w.heap.size _ _ _ _) := (FlB.new w _ _ _ _ _).al _
  have H2 : Hid (FlB ((w.alloc (.cells #[.int .u64 2147483648, .int .u64 2139095040, .int .i64 23, .int .i64 (-149)] 119)).alloc (.cells #[.bool c, .int .i64 2, .int .u64 (m : Int), .int .i64 p] 90)) (w.heap.size + 1) _ _ _ _) := FlB.newAt _ _ _ _ _ _ (by simp)
  have B0 : Hid (Below w.heap.size w ((w.alloc (.cells #[.int .u64 2147483648, .int .u64 2139095040, .int .i64 23, .int .i64 (-149)] 119)).alloc (.cells #[.bool c, .int .i64 2, .int .u64 (m : Int), .int .i64 p] 90))) := ((Below.refl _ _).alloc (Nat.le_refl _) _).alloc (by simp) _
  have l0 : w.heap.size ≤ ((w.alloc (.cells #[.int .u64 2147483648, .int .u64 2139095040, .int .i64 23, .int .i64 (-149)] 119)).alloc (.cells #[.bool c, .int .i64 2, .int .u64 (m : Int), .int .i64 p] 90)).heap.size := by simp; omega
  go_enter Tryz.func162, Tryz.ntmps162
  go_wp2_with fail
  refine (HX _ (HT.out.below B0.out HT.out.pos)).mono ?_
  rintro e w1 ⟨rfl, hb⟩
  have B1 : Hid (Below w.heap.size w w1) := B0.out.trans (hb.mono l0)
  have l1 : w.heap.size ≤ w1.heap.size := Nat.le_trans l0 hb.size
  have H1n : Hid (FlB w1 _ _ _ _ _) := H1.out.step hb
  have H2n : Hid (FlB w1 _ _ _ _ _) := H2.out.step hb
  clear H1 H2 hb
  have H1 := H1n
  have H2 := H2n
  clear H1n H2n
  obtain ⟨m1, a0, a1, a2, a3, _, _, _, _⟩ := H1.out
  obtain ⟨m2, b0, b1, b2, b3, _, _, _, _⟩ := H2.out
  go_wp2_with fail
  refine (HS _).mono ?_
  rintro e w2 ⟨rfl, hb⟩
  have B2 : Hid (Below w.heap.size w w2) := B1.out.trans (hb.mono l1)
  have l2 : w.heap.size ≤ w2.heap.size := Nat.le_trans l1 hb.size
  have H1n : Hid (FlB w2 _ _ _ _ _) := H1.out.step hb
  have H2n : Hid (FlB w2 _ _ _ _ _) := H2.out.step hb
  clear H1 H2 hb
  have H1 := H1n
  have H2 := H2n
  clear H1n H2n
  go_wp2
  go_ret2
  exact ⟨rfl, B2.out⟩
set_option maxRecDepth 100000 in
set_option maxHeartbeats 1000000 in
theorem pack_none_64 (c : Bool) {m : Nat} {p : Int} (hm : m < 18446744073709551616) (m0 : m ≠ 0) (hp0 : -9223372036854775808 ≤ p) (h : pk 52 2047 (-1074) m p = none) (w : World) (hT : Tab w) : Calls Tryz.prog 162 #[.agg #[.int .u64 9223372036854775808, .int .u64 9218868437227405312, .int .i64 52, .int .i64 (-1074)], .agg #[.bool c, .int .i64 2, .int .u64 (m : Int), .int .i64 p]] w fun e w' => e = .returned (.tuple #[.int .u64 0, .iface 74 (.int .i64 4)]) ∧ Below w.heap.size w w' := by
  have HX := fun W (g : Tab W) => exactly_64 hm m0 hp0 W g
  rw [h] at HX
  unfold exV at HX
  have HT : Hid (Tab w) := hT
  clear hT h hm m0 hp0
  have H1 : Hid (FlB ((w.alloc (.cells #[.int .u64 9223372036854775808, .int .u64 9218868437227405312, .int .i64 52, .int .i64 (-1074)] 119)).alloc (.cells #[.bool c, .int .i64 2, .int .u64 (m : Int), .int .i64 p] 90)) w.heap.size _ _ _ _) := (FlB.new w _ _ _ _ _).al _
  have H2 : Hid (FlB ((w.alloc (.cells #[.int .u64 9223372036854775808, .int .u64 9218868437227405312, .int .i64 52, .int .i64 (-1074)] 119)).alloc (.cells #[.bool c, .int .i64 2, .int .u64 (m : Int), .int .i64 p] 90)) (w.heap.size + 1) _ _ _ _) := FlB.newAt _ _ _ _ _ _ (by simp)
  have B0 : Hid (Below w.heap.size w ((w.alloc (.cells #[.int .u64 9223372036854775808, .int .u64 9218868437227405312, .int .i64 52, .int .i64 (-1074)] 119)).alloc (.cells #[.bool c, .int .i64 2, .int .u64 (m : Int), .int .i64 p] 90))) := ((Below.refl _ _).alloc (Nat.le_refl _) _).alloc (by simp) _
  have l0 : w.heap.size ≤ ((w.alloc (.cells #[.int .u64 9223372036854775808, .int .u64 9218868437227405312, .int .i64 52, .int .i64 (-1074)] 119)).alloc (.cells #[.bool c, .int .i64 2, .int .u64 (m : Int), .int .i64 p] 90)).heap.size := by simp; omega
  go_enter Tryz.func162, Tryz.ntmps162
  go_wp2_with fail
  refine (HX _ (HT.out.below B0.out HT.out.pos)).mono ?_
  rintro e w1 ⟨rfl, hb⟩
  have B1 : Hid (Below w.heap.size w w1) := B0.out.trans (hb.mono l0)
  have l1 : w.heap.size ≤ w1.heap.size := Nat.le_trans l0 hb.size
  have H1n : Hid (FlB w1 _ _ _ _ _) := H1.out.step hb
  have H2n : Hid (FlB w1 _ _ _ _ _) := H2.out.step hb
  clear H1 H2 hb
  have H1 := H1n
  have H2 := H2n
  clear H1n H2n
  go_wp2
  go_ret2
  exact ⟨rfl, B1.out⟩
set_option maxRecDepth 100000 in
set_option maxHeartbeats 1000000 in
theorem pack_some_64 (c : Bool) {m b : Nat} {p : Int} (hm : m < 18446744073709551616) (m0 : m ≠ 0) (hp0 : -9223372036854775808 ≤ p) (h : pk 52 2047 (-1074) m p = some b) (w : World) (hT : Tab w) : Calls Tryz.prog 162 #[.agg #[.int .u64 9223372036854775808, .int .u64 9218868437227405312, .int .i64 52, .int .i64 (-1074)], .agg #[.bool c, .int .i64 2, .int .u64 (m : Int), .int .i64 p]] w fun e w' => e = .returned (.tuple #[.int .u64 ((sgd 9223372036854775808 c b : Nat) : Int), .nilIface]) ∧ Below w.heap.size w w' := by
  have HX := fun W (g : Tab W) => exactly_64 hm m0 hp0 W g
  rw [h] at HX
  unfold exV at HX
  have hl := pk_lt (T := 2047) rfl (by decide) h
  have HS := fun W => signed_64 (x := b) (by omega) c W
  generalize sgd 9223372036854775808 c b = r at *
  have HT : Hid (Tab w) := hT
  clear hT h hl hm m0 hp0
  have H1 : Hid (FlB ((w.alloc (.cells #[.int .u64 9223372036854775808, .int .u64 9218868437227405312, .int .i64 52, .int .i64 (-1074)] 119)).alloc (.cells #[.bool c, .int .i64 2, .int .u64 (m : Int), .int .i64 p] 90)) w.heap.size _ _ _ _) := (FlB.new w _ _ _ _ _).al _
  have H2 : Hid (FlB ((w.alloc (.cells #[.int .u64 9223372036854775808, .int .u64 9218868437227405312, .int .i64 52, .int .i64 (-1074)] 119)).alloc (.cells #[.bool c, .int .i64 2, .int .u64 (m : Int), .int .i64 p] 90)) (w.heap.size + 1) _ _ _ _) := FlB.newAt _ _ _ _ _ _ (by simp)
  have B0 : Hid (Below w.heap.size w ((w.alloc (.cells #[.int .u64 9223372036854775808, .int .u64 9218868437227405312, .int .i64 52, .int .i64 (-1074)] 119)).alloc (.cells #[.bool c, .int .i64 2, .int .u64 (m : Int), .int .i64 p] 90))) := ((Below.refl _ _).alloc (Nat.le_refl _) _).alloc (by simp) _
  have l0 : w.heap.size ≤ ((w.alloc (.cells #[.int .u64 9223372036854775808, .int .u64 9218868437227405312, .int .i64 52, .int .i64 (-1074)] 119)).alloc (.cells #[.bool c, .int .i64 2, .int .u64 (m : Int), .int .i64 p] 90)).heap.size := by simp; omega
  go_enter Tryz.func162, Tryz.ntmps162
  go_wp2_with fail
  refine (HX _ (HT.out.below B0.out HT.out.pos)).mono ?_
  rintro e w1 ⟨rfl, hb⟩
  have B1 : Hid (Below w.heap.size w w1) := B0.out.trans (hb.mono l0)
  have l1 : w.heap.size ≤ w1.heap.size := Nat.le_trans l0 hb.size
  have H1n : Hid (FlB w1 _ _ _ _ _) := H1.out.step hb
  have H2n : Hid (FlB w1 _ _ _ _ _) := H2.out.step hb
  clear H1 H2 hb
  have H1 := H1n
  have H2 := H2n
  clear H1n H2n
  obtain ⟨m1, a0, a1, a2, a3, _, _, _, _⟩ := H1.out
  obtain ⟨m2, b0, b1, b2, b3, _, _, _, _⟩ := H2.out
  go_wp2_with fail
  refine (HS _).mono ?_
  rintro e w2 ⟨rfl, hb⟩
  have B2 : Hid (Below w.heap.size w w2) := B1.out.trans (hb.mono l1)
  have l2 : w.heap.size ≤ w2.heap.size := Nat.le_trans l1 hb.size
  have H1n : Hid (FlB w2 _ _ _ _ _) := H1.out.step hb
  have H2n : Hid (FlB w2 _ _ _ _ _) := H2.out.step hb
  clear H1 H2 hb
  have H1 := H1n
  have H2 := H2n
  clear H1n H2n
  go_wp2
  go_ret2
  exact ⟨rfl, B2.out⟩
set_option maxRecDepth 100000 in
set_option maxHeartbeats 1000000 in
theorem pk_of_32 {c : Bool} {k m p y : Int} {V : Value} (w : World) (hT : Tab w) (HP : ∀ W, Tab W → Calls Tryz.prog 162 #[.agg #[.int .u64 2147483648, .int .u64 2139095040, .int .i64 23, .int .i64 (-149)], .agg #[.bool c, .int .i64 k, .int .u64 m, .int .i64 p]] W fun e w' => e = .returned (.tuple #[.int .u64 y, V]) ∧ Below W.heap.size W w') : Calls Tryz.prog 143 #[.agg #[.bool c, .int .i64 k, .int .u64 m, .int .i64 p], .int .i64 32] w fun e w' => e = .returned (.tuple #[.int .u64 y, V]) ∧ Below w.heap.size w w' := by
  have H := fun W => shapeOf_32 W
  have HT : Hid (Tab w) := hT
  clear hT
  go_enter Tryz.func143, Tryz.ntmps143
  go_wp2_with fail
  refine (H _).mono ?_
  rintro e w1 ⟨rfl, hb⟩
  have B1 : Hid (Below w.heap.size w w1) := ((Below.refl _ _).alloc (Nat.le_refl _) _).trans (hb.mono (by simp))
  have T1 : Hid (FlB w1 w.heap.size _ _ _ _) := (FlB.new w (.bool c) (.int .i64 k) (.int .u64 m) (.int .i64 p) 90).step hb
  clear hb
  obtain ⟨l, a0, a1, a2, a3, _, _, _, _⟩ := T1.out
  go_wp2_with fail
  refine (HP _ (HT.out.below (B1.out.alloc (Nat.le_of_lt l) _) HT.out.pos)).mono ?_
  rintro e w2 ⟨rfl, hb⟩
  have B2 : Hid (Below w.heap.size w w2) := (B1.out.alloc (Nat.le_of_lt l) _).trans (hb.mono (by simp; omega))
  clear hb
  go_wp2
  go_ret2
  exact ⟨rfl, B2.out⟩
set_option maxRecDepth 100000 in
set_option maxHeartbeats 1000000 in
theorem pk_of_64 {c : Bool} {k m p y : Int} {V : Value} (w : World) (hT : Tab w) (HP : ∀ W, Tab W → Calls Tryz.prog 162 #[.agg #[.int .u64 9223372036854775808, .int .u64 9218868437227405312, .int .i64 52, .int .i64 (-1074)], .agg #[.bool c, .int .i64 k, .int .u64 m, .int .i64 p]] W fun e w' => e = .returned (.tuple #[.int .u64 y, V]) ∧ Below W.heap.size W w') : Calls Tryz.prog 143 #[.agg #[.bool c, .int .i64 k, .int .u64 m, .int .i64 p], .int .i64 64] w fun e w' => e = .returned (.tuple #[.int .u64 y, V]) ∧ Below w.heap.size w w' := by
  have H := fun W => shapeOf_64 W
  have HT : Hid (Tab w) := hT
  clear hT
  go_enter Tryz.func143, Tryz.ntmps143
  go_wp2_with fail
  refine (H _).mono ?_
  rintro e w1 ⟨rfl, hb⟩
  have B1 : Hid (Below w.heap.size w w1) := ((Below.refl _ _).alloc (Nat.le_refl _) _).trans (hb.mono (by simp))
  have T1 : Hid (FlB w1 w.heap.size _ _ _ _) := (FlB.new w (.bool c) (.int .i64 k) (.int .u64 m) (.int .i64 p) 90).step hb
  clear hb
  obtain ⟨l, a0, a1, a2, a3, _, _, _, _⟩ := T1.out
  go_wp2_with fail
  refine (HP _ (HT.out.below (B1.out.alloc (Nat.le_of_lt l) _) HT.out.pos)).mono ?_
  rintro e w2 ⟨rfl, hb⟩
  have B2 : Hid (Below w.heap.size w w2) := (B1.out.alloc (Nat.le_of_lt l) _).trans (hb.mono (by simp; omega))
  clear hb
  go_wp2
  go_ret2
  exact ⟨rfl, B2.out⟩
end Go.Proofs.YtfoaeholbidngaaGreatDoor
