/-
  Holds: VBtA.
-/
import Derived.Laws.BitsAllLaws
import Derived.Test.YtjagnfddmlkalaaGreatDoorRows
import Derived.WalkKit
import Derived.BigQuiet
import Derived.Deep.RegionHeld3
import Derived.Test.YtjagnfddmlkalaaGreatDoorKj10
set_option maxRecDepth 100000
set_option maxHeartbeats 4000000
namespace Go.Proofs.YtjagnfddmlkalaaGreatDoor
open Go.RowKit
structure ShB (w W : World) (a b c d : Value) : Prop where
 sz : w.heap.size + 1 ≤ W.heap.size
 bel : Below w.heap.size w W
 a0 : W.cell? ⟨w.heap.size, 0, none⟩ = some a
 a1 : W.cell? ⟨w.heap.size, 1, none⟩ = some b
 a2 : W.cell? ⟨w.heap.size, 2, none⟩ = some c
 a3 : W.cell? ⟨w.heap.size, 3, none⟩ = some d
theorem ShB.step {w W W' : World} {a b c d : Value} (h : ShB w W a b c d) (hb : Below W.heap.size W W') : ShB w W' a b c d := by
 have z := h.sz
 have k : ∀ o, W'.cell? ⟨w.heap.size, o, none⟩ = W.cell? ⟨w.heap.size, o, none⟩ := fun o => hb.cell (p := ⟨w.heap.size, o, none⟩) (by show w.heap.size < W.heap.size; omega)
 exact ⟨Nat.le_trans z hb.size, h.bel.trans (hb.mono (by omega)), (k 0).trans h.a0, (k 1).trans h.a1, (k 2).trans h.a2, (k 3).trans h.a3⟩
theorem ShB.start (w : World) (a b c d : Value) (T : TypeId) : ShB w (w.alloc (.cells #[a, b, c, d] T)) a b c d :=
 ⟨by simp, (Below.refl _ _).alloc (Nat.le_refl _) _, by simp, by simp, by simp, by simp⟩
theorem ShB.drew {w W : World} {a b c d : Value} (h : ShB w W a b c d) : ShB w W.drew a b c d := h.step (Below.refl _ _).drew
theorem single_any (w : World) : Calls Tryz.prog 109 #[] w fun e w' => e = .returned (.agg #[.int .u64 2147483648, .int .u64 2139095040, .int .i64 23, .int .i64 (-149)]) ∧ Below w.heap.size w w' := by
 go_enter Tryz.func109, Tryz.ntmps109
 go_wp2
 exact bodyPost_ret (v := .agg #[.int .u64 2147483648, .int .u64 2139095040, .int .i64 23, .int .i64 (-149)]) (by simp [results, Tryz.results109, go_sem]) rfl ⟨rfl, (Below.refl _ _).alloc (Nat.le_refl _) _⟩
theorem double_any (w : World) : Calls Tryz.prog 110 #[] w fun e w' => e = .returned (.agg #[.int .u64 9223372036854775808, .int .u64 9218868437227405312, .int .i64 52, .int .i64 (-1074)]) ∧ Below w.heap.size w w' := by
 go_enter Tryz.func110, Tryz.ntmps110
 go_wp2
 exact bodyPost_ret (v := .agg #[.int .u64 9223372036854775808, .int .u64 9218868437227405312, .int .i64 52, .int .i64 (-1074)]) (by simp [results, Tryz.results110, go_sem]) rfl ⟨rfl, (Below.refl _ _).alloc (Nat.le_refl _) _⟩
theorem hidden_32 (w : World) : Calls Tryz.prog 111 #[.agg #[.int .u64 2147483648, .int .u64 2139095040, .int .i64 23, .int .i64 (-149)]] w fun e w' => e = .returned (.int .u64 8388608) ∧ Below w.heap.size w w' := by
 go_enter Tryz.func111, Tryz.ntmps111
 go_wp2
 go_ret
 exact ⟨rfl, (Below.refl _ _).alloc (Nat.le_refl _) _⟩
theorem negative_32 {b : Nat} (h : b < 4294967296) (w : World) : Calls Tryz.prog 61 #[.agg #[.int .u64 2147483648, .int .u64 2139095040, .int .i64 23, .int .i64 (-149)], .int .u64 (b : Int)] w fun e w' => e = .returned (.bool (ng 2147483648 b)) ∧ Below w.heap.size w w' := by
 have hA := and_sign_32 b h
 cases q : ng 2147483648 b
 all_goals
  rw [q] at hA
  simp only [if_true, if_false, Bool.false_eq_true] at hA
  clear q h
  go_enter Tryz.func61, Tryz.ntmps61
  go_wp2
  go_ret
  exact ⟨rfl, (Below.refl _ _).alloc (Nat.le_refl _) _⟩
theorem magnitude_32 {b : Nat} (h : b < 4294967296) (w : World) : Calls Tryz.prog 64 #[.agg #[.int .u64 2147483648, .int .u64 2139095040, .int .i64 23, .int .i64 (-149)], .int .u64 (b : Int)] w fun e w' => e = .returned (.int .u64 ((mg 2147483648 b : Nat) : Int)) ∧ Below w.heap.size w w' := by
 have hA := andNot_32 b h
 clear h
 go_enter Tryz.func64, Tryz.ntmps64
 go_wp2
 go_ret
 exact ⟨rfl, (Below.refl _ _).alloc (Nat.le_refl _) _⟩
theorem class_32 {b : Nat} (h : b < 4294967296) (w : World) : Calls Tryz.prog 62 #[.agg #[.int .u64 2147483648, .int .u64 2139095040, .int .i64 23, .int .i64 (-149)], .int .u64 (b : Int)] w fun e w' => e = .returned (.int .i64 (cl 2139095040 (mg 2147483648 b))) ∧ Below w.heap.size w w' := by
 have HM := fun W => magnitude_32 h W
 have hl := mg_lt (g := 2147483648) (by decide) b
 generalize mg 2147483648 b = x at *
 have C := cl_cases 2139095040 x
 have C2 : (((x : Int) == 0) = true ∧ cl 2139095040 x = 1) ∨ (((x : Int) == 0) = false ∧ decide ((x : Int) < 2139095040) = true ∧ cl 2139095040 x = 2) ∨ (((x : Int) == 0) = false ∧ decide ((x : Int) < 2139095040) = false ∧ ((x : Int) == 2139095040) = true ∧ cl 2139095040 x = 3) ∨ (((x : Int) == 0) = false ∧ decide ((x : Int) < 2139095040) = false ∧ ((x : Int) == 2139095040) = false ∧ cl 2139095040 x = 4) := by
  rcases C with ⟨p, q⟩ | ⟨p0, p1, q⟩ | ⟨p0, p1, q⟩ | ⟨p1, q⟩
  · exact .inl ⟨by simp; omega, q⟩
  · exact .inr (.inl ⟨by simp; omega, by simp; omega, q⟩)
  · exact .inr (.inr (.inl ⟨by simp; omega, by simp; omega, by simp; omega, q⟩))
  · exact .inr (.inr (.inr ⟨by simp; omega, by simp; omega, by simp; omega, q⟩))
 clear C h hl
 generalize cl 2139095040 x = C at *
 rcases C2 with ⟨p0, rfl⟩ | ⟨p0, p1, rfl⟩ | ⟨p0, p1, p2, rfl⟩ | ⟨p0, p1, p2, rfl⟩
 all_goals
  go_enter Tryz.func62, Tryz.ntmps62
  go_wp2_with fail
  refine (HM _).mono ?_
  rintro e w1 ⟨rfl, hb⟩
  have T : Hid (ShB w w1 _ _ _ _) := (ShB.start w (.int .u64 2147483648) (.int .u64 2139095040) (.int .i64 23) (.int .i64 (-149)) 66).step hb
  clear hb
  obtain ⟨_, _, a0, a1, a2, a3⟩ := T.out
  go_wp2
  go_ret
  exact ⟨rfl, T.out.bel⟩
theorem fine_32 {x : Nat} (h : x < 2147483648) (w : World) : Calls Tryz.prog 63 #[.agg #[.int .u64 2147483648, .int .u64 2139095040, .int .i64 23, .int .i64 (-149)], .int .u64 (x : Int)] w fun e w' => e = .returned (.tuple #[.int .u64 ((mt 23 x : Nat) : Int), .int .i64 (xp 23 (-149) x)]) ∧ Below w.heap.size w w' := by
 have HH := fun W => hidden_32 W
 have hM := and_mask_32 (m := x) (by omega)
 have lo := Nat.mod_lt x (show 0 < 8388608 by decide)
 have hO := or_hid_32 lo
 have E1 : Hid (mt 23 x = if x / 8388608 = 0 then x else x % 8388608 + 8388608) := rfl
 have E2 : Hid (xp 23 (-149) x = if x / 8388608 = 0 then (-149) else (-149) + ((x / 8388608 : Nat) : Int) - 1) := rfl
 have E3 : Hid (x / 8388608 * 8388608 + x % 8388608 = x) := Nat.div_add_mod' x 8388608
 have hq : x / 8388608 < 2048 := by omega
 have eq : (x : Int) / 8388608 = ((x / 8388608 : Nat) : Int) := rfl
 obtain ⟨r, hr⟩ : ∃ r, r = x % 8388608 := ⟨_, rfl⟩
 obtain ⟨k, hk⟩ : ∃ k, k = x / 8388608 := ⟨_, rfl⟩
 rw [← hr] at hM hO lo E1 E3
 rw [← hk] at hq eq E1 E2 E3
 have HR : Hid (r = x % 8388608) := hr
 have HK : Hid (k = x / 8388608) := hk
 clear hr hk
 by_cases z : k = 0
 · have e0 : ((k : Int) == 0) = true := by simp; omega
   have F : Hid (mt 23 x = r ∧ xp 23 (-149) x = (-149)) := ⟨by rw [E1.out, if_pos z]; have := E3.out; rw [z] at this; omega, by rw [E2.out, if_pos z]⟩
   rw [F.out.1, F.out.2]
   clear z
   go_enter Tryz.func63, Tryz.ntmps63
   go_wp2_with fail
   refine (HH _).mono ?_
   rintro e w1 ⟨rfl, hb⟩
   have T : Hid (ShB w w1 _ _ _ _) := (ShB.start w (.int .u64 2147483648) (.int .u64 2139095040) (.int .i64 23) (.int .i64 (-149)) 66).step hb
   clear hb
   obtain ⟨_, _, a0, a1, a2, a3⟩ := T.out
   go_wp2
   go_region_held3 (fun w' => w'.cell? ⟨w.heap.size, 0, none⟩ = some (.int .u64 2147483648) ∧ w'.cell? ⟨w.heap.size, 1, none⟩ = some (.int .u64 2139095040) ∧ w'.cell? ⟨w.heap.size, 2, none⟩ = some (.int .i64 23) ∧ w'.cell? ⟨w.heap.size, 3, none⟩ = some (.int .i64 (-149))) (simp [*, go_sem]) (fail)
   go_wp2
   go_ret2
   exact ⟨rfl, T.out.bel.drew⟩
 · have e0 : ((k : Int) == 0) = false := by simp; omega
   have F : Hid (mt 23 x = r + 8388608 ∧ xp 23 (-149) x = (-149) + (k : Int) - 1) := ⟨by rw [E1.out, if_neg z], by rw [E2.out, if_neg z]⟩
   rw [F.out.1, F.out.2]
   have i1 : IntKind.i64.wrap ((-149) + (k : Int)) = (-149) + (k : Int) := IntWalk.i64_in _ ⟨by omega, by omega⟩
   have i2 : IntKind.i64.wrap ((-149) + (k : Int) - 1) = (-149) + (k : Int) - 1 := IntWalk.i64_in _ ⟨by omega, by omega⟩
   go_enter Tryz.func63, Tryz.ntmps63
   go_wp2_with fail
   refine (HH _).mono ?_
   rintro e w1 ⟨rfl, hb⟩
   have T : Hid (ShB w w1 _ _ _ _) := (ShB.start w (.int .u64 2147483648) (.int .u64 2139095040) (.int .i64 23) (.int .i64 (-149)) 66).step hb
   clear hb
   obtain ⟨_, _, a0, a1, a2, a3⟩ := T.out
   go_wp2
   go_region_held3 (fun w' => w'.cell? ⟨w.heap.size, 0, none⟩ = some (.int .u64 2147483648) ∧ w'.cell? ⟨w.heap.size, 1, none⟩ = some (.int .u64 2139095040) ∧ w'.cell? ⟨w.heap.size, 2, none⟩ = some (.int .i64 23) ∧ w'.cell? ⟨w.heap.size, 3, none⟩ = some (.int .i64 (-149))) (simp [*, go_sem])
    (first | (go_at_call 111; refine (HH _).mono ?_; rintro x w2 ⟨rfl, hb2⟩; have T2 : Hid (ShB w w2 _ _ _ _) := T.out.drew.step hb2; clear hb2; obtain ⟨_, _, b0, b1, b2, b3⟩ := T2.out))
   go_wp2
   go_ret2
   exact ⟨rfl, T2.out.bel⟩
theorem hidden_64 (w : World) : Calls Tryz.prog 111 #[.agg #[.int .u64 9223372036854775808, .int .u64 9218868437227405312, .int .i64 52, .int .i64 (-1074)]] w fun e w' => e = .returned (.int .u64 4503599627370496) ∧ Below w.heap.size w w' := by
 go_enter Tryz.func111, Tryz.ntmps111
 go_wp2
 go_ret
 exact ⟨rfl, (Below.refl _ _).alloc (Nat.le_refl _) _⟩
theorem negative_64 {b : Nat} (h : b < 18446744073709551616) (w : World) : Calls Tryz.prog 61 #[.agg #[.int .u64 9223372036854775808, .int .u64 9218868437227405312, .int .i64 52, .int .i64 (-1074)], .int .u64 (b : Int)] w fun e w' => e = .returned (.bool (ng 9223372036854775808 b)) ∧ Below w.heap.size w w' := by
 have hA := and_sign_64 b h
 cases q : ng 9223372036854775808 b
 all_goals
  rw [q] at hA
  simp only [if_true, if_false, Bool.false_eq_true] at hA
  clear q h
  go_enter Tryz.func61, Tryz.ntmps61
  go_wp2
  go_ret
  exact ⟨rfl, (Below.refl _ _).alloc (Nat.le_refl _) _⟩
theorem magnitude_64 {b : Nat} (h : b < 18446744073709551616) (w : World) : Calls Tryz.prog 64 #[.agg #[.int .u64 9223372036854775808, .int .u64 9218868437227405312, .int .i64 52, .int .i64 (-1074)], .int .u64 (b : Int)] w fun e w' => e = .returned (.int .u64 ((mg 9223372036854775808 b : Nat) : Int)) ∧ Below w.heap.size w w' := by
 have hA := andNot_64 b h
 clear h
 go_enter Tryz.func64, Tryz.ntmps64
 go_wp2
 go_ret
 exact ⟨rfl, (Below.refl _ _).alloc (Nat.le_refl _) _⟩
theorem class_64 {b : Nat} (h : b < 18446744073709551616) (w : World) : Calls Tryz.prog 62 #[.agg #[.int .u64 9223372036854775808, .int .u64 9218868437227405312, .int .i64 52, .int .i64 (-1074)], .int .u64 (b : Int)] w fun e w' => e = .returned (.int .i64 (cl 9218868437227405312 (mg 9223372036854775808 b))) ∧ Below w.heap.size w w' := by
 have HM := fun W => magnitude_64 h W
 have hl := mg_lt (g := 9223372036854775808) (by decide) b
 generalize mg 9223372036854775808 b = x at *
 have C := cl_cases 9218868437227405312 x
 have C2 : (((x : Int) == 0) = true ∧ cl 9218868437227405312 x = 1) ∨ (((x : Int) == 0) = false ∧ decide ((x : Int) < 9218868437227405312) = true ∧ cl 9218868437227405312 x = 2) ∨ (((x : Int) == 0) = false ∧ decide ((x : Int) < 9218868437227405312) = false ∧ ((x : Int) == 9218868437227405312) = true ∧ cl 9218868437227405312 x = 3) ∨ (((x : Int) == 0) = false ∧ decide ((x : Int) < 9218868437227405312) = false ∧ ((x : Int) == 9218868437227405312) = false ∧ cl 9218868437227405312 x = 4) := by
  rcases C with ⟨p, q⟩ | ⟨p0, p1, q⟩ | ⟨p0, p1, q⟩ | ⟨p1, q⟩
  · exact .inl ⟨by simp; omega, q⟩
  · exact .inr (.inl ⟨by simp; omega, by simp; omega, q⟩)
  · exact .inr (.inr (.inl ⟨by simp; omega, by simp; omega, by simp; omega, q⟩))
  · exact .inr (.inr (.inr ⟨by simp; omega, by simp; omega, by simp; omega, q⟩))
 clear C h hl
 generalize cl 9218868437227405312 x = C at *
 rcases C2 with ⟨p0, rfl⟩ | ⟨p0, p1, rfl⟩ | ⟨p0, p1, p2, rfl⟩ | ⟨p0, p1, p2, rfl⟩
 all_goals
  go_enter Tryz.func62, Tryz.ntmps62
  go_wp2_with fail
  refine (HM _).mono ?_
  rintro e w1 ⟨rfl, hb⟩
  have T : Hid (ShB w w1 _ _ _ _) := (ShB.start w (.int .u64 9223372036854775808) (.int .u64 9218868437227405312) (.int .i64 52) (.int .i64 (-1074)) 66).step hb
  clear hb
  obtain ⟨_, _, a0, a1, a2, a3⟩ := T.out
  go_wp2
  go_ret
  exact ⟨rfl, T.out.bel⟩
theorem fine_64 {x : Nat} (h : x < 9223372036854775808) (w : World) : Calls Tryz.prog 63 #[.agg #[.int .u64 9223372036854775808, .int .u64 9218868437227405312, .int .i64 52, .int .i64 (-1074)], .int .u64 (x : Int)] w fun e w' => e = .returned (.tuple #[.int .u64 ((mt 52 x : Nat) : Int), .int .i64 (xp 52 (-1074) x)]) ∧ Below w.heap.size w w' := by
 have HH := fun W => hidden_64 W
 have hM := and_mask_64 (m := x) (by omega)
 have lo := Nat.mod_lt x (show 0 < 4503599627370496 by decide)
 have hO := or_hid_64 lo
 have E1 : Hid (mt 52 x = if x / 4503599627370496 = 0 then x else x % 4503599627370496 + 4503599627370496) := rfl
 have E2 : Hid (xp 52 (-1074) x = if x / 4503599627370496 = 0 then (-1074) else (-1074) + ((x / 4503599627370496 : Nat) : Int) - 1) := rfl
 have E3 : Hid (x / 4503599627370496 * 4503599627370496 + x % 4503599627370496 = x) := Nat.div_add_mod' x 4503599627370496
 have hq : x / 4503599627370496 < 2048 := by omega
 have eq : (x : Int) / 4503599627370496 = ((x / 4503599627370496 : Nat) : Int) := rfl
 obtain ⟨r, hr⟩ : ∃ r, r = x % 4503599627370496 := ⟨_, rfl⟩
 obtain ⟨k, hk⟩ : ∃ k, k = x / 4503599627370496 := ⟨_, rfl⟩
 rw [← hr] at hM hO lo E1 E3
 rw [← hk] at hq eq E1 E2 E3
 have HR : Hid (r = x % 4503599627370496) := hr
 have HK : Hid (k = x / 4503599627370496) := hk
 clear hr hk
 by_cases z : k = 0
 · have e0 : ((k : Int) == 0) = true := by simp; omega
   have F : Hid (mt 52 x = r ∧ xp 52 (-1074) x = (-1074)) := ⟨by rw [E1.out, if_pos z]; have := E3.out; rw [z] at this; omega, by rw [E2.out, if_pos z]⟩
   rw [F.out.1, F.out.2]
   clear z
   go_enter Tryz.func63, Tryz.ntmps63
   go_wp2_with fail
   refine (HH _).mono ?_
   rintro e w1 ⟨rfl, hb⟩
   have T : Hid (ShB w w1 _ _ _ _) := (ShB.start w (.int .u64 9223372036854775808) (.int .u64 9218868437227405312) (.int .i64 52) (.int .i64 (-1074)) 66).step hb
   clear hb
   obtain ⟨_, _, a0, a1, a2, a3⟩ := T.out
   go_wp2
   go_region_held3 (fun w' => w'.cell? ⟨w.heap.size, 0, none⟩ = some (.int .u64 9223372036854775808) ∧ w'.cell? ⟨w.heap.size, 1, none⟩ = some (.int .u64 9218868437227405312) ∧ w'.cell? ⟨w.heap.size, 2, none⟩ = some (.int .i64 52) ∧ w'.cell? ⟨w.heap.size, 3, none⟩ = some (.int .i64 (-1074))) (simp [*, go_sem]) (fail)
   go_wp2
   go_ret2
   exact ⟨rfl, T.out.bel.drew⟩
 · have e0 : ((k : Int) == 0) = false := by simp; omega
   have F : Hid (mt 52 x = r + 4503599627370496 ∧ xp 52 (-1074) x = (-1074) + (k : Int) - 1) := ⟨by rw [E1.out, if_neg z], by rw [E2.out, if_neg z]⟩
   rw [F.out.1, F.out.2]
   have i1 : IntKind.i64.wrap ((-1074) + (k : Int)) = (-1074) + (k : Int) := IntWalk.i64_in _ ⟨by omega, by omega⟩
   have i2 : IntKind.i64.wrap ((-1074) + (k : Int) - 1) = (-1074) + (k : Int) - 1 := IntWalk.i64_in _ ⟨by omega, by omega⟩
   go_enter Tryz.func63, Tryz.ntmps63
   go_wp2_with fail
   refine (HH _).mono ?_
   rintro e w1 ⟨rfl, hb⟩
   have T : Hid (ShB w w1 _ _ _ _) := (ShB.start w (.int .u64 9223372036854775808) (.int .u64 9218868437227405312) (.int .i64 52) (.int .i64 (-1074)) 66).step hb
   clear hb
   obtain ⟨_, _, a0, a1, a2, a3⟩ := T.out
   go_wp2
   go_region_held3 (fun w' => w'.cell? ⟨w.heap.size, 0, none⟩ = some (.int .u64 9223372036854775808) ∧ w'.cell? ⟨w.heap.size, 1, none⟩ = some (.int .u64 9218868437227405312) ∧ w'.cell? ⟨w.heap.size, 2, none⟩ = some (.int .i64 52) ∧ w'.cell? ⟨w.heap.size, 3, none⟩ = some (.int .i64 (-1074))) (simp [*, go_sem])
    (first | (go_at_call 111; refine (HH _).mono ?_; rintro x w2 ⟨rfl, hb2⟩; have T2 : Hid (ShB w w2 _ _ _ _) := T.out.drew.step hb2; clear hb2; obtain ⟨_, _, b0, b1, b2, b3⟩ := T2.out))
   go_wp2
   go_ret2
   exact ⟨rfl, T2.out.bel⟩
end Go.Proofs.YtjagnfddmlkalaaGreatDoor
