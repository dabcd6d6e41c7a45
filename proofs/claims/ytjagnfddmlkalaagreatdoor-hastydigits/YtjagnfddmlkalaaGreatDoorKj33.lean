/-
  Holds: VBtR.
-/
import Derived.Laws.BitsAllLaws
import Derived.Test.YtjagnfddmlkalaaGreatDoorRows
import Derived.WalkKit
import Derived.BigQuiet
import Derived.Deep.RegionHeld3
import Derived.Deep.DeepCutAuto
import Derived.Test.YtjagnfddmlkalaaGreatDoorKj10
set_option maxRecDepth 100000
set_option maxHeartbeats 4000000
namespace Go.Proofs.YtjagnfddmlkalaaGreatDoor
open Go.RowKit
theorem rfrac_32 (w : World) : Calls Tryz.prog 48 #[.int .i64 32] w fun e w' => e = .returned (.int .i64 23) ∧ w' = w := by
 go_enter Tryz.func48, Tryz.ntmps48
 go_wp2
 go_ret
 exact ⟨rfl, rfl⟩
theorem rtop_32 (w : World) : Calls Tryz.prog 122 #[.int .i64 32] w fun e w' => e = .returned (.int .u64 255) ∧ w' = w := by
 go_enter Tryz.func122, Tryz.ntmps122
 go_wp2
 go_ret
 exact ⟨rfl, rfl⟩
theorem rlow_32 (w : World) : Calls Tryz.prog 49 #[.int .i64 32] w fun e w' => e = .returned (.int .i64 (-149)) ∧ w' = w := by
 go_enter Tryz.func49, Tryz.ntmps49
 go_wp2
 go_ret
 exact ⟨rfl, rfl⟩
theorem rsign_32 (w : World) : Calls Tryz.prog 88 #[.int .i64 32] w fun e w' => e = .returned (.int .u64 2147483648) ∧ w' = w := by
 go_enter Tryz.func88, Tryz.ntmps88
 go_wp2
 go_ret
 exact ⟨rfl, rfl⟩
theorem rsize_32 (w : World) : Calls Tryz.prog 75 #[.int .i64 32] w fun e w' => e = .returned (.bool true) ∧ w' = w := by
 go_enter Tryz.func75, Tryz.ntmps75
 go_wp2
 go_ret
 exact ⟨rfl, rfl⟩
theorem rinf_32 (w : World) : Calls Tryz.prog 76 #[.int .i64 32] w fun e w' => e = .returned (.int .u64 2139095040) ∧ w' = w := by
 have H1 := fun W => rtop_32 W
 have H2 := fun W => rfrac_32 W
 go_enter Tryz.func76, Tryz.ntmps76
 go_wp2_with fail
 refine (H1 _).mono ?_
 rintro e w ⟨rfl, rfl⟩
 go_wp2_with fail
 refine (H2 _).mono ?_
 rintro e w ⟨rfl, rfl⟩
 go_wp2
 go_ret
 exact ⟨rfl, rfl⟩
theorem rmag_32 {b : Nat} (h : b < 4294967296) (w : World) : Calls Tryz.prog 47 #[.int .u64 (b : Int), .int .i64 32] w fun e w' => e = .returned (.int .u64 ((mg 2147483648 b : Nat) : Int)) ∧ w' = w := by
 have hA := andNot_32 b h
 have H1 := fun W => rsign_32 W
 clear h
 go_enter Tryz.func47, Tryz.ntmps47
 go_wp2_with fail
 refine (H1 _).mono ?_
 rintro e w ⟨rfl, rfl⟩
 go_wp2
 go_ret
 exact ⟨rfl, rfl⟩
theorem rof_32 {b : Nat} (h : b < 4294967296) (w : World) : Calls Tryz.prog 37 #[.int .u64 (b : Int), .int .i64 32] w fun e w' => e = .returned (.int .i64 (cl 2139095040 (mg 2147483648 b))) ∧ w' = w := by
 have HM := fun W => rmag_32 h W
 have HI := fun W => rinf_32 W
 generalize mg 2147483648 b = x at *
 have C := cl_cases 2139095040 x
 have C2 : (((x : Int) == 0) = true ∧ cl 2139095040 x = 1) ∨ (((x : Int) == 0) = false ∧ decide ((x : Int) < 2139095040) = true ∧ cl 2139095040 x = 2) ∨ (((x : Int) == 0) = false ∧ decide ((x : Int) < 2139095040) = false ∧ ((x : Int) == 2139095040) = true ∧ cl 2139095040 x = 3) ∨ (((x : Int) == 0) = false ∧ decide ((x : Int) < 2139095040) = false ∧ ((x : Int) == 2139095040) = false ∧ cl 2139095040 x = 4) := by
  rcases C with ⟨p, q⟩ | ⟨p0, p1, q⟩ | ⟨p0, p1, q⟩ | ⟨p1, q⟩
  · exact .inl ⟨by simp; omega, q⟩
  · exact .inr (.inl ⟨by simp; omega, by simp; omega, q⟩)
  · exact .inr (.inr (.inl ⟨by simp; omega, by simp; omega, by simp; omega, q⟩))
  · exact .inr (.inr (.inr ⟨by simp; omega, by simp; omega, by simp; omega, q⟩))
 clear C h
 generalize cl 2139095040 x = C at *
 rcases C2 with ⟨p0, rfl⟩ | ⟨p0, p1, rfl⟩ | ⟨p0, p1, p2, rfl⟩ | ⟨p0, p1, p2, rfl⟩
 · go_enter Tryz.func37, Tryz.ntmps37
   go_wp2_with fail
   refine (HM _).mono ?_
   rintro e w ⟨rfl, rfl⟩
   go_wp2
   go_ret
   exact ⟨rfl, rfl⟩
 · go_enter Tryz.func37, Tryz.ntmps37
   go_wp2_with fail
   refine (HM _).mono ?_
   rintro e w ⟨rfl, rfl⟩
   go_wp2_with fail
   refine (HI _).mono ?_
   rintro e w ⟨rfl, rfl⟩
   go_wp2
   go_ret
   exact ⟨rfl, rfl⟩
 · go_enter Tryz.func37, Tryz.ntmps37
   go_wp2_with fail
   refine (HM _).mono ?_
   rintro e w ⟨rfl, rfl⟩
   go_wp2_with fail
   refine (HI _).mono ?_
   rintro e w ⟨rfl, rfl⟩
   go_wp2_with fail
   refine (HI _).mono ?_
   rintro e w ⟨rfl, rfl⟩
   go_wp2
   go_ret
   exact ⟨rfl, rfl⟩
 · go_enter Tryz.func37, Tryz.ntmps37
   go_wp2_with fail
   refine (HM _).mono ?_
   rintro e w ⟨rfl, rfl⟩
   go_wp2_with fail
   refine (HI _).mono ?_
   rintro e w ⟨rfl, rfl⟩
   go_wp2_with fail
   refine (HI _).mono ?_
   rintro e w ⟨rfl, rfl⟩
   go_wp2
   go_ret
   exact ⟨rfl, rfl⟩
theorem rparts_32 {b : Nat} (h : b < 4294967296) (w : World) : Calls Tryz.prog 21 #[.int .u64 (b : Int), .int .i64 32] w fun e w' => e = .returned (.tuple #[.int .u64 ((mt 23 (mg 2147483648 b) : Nat) : Int), .int .i64 (xp 23 (-149) (mg 2147483648 b))]) ∧ w' = w := by
 have HM := fun W => rmag_32 h W
 have H2 := fun W => rfrac_32 W
 have H3 := fun W => rlow_32 W
 have hl := mg_lt (g := 2147483648) (by decide) b
 generalize mg 2147483648 b = x at *
 clear h
 have hM := and_mask_32 (m := x) (by omega)
 have lo := Nat.mod_lt x (show 0 < 8388608 by decide)
 have hO := or_hid_32 lo
 have E1 : Hid (mt 23 x = if x / 8388608 = 0 then x else x % 8388608 + 8388608) := rfl
 have E2 : Hid (xp 23 (-149) x = if x / 8388608 = 0 then (-149) else (-149) + ((x / 8388608 : Nat) : Int) - 1) := rfl
 have E3 : Hid (x / 8388608 * 8388608 + x % 8388608 = x) := Nat.div_add_mod' x 8388608
 have hq : x / 8388608 < 2048 := by omega
 have eq : (x : Int) / 8388608 = ((x / 8388608 : Nat) : Int) := rfl
 obtain ⟨y, hr⟩ : ∃ y, y = x % 8388608 := ⟨_, rfl⟩
 obtain ⟨k, hk⟩ : ∃ k, k = x / 8388608 := ⟨_, rfl⟩
 rw [← hr] at hM hO lo E1 E3
 rw [← hk] at hq eq E1 E2 E3
 clear hr hk
 by_cases z : k = 0
 · have e0 : ((k : Int) == 0) = true := by simp; omega
   have G : Hid (mt 23 x = y ∧ xp 23 (-149) x = (-149)) := ⟨by rw [E1.out, if_pos z]; have := E3.out; rw [z] at this; omega, by rw [E2.out, if_pos z]⟩
   rw [G.out.1, G.out.2]
   clear z
   go_enter Tryz.func21, Tryz.ntmps21
   go_wp2_with fail
   refine (HM _).mono ?_
   rintro e w ⟨rfl, rfl⟩
   go_wp2_with fail
   refine (H2 _).mono ?_
   rintro e w ⟨rfl, rfl⟩
   go_wp2_with fail
   refine (H3 _).mono ?_
   rintro e w ⟨rfl, rfl⟩
   go_wp2
   go_ret2
   exact ⟨rfl, rfl⟩
 · have e0 : ((k : Int) == 0) = false := by simp; omega
   have G : Hid (mt 23 x = y + 8388608 ∧ xp 23 (-149) x = (-149) + (k : Int) - 1) := ⟨by rw [E1.out, if_neg z], by rw [E2.out, if_neg z]⟩
   rw [G.out.1, G.out.2]
   clear z
   go_enter Tryz.func21, Tryz.ntmps21
   go_wp2_with fail
   refine (HM _).mono ?_
   rintro e w ⟨rfl, rfl⟩
   go_wp2_with fail
   refine (H2 _).mono ?_
   rintro e w ⟨rfl, rfl⟩
   go_wp2_with fail
   refine (H3 _).mono ?_
   rintro e w ⟨rfl, rfl⟩
   go_wp2
   go_ret2
   exact ⟨rfl, rfl⟩
theorem rfrac_64 (w : World) : Calls Tryz.prog 48 #[.int .i64 64] w fun e w' => e = .returned (.int .i64 52) ∧ w' = w := by
 go_enter Tryz.func48, Tryz.ntmps48
 go_wp2
 go_ret
 exact ⟨rfl, rfl⟩
theorem rtop_64 (w : World) : Calls Tryz.prog 122 #[.int .i64 64] w fun e w' => e = .returned (.int .u64 2047) ∧ w' = w := by
 go_enter Tryz.func122, Tryz.ntmps122
 go_wp2
 go_ret
 exact ⟨rfl, rfl⟩
theorem rlow_64 (w : World) : Calls Tryz.prog 49 #[.int .i64 64] w fun e w' => e = .returned (.int .i64 (-1074)) ∧ w' = w := by
 go_enter Tryz.func49, Tryz.ntmps49
 go_wp2
 go_ret
 exact ⟨rfl, rfl⟩
theorem rsign_64 (w : World) : Calls Tryz.prog 88 #[.int .i64 64] w fun e w' => e = .returned (.int .u64 9223372036854775808) ∧ w' = w := by
 go_enter Tryz.func88, Tryz.ntmps88
 go_wp2
 go_ret
 exact ⟨rfl, rfl⟩
theorem rsize_64 (w : World) : Calls Tryz.prog 75 #[.int .i64 64] w fun e w' => e = .returned (.bool true) ∧ w' = w := by
 go_enter Tryz.func75, Tryz.ntmps75
 go_wp2
 go_ret
 exact ⟨rfl, rfl⟩
theorem rinf_64 (w : World) : Calls Tryz.prog 76 #[.int .i64 64] w fun e w' => e = .returned (.int .u64 9218868437227405312) ∧ w' = w := by
 have H1 := fun W => rtop_64 W
 have H2 := fun W => rfrac_64 W
 go_enter Tryz.func76, Tryz.ntmps76
 go_wp2_with fail
 refine (H1 _).mono ?_
 rintro e w ⟨rfl, rfl⟩
 go_wp2_with fail
 refine (H2 _).mono ?_
 rintro e w ⟨rfl, rfl⟩
 go_wp2
 go_ret
 exact ⟨rfl, rfl⟩
theorem rmag_64 {b : Nat} (h : b < 18446744073709551616) (w : World) : Calls Tryz.prog 47 #[.int .u64 (b : Int), .int .i64 64] w fun e w' => e = .returned (.int .u64 ((mg 9223372036854775808 b : Nat) : Int)) ∧ w' = w := by
 have hA := andNot_64 b h
 have H1 := fun W => rsign_64 W
 clear h
 go_enter Tryz.func47, Tryz.ntmps47
 go_wp2_with fail
 refine (H1 _).mono ?_
 rintro e w ⟨rfl, rfl⟩
 go_wp2
 go_ret
 exact ⟨rfl, rfl⟩
theorem rof_64 {b : Nat} (h : b < 18446744073709551616) (w : World) : Calls Tryz.prog 37 #[.int .u64 (b : Int), .int .i64 64] w fun e w' => e = .returned (.int .i64 (cl 9218868437227405312 (mg 9223372036854775808 b))) ∧ w' = w := by
 have HM := fun W => rmag_64 h W
 have HI := fun W => rinf_64 W
 generalize mg 9223372036854775808 b = x at *
 have C := cl_cases 9218868437227405312 x
 have C2 : (((x : Int) == 0) = true ∧ cl 9218868437227405312 x = 1) ∨ (((x : Int) == 0) = false ∧ decide ((x : Int) < 9218868437227405312) = true ∧ cl 9218868437227405312 x = 2) ∨ (((x : Int) == 0) = false ∧ decide ((x : Int) < 9218868437227405312) = false ∧ ((x : Int) == 9218868437227405312) = true ∧ cl 9218868437227405312 x = 3) ∨ (((x : Int) == 0) = false ∧ decide ((x : Int) < 9218868437227405312) = false ∧ ((x : Int) == 9218868437227405312) = false ∧ cl 9218868437227405312 x = 4) := by
  rcases C with ⟨p, q⟩ | ⟨p0, p1, q⟩ | ⟨p0, p1, q⟩ | ⟨p1, q⟩
  · exact .inl ⟨by simp; omega, q⟩
  · exact .inr (.inl ⟨by simp; omega, by simp; omega, q⟩)
  · exact .inr (.inr (.inl ⟨by simp; omega, by simp; omega, by simp; omega, q⟩))
  · exact .inr (.inr (.inr ⟨by simp; omega, by simp; omega, by simp; omega, q⟩))
 clear C h
 generalize cl 9218868437227405312 x = C at *
 rcases C2 with ⟨p0, rfl⟩ | ⟨p0, p1, rfl⟩ | ⟨p0, p1, p2, rfl⟩ | ⟨p0, p1, p2, rfl⟩
 · go_enter Tryz.func37, Tryz.ntmps37
   go_wp2_with fail
   refine (HM _).mono ?_
   rintro e w ⟨rfl, rfl⟩
   go_wp2
   go_ret
   exact ⟨rfl, rfl⟩
 · go_enter Tryz.func37, Tryz.ntmps37
   go_wp2_with fail
   refine (HM _).mono ?_
   rintro e w ⟨rfl, rfl⟩
   go_wp2_with fail
   refine (HI _).mono ?_
   rintro e w ⟨rfl, rfl⟩
   go_wp2
   go_ret
   exact ⟨rfl, rfl⟩
 · go_enter Tryz.func37, Tryz.ntmps37
   go_wp2_with fail
   refine (HM _).mono ?_
   rintro e w ⟨rfl, rfl⟩
   go_wp2_with fail
   refine (HI _).mono ?_
   rintro e w ⟨rfl, rfl⟩
   go_wp2_with fail
   refine (HI _).mono ?_
   rintro e w ⟨rfl, rfl⟩
   go_wp2
   go_ret
   exact ⟨rfl, rfl⟩
 · go_enter Tryz.func37, Tryz.ntmps37
   go_wp2_with fail
   refine (HM _).mono ?_
   rintro e w ⟨rfl, rfl⟩
   go_wp2_with fail
   refine (HI _).mono ?_
   rintro e w ⟨rfl, rfl⟩
   go_wp2_with fail
   refine (HI _).mono ?_
   rintro e w ⟨rfl, rfl⟩
   go_wp2
   go_ret
   exact ⟨rfl, rfl⟩
theorem rparts_64 {b : Nat} (h : b < 18446744073709551616) (w : World) : Calls Tryz.prog 21 #[.int .u64 (b : Int), .int .i64 64] w fun e w' => e = .returned (.tuple #[.int .u64 ((mt 52 (mg 9223372036854775808 b) : Nat) : Int), .int .i64 (xp 52 (-1074) (mg 9223372036854775808 b))]) ∧ w' = w := by
 have HM := fun W => rmag_64 h W
 have H2 := fun W => rfrac_64 W
 have H3 := fun W => rlow_64 W
 have hl := mg_lt (g := 9223372036854775808) (by decide) b
 generalize mg 9223372036854775808 b = x at *
 clear h
 have hM := and_mask_64 (m := x) (by omega)
 have lo := Nat.mod_lt x (show 0 < 4503599627370496 by decide)
 have hO := or_hid_64 lo
 have E1 : Hid (mt 52 x = if x / 4503599627370496 = 0 then x else x % 4503599627370496 + 4503599627370496) := rfl
 have E2 : Hid (xp 52 (-1074) x = if x / 4503599627370496 = 0 then (-1074) else (-1074) + ((x / 4503599627370496 : Nat) : Int) - 1) := rfl
 have E3 : Hid (x / 4503599627370496 * 4503599627370496 + x % 4503599627370496 = x) := Nat.div_add_mod' x 4503599627370496
 have hq : x / 4503599627370496 < 2048 := by omega
 have eq : (x : Int) / 4503599627370496 = ((x / 4503599627370496 : Nat) : Int) := rfl
 obtain ⟨y, hr⟩ : ∃ y, y = x % 4503599627370496 := ⟨_, rfl⟩
 obtain ⟨k, hk⟩ : ∃ k, k = x / 4503599627370496 := ⟨_, rfl⟩
 rw [← hr] at hM hO lo E1 E3
 rw [← hk] at hq eq E1 E2 E3
 clear hr hk
 by_cases z : k = 0
 · have e0 : ((k : Int) == 0) = true := by simp; omega
   have G : Hid (mt 52 x = y ∧ xp 52 (-1074) x = (-1074)) := ⟨by rw [E1.out, if_pos z]; have := E3.out; rw [z] at this; omega, by rw [E2.out, if_pos z]⟩
   rw [G.out.1, G.out.2]
   clear z
   go_enter Tryz.func21, Tryz.ntmps21
   go_wp2_with fail
   refine (HM _).mono ?_
   rintro e w ⟨rfl, rfl⟩
   go_wp2_with fail
   refine (H2 _).mono ?_
   rintro e w ⟨rfl, rfl⟩
   go_wp2_with fail
   refine (H3 _).mono ?_
   rintro e w ⟨rfl, rfl⟩
   go_wp2
   go_ret2
   exact ⟨rfl, rfl⟩
 · have e0 : ((k : Int) == 0) = false := by simp; omega
   have G : Hid (mt 52 x = y + 4503599627370496 ∧ xp 52 (-1074) x = (-1074) + (k : Int) - 1) := ⟨by rw [E1.out, if_neg z], by rw [E2.out, if_neg z]⟩
   rw [G.out.1, G.out.2]
   clear z
   go_enter Tryz.func21, Tryz.ntmps21
   go_wp2_with fail
   refine (HM _).mono ?_
   rintro e w ⟨rfl, rfl⟩
   go_wp2_with fail
   refine (H2 _).mono ?_
   rintro e w ⟨rfl, rfl⟩
   go_wp2_with fail
   refine (H3 _).mono ?_
   rintro e w ⟨rfl, rfl⟩
   go_wp2
   go_ret2
   exact ⟨rfl, rfl⟩
theorem rsize_no {s : Int} (h : Sn s) (w : World) : Calls Tryz.prog 75 #[.int .i64 s] w fun e w' => e = .returned (.bool false) ∧ w' = w := by
 have p1 : (s == 32) = false := by simpa using h.1
 have p2 : (s == 64) = false := by simpa using h.2
 clear h
 go_enter Tryz.func75, Tryz.ntmps75
 go_wp2
 go_ret
 exact ⟨rfl, rfl⟩
theorem rcheck_no {s : Int} (h : Sn s) (b : Int) (w : World) : Calls Tryz.prog 36 #[.int .u64 b, .int .i64 s] w fun e w' => e = .returned (.int .i64 5) ∧ w' = w := by
 have H := fun W => rsize_no h W
 go_enter Tryz.func36, Tryz.ntmps36
 go_wp2_with fail
 refine (H _).mono ?_
 rintro e w ⟨rfl, rfl⟩
 go_wp2
 go_ret
 exact ⟨rfl, rfl⟩
theorem rcheck_big {b : Nat} (h : 4294967296 ≤ b) (w : World) : Calls Tryz.prog 36 #[.int .u64 (b : Int), .int .i64 32] w fun e w' => e = .returned (.int .i64 1) ∧ w' = w := by
 have H := fun W => rsize_32 W
 have q : ((b : Int) / 4294967296 != 0) = true := by simp; omega
 go_enter Tryz.func36, Tryz.ntmps36
 go_wp2_with fail
 refine (H _).mono ?_
 rintro e w ⟨rfl, rfl⟩
 go_wp2
 go_ret
 exact ⟨rfl, rfl⟩
theorem rcheck_32 {b : Nat} (h : b < 4294967296) (w : World) : Calls Tryz.prog 36 #[.int .u64 (b : Int), .int .i64 32] w fun e w' => e = .returned (.int .i64 0) ∧ w' = w := by
 have H := fun W => rsize_32 W
 have q : ((b : Int) / 4294967296 != 0) = false := by simp; omega
 go_enter Tryz.func36, Tryz.ntmps36
 go_wp2_with fail
 refine (H _).mono ?_
 rintro e w ⟨rfl, rfl⟩
 go_wp2
 go_ret
 exact ⟨rfl, rfl⟩
theorem rcheck_64 (b : Int) (w : World) : Calls Tryz.prog 36 #[.int .u64 b, .int .i64 64] w fun e w' => e = .returned (.int .i64 0) ∧ w' = w := by
 have H := fun W => rsize_64 W
 go_enter Tryz.func36, Tryz.ntmps36
 go_wp2_with fail
 refine (H _).mono ?_
 rintro e w ⟨rfl, rfl⟩
 go_wp2
 go_ret
 exact ⟨rfl, rfl⟩
end Go.Proofs.YtjagnfddmlkalaaGreatDoor
