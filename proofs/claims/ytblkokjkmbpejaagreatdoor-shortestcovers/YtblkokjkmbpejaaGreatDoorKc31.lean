/-
  Holds: VBtR.
-/
import Derived.Laws.BitsAllLaws
import Derived.Test.YtblkokjkmbpejaaGreatDoorRows
import Derived.WalkKit
import Derived.BigQuiet
import Derived.Deep.RegionHeld3
import Derived.Deep.DeepCutAuto
import Derived.Test.YtblkokjkmbpejaaGreatDoorKc10
set_option maxRecDepth 100000
set_option maxHeartbeats 4000000
namespace Go.Proofs.YtblkokjkmbpejaaGreatDoor
open Go.RowKit
theorem rfrac_32 (w : World) : Calls Tryz.prog 67 #[.int .i64 32] w fun e w' => e = .returned (.int .i64 23) ∧ w' = w := by
 go_enter Tryz.func67, Tryz.ntmps67
 go_wp2
 go_ret
 exact ⟨rfl, rfl⟩
theorem rtop_32 (w : World) : Calls Tryz.prog 135 #[.int .i64 32] w fun e w' => e = .returned (.int .u64 255) ∧ w' = w := by
 go_enter Tryz.func135, Tryz.ntmps135
 go_wp2
 go_ret
 exact ⟨rfl, rfl⟩
theorem rlow_32 (w : World) : Calls Tryz.prog 68 #[.int .i64 32] w fun e w' => e = .returned (.int .i64 (-149)) ∧ w' = w := by
 go_enter Tryz.func68, Tryz.ntmps68
 go_wp2
 go_ret
 exact ⟨rfl, rfl⟩
theorem rsign_32 (w : World) : Calls Tryz.prog 42 #[.int .i64 32] w fun e w' => e = .returned (.int .u64 2147483648) ∧ w' = w := by
 go_enter Tryz.func42, Tryz.ntmps42
 go_wp2
 go_ret
 exact ⟨rfl, rfl⟩
theorem rsize_32 (w : World) : Calls Tryz.prog 74 #[.int .i64 32] w fun e w' => e = .returned (.bool true) ∧ w' = w := by
 go_enter Tryz.func74, Tryz.ntmps74
 go_wp2
 go_ret
 exact ⟨rfl, rfl⟩
theorem rinf_32 (w : World) : Calls Tryz.prog 101 #[.int .i64 32] w fun e w' => e = .returned (.int .u64 2139095040) ∧ w' = w := by
 have H1 := fun W => rtop_32 W
 have H2 := fun W => rfrac_32 W
 go_enter Tryz.func101, Tryz.ntmps101
 go_wp2_with fail
 refine (H1 _).mono ?_
 rintro e w ⟨rfl, rfl⟩
 go_wp2_with fail
 refine (H2 _).mono ?_
 rintro e w ⟨rfl, rfl⟩
 go_wp2
 go_ret
 exact ⟨rfl, rfl⟩
theorem rInf_32 (w : World) : Calls Tryz.prog 116 #[.int .i64 32] w fun e w' => e = .returned (.int .u64 2139095040) ∧ w' = w := by
 have H1 := fun W => rinf_32 W
 go_enter Tryz.func116, Tryz.ntmps116
 go_wp2_with fail
 refine (H1 _).mono ?_
 rintro e w ⟨rfl, rfl⟩
 go_wp2
 go_ret
 exact ⟨rfl, rfl⟩
theorem rmag_32 {b : Nat} (h : b < 4294967296) (w : World) : Calls Tryz.prog 21 #[.int .u64 (b : Int), .int .i64 32] w fun e w' => e = .returned (.int .u64 ((mg 2147483648 b : Nat) : Int)) ∧ w' = w := by
 have hA := andNot_32 b h
 have H1 := fun W => rsign_32 W
 clear h
 go_enter Tryz.func21, Tryz.ntmps21
 go_wp2_with fail
 refine (H1 _).mono ?_
 rintro e w ⟨rfl, rfl⟩
 go_wp2
 go_ret
 exact ⟨rfl, rfl⟩
theorem rsigned_32 {x : Nat} (h : x < 2147483648) (c : Bool) (w : World) : Calls Tryz.prog 139 #[.bool c, .int .u64 (x : Int), .int .i64 32] w fun e w' => e = .returned (.int .u64 ((sgd 2147483648 c x : Nat) : Int)) ∧ w' = w := by
 have hA := or_sign_32 h
 have HS := fun W => rsign_32 W
 clear h
 cases c
 · go_enter Tryz.func139, Tryz.ntmps139
   go_wp2
   go_ret
   exact ⟨rfl, rfl⟩
 · go_enter Tryz.func139, Tryz.ntmps139
   go_wp2_with fail
   refine (HS _).mono ?_
   rintro e w ⟨rfl, rfl⟩
   go_wp2
   go_ret
   exact ⟨rfl, rfl⟩
theorem rfrac_64 (w : World) : Calls Tryz.prog 67 #[.int .i64 64] w fun e w' => e = .returned (.int .i64 52) ∧ w' = w := by
 go_enter Tryz.func67, Tryz.ntmps67
 go_wp2
 go_ret
 exact ⟨rfl, rfl⟩
theorem rtop_64 (w : World) : Calls Tryz.prog 135 #[.int .i64 64] w fun e w' => e = .returned (.int .u64 2047) ∧ w' = w := by
 go_enter Tryz.func135, Tryz.ntmps135
 go_wp2
 go_ret
 exact ⟨rfl, rfl⟩
theorem rlow_64 (w : World) : Calls Tryz.prog 68 #[.int .i64 64] w fun e w' => e = .returned (.int .i64 (-1074)) ∧ w' = w := by
 go_enter Tryz.func68, Tryz.ntmps68
 go_wp2
 go_ret
 exact ⟨rfl, rfl⟩
theorem rsign_64 (w : World) : Calls Tryz.prog 42 #[.int .i64 64] w fun e w' => e = .returned (.int .u64 9223372036854775808) ∧ w' = w := by
 go_enter Tryz.func42, Tryz.ntmps42
 go_wp2
 go_ret
 exact ⟨rfl, rfl⟩
theorem rsize_64 (w : World) : Calls Tryz.prog 74 #[.int .i64 64] w fun e w' => e = .returned (.bool true) ∧ w' = w := by
 go_enter Tryz.func74, Tryz.ntmps74
 go_wp2
 go_ret
 exact ⟨rfl, rfl⟩
theorem rinf_64 (w : World) : Calls Tryz.prog 101 #[.int .i64 64] w fun e w' => e = .returned (.int .u64 9218868437227405312) ∧ w' = w := by
 have H1 := fun W => rtop_64 W
 have H2 := fun W => rfrac_64 W
 go_enter Tryz.func101, Tryz.ntmps101
 go_wp2_with fail
 refine (H1 _).mono ?_
 rintro e w ⟨rfl, rfl⟩
 go_wp2_with fail
 refine (H2 _).mono ?_
 rintro e w ⟨rfl, rfl⟩
 go_wp2
 go_ret
 exact ⟨rfl, rfl⟩
theorem rInf_64 (w : World) : Calls Tryz.prog 116 #[.int .i64 64] w fun e w' => e = .returned (.int .u64 9218868437227405312) ∧ w' = w := by
 have H1 := fun W => rinf_64 W
 go_enter Tryz.func116, Tryz.ntmps116
 go_wp2_with fail
 refine (H1 _).mono ?_
 rintro e w ⟨rfl, rfl⟩
 go_wp2
 go_ret
 exact ⟨rfl, rfl⟩
theorem rmag_64 {b : Nat} (h : b < 18446744073709551616) (w : World) : Calls Tryz.prog 21 #[.int .u64 (b : Int), .int .i64 64] w fun e w' => e = .returned (.int .u64 ((mg 9223372036854775808 b : Nat) : Int)) ∧ w' = w := by
 have hA := andNot_64 b h
 have H1 := fun W => rsign_64 W
 clear h
 go_enter Tryz.func21, Tryz.ntmps21
 go_wp2_with fail
 refine (H1 _).mono ?_
 rintro e w ⟨rfl, rfl⟩
 go_wp2
 go_ret
 exact ⟨rfl, rfl⟩
theorem rsigned_64 {x : Nat} (h : x < 9223372036854775808) (c : Bool) (w : World) : Calls Tryz.prog 139 #[.bool c, .int .u64 (x : Int), .int .i64 64] w fun e w' => e = .returned (.int .u64 ((sgd 9223372036854775808 c x : Nat) : Int)) ∧ w' = w := by
 have hA := or_sign_64 h
 have HS := fun W => rsign_64 W
 clear h
 cases c
 · go_enter Tryz.func139, Tryz.ntmps139
   go_wp2
   go_ret
   exact ⟨rfl, rfl⟩
 · go_enter Tryz.func139, Tryz.ntmps139
   go_wp2_with fail
   refine (HS _).mono ?_
   rintro e w ⟨rfl, rfl⟩
   go_wp2
   go_ret
   exact ⟨rfl, rfl⟩
end Go.Proofs.YtblkokjkmbpejaaGreatDoor
