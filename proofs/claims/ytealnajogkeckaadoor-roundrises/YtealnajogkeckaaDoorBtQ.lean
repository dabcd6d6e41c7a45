/-
  The document's Pack: the float that has these parts, or the errors.
-/
import Derived.Test.YtealnajogkeckaaDoorBtU
import Derived.Test.YtealnajogkeckaaDoorBtK
namespace Go.Proofs.YtealnajogkeckaaDoor
open Go.RowKit

set_option maxRecDepth 100000 in
set_option maxHeartbeats 1000000 in
theorem rpk_no {s : Int} (h : Sn s) (c : Bool) (k m p : Int) (w : World) : Calls Tryd.prog 91 #[.agg #[.bool c, .int .i64 k, .int .u64 m, .int .i64 p], .int .i64 s] w fun e w' => e = .returned (.tuple #[.int .u64 0, .int .i64 5]) ∧ Below w.heap.size w w' := by
  have HS := fun W => rsize_no h W
  clear h
  go_enter Tryd.func91, Tryd.ntmps91
  go_wp2_with fail
  refine (HS _).mono ?_
  rintro e w1 ⟨rfl, hh⟩
  subst hh
  go_wp2
  go_ret2
  exact ⟨rfl, (Below.refl _ _).alloc (Nat.le_refl _) _⟩
set_option maxRecDepth 100000 in
set_option maxHeartbeats 1000000 in
theorem rpk_arg1_32 (c : Bool) {k : Int} (m p : Int) (q : k < 1) (w : World) : Calls Tryd.prog 91 #[.agg #[.bool c, .int .i64 k, .int .u64 m, .int .i64 p], .int .i64 32] w fun e w' => e = .returned (.tuple #[.int .u64 0, .int .i64 1]) ∧ Below w.heap.size w w' := by
  have HS := fun W => rsize_32 W
  go_enter Tryd.func91, Tryd.ntmps91
  go_wp2_with fail
  refine (HS _).mono ?_
  rintro e w1 ⟨rfl, hh⟩
  subst hh
  go_wp2
  go_ret2
  exact ⟨rfl, (Below.refl _ _).alloc (Nat.le_refl _) _⟩
set_option maxRecDepth 100000 in
set_option maxHeartbeats 1000000 in
theorem rpk_arg2_32 (c : Bool) {k : Int} (m p : Int) (q0 : ¬ k < 1) (q : 4 < k) (w : World) : Calls Tryd.prog 91 #[.agg #[.bool c, .int .i64 k, .int .u64 m, .int .i64 p], .int .i64 32] w fun e w' => e = .returned (.tuple #[.int .u64 0, .int .i64 1]) ∧ Below w.heap.size w w' := by
  have HS := fun W => rsize_32 W
  go_enter Tryd.func91, Tryd.ntmps91
  go_wp2_with fail
  refine (HS _).mono ?_
  rintro e w1 ⟨rfl, hh⟩
  subst hh
  go_wp2
  go_ret2
  exact ⟨rfl, (Below.refl _ _).alloc (Nat.le_refl _) _⟩
set_option maxRecDepth 100000 in
set_option maxHeartbeats 1000000 in
theorem rpk_arg3_32 (c : Bool) (p : Int) (w : World) : Calls Tryd.prog 91 #[.agg #[.bool c, .int .i64 2, .int .u64 0, .int .i64 p], .int .i64 32] w fun e w' => e = .returned (.tuple #[.int .u64 0, .int .i64 1]) ∧ Below w.heap.size w w' := by
  have HS := fun W => rsize_32 W
  go_enter Tryd.func91, Tryd.ntmps91
  go_wp2_with fail
  refine (HS _).mono ?_
  rintro e w1 ⟨rfl, hh⟩
  subst hh
  go_wp2
  go_ret2
  exact ⟨rfl, (Below.refl _ _).alloc (Nat.le_refl _) _⟩
set_option maxRecDepth 100000 in
set_option maxHeartbeats 1000000 in
theorem rpk_zero_32 (c : Bool) (m p : Int) (w : World) : Calls Tryd.prog 91 #[.agg #[.bool c, .int .i64 1, .int .u64 m, .int .i64 p], .int .i64 32] w fun e w' => e = .returned (.tuple #[.int .u64 ((sgd 2147483648 c 0 : Nat) : Int), .int .i64 0]) ∧ Below w.heap.size w w' := by
  have HS := fun W => rsize_32 W
  have HG := fun W => rsigned_32 (x := 0) (by decide) c W
  rw [show ((0 : Nat) : Int) = 0 from rfl] at HG
  generalize sgd 2147483648 c 0 = y at *
  go_enter Tryd.func91, Tryd.ntmps91
  go_wp2_with fail
  refine (HS _).mono ?_
  rintro e w1 ⟨rfl, hh⟩
  subst hh
  go_wp2_with fail
  refine (HG _).mono ?_
  rintro e w1 ⟨rfl, hh⟩
  subst hh
  go_wp2
  go_ret2
  exact ⟨rfl, (Below.refl _ _).alloc (Nat.le_refl _) _⟩
set_option maxRecDepth 100000 in
set_option maxHeartbeats 1000000 in
theorem rpk_nan_32 (c : Bool) (m p : Int) (w : World) : Calls Tryd.prog 91 #[.agg #[.bool c, .int .i64 4, .int .u64 m, .int .i64 p], .int .i64 32] w fun e w' => e = .returned (.tuple #[.int .u64 2143289344, .int .i64 0]) ∧ Below w.heap.size w w' := by
  have HS := fun W => rsize_32 W
  have HG := fun W => rnan_32 W
  go_enter Tryd.func91, Tryd.ntmps91
  go_wp2_with fail
  refine (HS _).mono ?_
  rintro e w1 ⟨rfl, hh⟩
  subst hh
  go_wp2_with fail
  refine (HG _).mono ?_
  rintro e w1 ⟨rfl, hh⟩
  subst hh
  go_wp2
  go_ret2
  exact ⟨rfl, (Below.refl _ _).alloc (Nat.le_refl _) _⟩
set_option maxRecDepth 100000 in
set_option maxHeartbeats 1000000 in
theorem rpk_inf_32 (c : Bool) (m p : Int) (w : World) : Calls Tryd.prog 91 #[.agg #[.bool c, .int .i64 3, .int .u64 m, .int .i64 p], .int .i64 32] w fun e w' => e = .returned (.tuple #[.int .u64 ((sgd 2147483648 c 2139095040 : Nat) : Int), .int .i64 0]) ∧ Below w.heap.size w w' := by
  have HS := fun W => rsize_32 W
  have HI := fun W => rinf_32 W
  have HG := fun W => rsigned_32 (x := 2139095040) (by decide) c W
  rw [show ((2139095040 : Nat) : Int) = 2139095040 from rfl] at HG
  generalize sgd 2147483648 c 2139095040 = y at *
  go_enter Tryd.func91, Tryd.ntmps91
  go_wp2_with fail
  refine (HS _).mono ?_
  rintro e w1 ⟨rfl, hh⟩
  subst hh
  go_wp2
  go_region_held3 (fun w' => w'.cell? ⟨w.heap.size, 0, none⟩ = some (.bool c)) (simp [*, go_sem])
    (first
      | (go_at_call 55; refine (HI _).mono ?_; rintro x1 w2 ⟨rfl, hh⟩; subst hh)
      | (go_at_call 30; refine (HG _).mono ?_; rintro x1 w2 ⟨rfl, hh⟩; subst hh))
  go_wp2
  go_ret2
  exact ⟨rfl, ((Below.refl _ _).alloc (Nat.le_refl _) _).drew⟩
set_option maxRecDepth 100000 in
set_option maxHeartbeats 1000000 in
theorem rpk_far1_32 (c : Bool) {m : Nat} {p : Int} (m0 : ((m : Int) == 0) = false) (q : p < -4000) (w : World) : Calls Tryd.prog 91 #[.agg #[.bool c, .int .i64 2, .int .u64 (m : Int), .int .i64 p], .int .i64 32] w fun e w' => e = .returned (.tuple #[.int .u64 0, .int .i64 4]) ∧ Below w.heap.size w w' := by
  have HS := fun W => rsize_32 W
  have HF := fun W => rfrac_32 W
  go_enter Tryd.func91, Tryd.ntmps91
  go_wp2_with fail
  refine (HS _).mono ?_
  rintro e w1 ⟨rfl, hh⟩
  subst hh
  go_wp2
  go_region_held3 (fun w' => w'.cell? ⟨w.heap.size, 2, none⟩ = some (.int .u64 (m : Int)) ∧ w'.cell? ⟨w.heap.size, 3, none⟩ = some (.int .i64 p)) (simp [*, go_sem]) (fail)
  go_wp2_with fail
  refine (HF _).mono ?_
  rintro e w1 ⟨rfl, hh⟩
  subst hh
  go_wp2
  go_ret2
  exact ⟨rfl, ((Below.refl _ _).alloc (Nat.le_refl _) _).drew⟩
set_option maxRecDepth 100000 in
set_option maxHeartbeats 1000000 in
theorem rpk_far2_32 (c : Bool) {m : Nat} {p : Int} (m0 : ((m : Int) == 0) = false) (q0 : ¬ p < -4000) (q : 4000 < p) (w : World) : Calls Tryd.prog 91 #[.agg #[.bool c, .int .i64 2, .int .u64 (m : Int), .int .i64 p], .int .i64 32] w fun e w' => e = .returned (.tuple #[.int .u64 0, .int .i64 4]) ∧ Below w.heap.size w w' := by
  have HS := fun W => rsize_32 W
  have HF := fun W => rfrac_32 W
  go_enter Tryd.func91, Tryd.ntmps91
  go_wp2_with fail
  refine (HS _).mono ?_
  rintro e w1 ⟨rfl, hh⟩
  subst hh
  go_wp2
  go_region_held3 (fun w' => w'.cell? ⟨w.heap.size, 2, none⟩ = some (.int .u64 (m : Int)) ∧ w'.cell? ⟨w.heap.size, 3, none⟩ = some (.int .i64 p)) (simp [*, go_sem]) (fail)
  go_wp2_with fail
  refine (HF _).mono ?_
  rintro e w1 ⟨rfl, hh⟩
  subst hh
  go_wp2
  go_ret2
  exact ⟨rfl, ((Below.refl _ _).alloc (Nat.le_refl _) _).drew⟩
set_option maxRecDepth 100000 in
set_option maxHeartbeats 1000000 in
theorem rpk_arg1_64 (c : Bool) {k : Int} (m p : Int) (q : k < 1) (w : World) : Calls Tryd.prog 91 #[.agg #[.bool c, .int .i64 k, .int .u64 m, .int .i64 p], .int .i64 64] w fun e w' => e = .returned (.tuple #[.int .u64 0, .int .i64 1]) ∧ Below w.heap.size w w' := by
  have HS := fun W => rsize_64 W
  go_enter Tryd.func91, Tryd.ntmps91
  go_wp2_with fail
  refine (HS _).mono ?_
  rintro e w1 ⟨rfl, hh⟩
  subst hh
  go_wp2
  go_ret2
  exact ⟨rfl, (Below.refl _ _).alloc (Nat.le_refl _) _⟩
set_option maxRecDepth 100000 in
set_option maxHeartbeats 1000000 in
theorem rpk_arg2_64 (c : Bool) {k : Int} (m p : Int) (q0 : ¬ k < 1) (q : 4 < k) (w : World) : Calls Tryd.prog 91 #[.agg #[.bool c, .int .i64 k, .int .u64 m, .int .i64 p], .int .i64 64] w fun e w' => e = .returned (.tuple #[.int .u64 0, .int .i64 1]) ∧ Below w.heap.size w w' := by
  have HS := fun W => rsize_64 W
  go_enter Tryd.func91, Tryd.ntmps91
  go_wp2_with fail
  refine (HS _).mono ?_
  rintro e w1 ⟨rfl, hh⟩
  subst hh
  go_wp2
  go_ret2
  exact ⟨rfl, (Below.refl _ _).alloc (Nat.le_refl _) _⟩
set_option maxRecDepth 100000 in
set_option maxHeartbeats 1000000 in
theorem rpk_arg3_64 (c : Bool) (p : Int) (w : World) : Calls Tryd.prog 91 #[.agg #[.bool c, .int .i64 2, .int .u64 0, .int .i64 p], .int .i64 64] w fun e w' => e = .returned (.tuple #[.int .u64 0, .int .i64 1]) ∧ Below w.heap.size w w' := by
  have HS := fun W => rsize_64 W
  go_enter Tryd.func91, Tryd.ntmps91
  go_wp2_with fail
  refine (HS _).mono ?_
  rintro e w1 ⟨rfl, hh⟩
  subst hh
  go_wp2
  go_ret2
  exact ⟨rfl, (Below.refl _ _).alloc (Nat.le_refl _) _⟩
set_option maxRecDepth 100000 in
set_option maxHeartbeats 1000000 in
theorem rpk_zero_64 (c : Bool) (m p : Int) (w : World) : Calls Tryd.prog 91 #[.agg #[.bool c, .int .i64 1, .int .u64 m, .int .i64 p], .int .i64 64] w fun e w' => e = .returned (.tuple #[.int .u64 ((sgd 9223372036854775808 c 0 : Nat) : Int), .int .i64 0]) ∧ Below w.heap.size w w' := by
  have HS := fun W => rsize_64 W
  have HG := fun W => rsigned_64 (x := 0) (by decide) c W
  rw [show ((0 : Nat) : Int) = 0 from rfl] at HG
  generalize sgd 9223372036854775808 c 0 = y at *
  go_enter Tryd.func91, Tryd.ntmps91
  go_wp2_with fail
  refine (HS _).mono ?_
  rintro e w1 ⟨rfl, hh⟩
  subst hh
  go_wp2_with fail
  refine (HG _).mono ?_
  rintro e w1 ⟨rfl, hh⟩
  subst hh
  go_wp2
  go_ret2
  exact ⟨rfl, (Below.refl _ _).alloc (Nat.le_refl _) _⟩
set_option maxRecDepth 100000 in
set_option maxHeartbeats 1000000 in
theorem rpk_nan_64 (c : Bool) (m p : Int) (w : World) : Calls Tryd.prog 91 #[.agg #[.bool c, .int .i64 4, .int .u64 m, .int .i64 p], .int .i64 64] w fun e w' => e = .returned (.tuple #[.int .u64 9221120237041090560, .int .i64 0]) ∧ Below w.heap.size w w' := by
  have HS := fun W => rsize_64 W
  have HG := fun W => rnan_64 W
  go_enter Tryd.func91, Tryd.ntmps91
  go_wp2_with fail
  refine (HS _).mono ?_
  rintro e w1 ⟨rfl, hh⟩
  subst hh
  go_wp2_with fail
  refine (HG _).mono ?_
  rintro e w1 ⟨rfl, hh⟩
  subst hh
  go_wp2
  go_ret2
  exact ⟨rfl, (Below.refl _ _).alloc (Nat.le_refl _) _⟩
set_option maxRecDepth 100000 in
set_option maxHeartbeats 1000000 in
theorem rpk_inf_64 (c : Bool) (m p : Int) (w : World) : Calls Tryd.prog 91 #[.agg #[.bool c, .int .i64 3, .int .u64 m, .int .i64 p], .int .i64 64] w fun e w' => e = .returned (.tuple #[.int .u64 ((sgd 9223372036854775808 c 9218868437227405312 : Nat) : Int), .int .i64 0]) ∧ Below w.heap.size w w' := by
  have HS := fun W => rsize_64 W
  have HI := fun W => rinf_64 W
  have HG := fun W => rsigned_64 (x := 9218868437227405312) (by decide) c W
  rw [show ((9218868437227405312 : Nat) : Int) = 9218868437227405312 from rfl] at HG
  generalize sgd 9223372036854775808 c 9218868437227405312 = y at *
  go_enter Tryd.func91, Tryd.ntmps91
  go_wp2_with fail
  refine (HS _).mono ?_
  rintro e w1 ⟨rfl, hh⟩
  subst hh
  go_wp2
  go_region_held3 (fun w' => w'.cell? ⟨w.heap.size, 0, none⟩ = some (.bool c)) (simp [*, go_sem])
    (first
      | (go_at_call 55; refine (HI _).mono ?_; rintro x1 w2 ⟨rfl, hh⟩; subst hh)
      | (go_at_call 30; refine (HG _).mono ?_; rintro x1 w2 ⟨rfl, hh⟩; subst hh))
  go_wp2
  go_ret2
  exact ⟨rfl, ((Below.refl _ _).alloc (Nat.le_refl _) _).drew⟩
set_option maxRecDepth 100000 in
set_option maxHeartbeats 1000000 in
theorem rpk_far1_64 (c : Bool) {m : Nat} {p : Int} (m0 : ((m : Int) == 0) = false) (q : p < -4000) (w : World) : Calls Tryd.prog 91 #[.agg #[.bool c, .int .i64 2, .int .u64 (m : Int), .int .i64 p], .int .i64 64] w fun e w' => e = .returned (.tuple #[.int .u64 0, .int .i64 4]) ∧ Below w.heap.size w w' := by
  have HS := fun W => rsize_64 W
  have HF := fun W => rfrac_64 W
  go_enter Tryd.func91, Tryd.ntmps91
  go_wp2_with fail
  refine (HS _).mono ?_
  rintro e w1 ⟨rfl, hh⟩
  subst hh
  go_wp2
  go_region_held3 (fun w' => w'.cell? ⟨w.heap.size, 2, none⟩ = some (.int .u64 (m : Int)) ∧ w'.cell? ⟨w.heap.size, 3, none⟩ = some (.int .i64 p)) (simp [*, go_sem]) (fail)
  go_wp2_with fail
  refine (HF _).mono ?_
  rintro e w1 ⟨rfl, hh⟩
  subst hh
  go_wp2
  go_ret2
  exact ⟨rfl, ((Below.refl _ _).alloc (Nat.le_refl _) _).drew⟩
set_option maxRecDepth 100000 in
set_option maxHeartbeats 1000000 in
theorem rpk_far2_64 (c : Bool) {m : Nat} {p : Int} (m0 : ((m : Int) == 0) = false) (q0 : ¬ p < -4000) (q : 4000 < p) (w : World) : Calls Tryd.prog 91 #[.agg #[.bool c, .int .i64 2, .int .u64 (m : Int), .int .i64 p], .int .i64 64] w fun e w' => e = .returned (.tuple #[.int .u64 0, .int .i64 4]) ∧ Below w.heap.size w w' := by
  have HS := fun W => rsize_64 W
  have HF := fun W => rfrac_64 W
  go_enter Tryd.func91, Tryd.ntmps91
  go_wp2_with fail
  refine (HS _).mono ?_
  rintro e w1 ⟨rfl, hh⟩
  subst hh
  go_wp2
  go_region_held3 (fun w' => w'.cell? ⟨w.heap.size, 2, none⟩ = some (.int .u64 (m : Int)) ∧ w'.cell? ⟨w.heap.size, 3, none⟩ = some (.int .i64 p)) (simp [*, go_sem]) (fail)
  go_wp2_with fail
  refine (HF _).mono ?_
  rintro e w1 ⟨rfl, hh⟩
  subst hh
  go_wp2
  go_ret2
  exact ⟨rfl, ((Below.refl _ _).alloc (Nat.le_refl _) _).drew⟩
end Go.Proofs.YtealnajogkeckaaDoor
