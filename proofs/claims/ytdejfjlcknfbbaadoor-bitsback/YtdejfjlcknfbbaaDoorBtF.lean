/-
  bits' and the document's Compare, for every two bits and every size.
-/
import Derived.Test.YtdejfjlcknfbbaaDoorBtE
namespace Go.Proofs.YtdejfjlcknfbbaaDoor
open Go.RowKit

set_option maxRecDepth 100000 in
set_option maxHeartbeats 1000000 in
theorem compare_no {s : Int} (h : Sn s) (a b : Nat) (w : World) : Calls Tryd.prog 32 #[.int .u64 (a : Int), .int .u64 (b : Int), .int .i64 s] w fun e w' => e = .returned (.tuple #[.int .i64 0, .iface 70 (.int .i64 5)]) ∧ Below w.heap.size w w' := by
  by_cases q : a < b
  · have H := fun W => shapeFor_no h (b : Int) W
    go_enter Tryd.func32, Tryd.ntmps32
    go_wp2_with fail
    refine (H _).mono ?_
    rintro e w1 ⟨rfl, hb⟩
    have B : Hid (Below w.heap.size w w1) := hb
    have l := hb.size
    clear hb
    go_wp2
    go_ret2
    exact ⟨rfl, B.out.alloc l _⟩
  · have H := fun W => shapeFor_no h (a : Int) W
    go_enter Tryd.func32, Tryd.ntmps32
    go_wp2_with fail
    refine (H _).mono ?_
    rintro e w1 ⟨rfl, hb⟩
    have B : Hid (Below w.heap.size w w1) := hb
    have l := hb.size
    clear hb
    go_wp2
    go_ret2
    exact ⟨rfl, B.out.alloc l _⟩
set_option maxRecDepth 100000 in
set_option maxHeartbeats 1000000 in
theorem compare_big {a b : Nat} (h : 4294967296 ≤ a ∨ 4294967296 ≤ b) (w : World) : Calls Tryd.prog 32 #[.int .u64 (a : Int), .int .u64 (b : Int), .int .i64 32] w fun e w' => e = .returned (.tuple #[.int .i64 0, .iface 70 (.int .i64 1)]) ∧ Below w.heap.size w w' := by
  by_cases q : a < b
  · have H := fun W => shapeFor_big (b := b) (by omega) W
    clear h
    go_enter Tryd.func32, Tryd.ntmps32
    go_wp2_with fail
    refine (H _).mono ?_
    rintro e w1 ⟨rfl, hb⟩
    have B : Hid (Below w.heap.size w w1) := hb
    have l := hb.size
    clear hb
    go_wp2
    go_ret2
    exact ⟨rfl, B.out.alloc l _⟩
  · have H := fun W => shapeFor_big (b := a) (by omega) W
    clear h
    go_enter Tryd.func32, Tryd.ntmps32
    go_wp2_with fail
    refine (H _).mono ?_
    rintro e w1 ⟨rfl, hb⟩
    have B : Hid (Below w.heap.size w w1) := hb
    have l := hb.size
    clear hb
    go_wp2
    go_ret2
    exact ⟨rfl, B.out.alloc l _⟩
set_option maxRecDepth 100000 in
set_option maxHeartbeats 1000000 in
theorem compare_nan1_32 {a b : Nat} (ha : a < 4294967296) (hb : b < 4294967296) (ka : cl 2139095040 (mg 2147483648 a) = 4) (w : World) : Calls Tryd.prog 32 #[.int .u64 (a : Int), .int .u64 (b : Int), .int .i64 32] w fun e w' => e = .returned (.tuple #[.int .i64 2, .nilIface]) ∧ Below w.heap.size w w' := by
  have CA := fun W => class_32 ha W
  have CB := fun W => class_32 hb W
  rw [ka] at CA
  by_cases q : a < b
  · have H := fun W => shapeFor_32 hb W
    clear ha hb ka
    go_enter Tryd.func32, Tryd.ntmps32
    go_wp2_with fail
    refine (H _).mono ?_
    rintro e w1 ⟨rfl, hb⟩
    have B : Hid (Below w.heap.size w w1) := hb
    have l := hb.size
    clear hb
    go_wp2_with fail
    refine (CA _).mono ?_
    rintro e w2 ⟨rfl, hb⟩
    have T2 : Hid (FlB w2 w1.heap.size _ _ _ _) := (FlB.new w1 _ _ _ _ _).step hb
    have B2 : Hid (Below w.heap.size w w2) := (B.out.alloc l _).trans (hb.mono (by simp; omega))
    clear hb
    obtain ⟨l2, b0, b1, b2, b3, _, _, _, _⟩ := T2.out
    go_wp2
    go_ret2
    exact ⟨rfl, B2.out⟩
  · have H := fun W => shapeFor_32 ha W
    clear ha hb ka
    go_enter Tryd.func32, Tryd.ntmps32
    go_wp2_with fail
    refine (H _).mono ?_
    rintro e w1 ⟨rfl, hb⟩
    have B : Hid (Below w.heap.size w w1) := hb
    have l := hb.size
    clear hb
    go_wp2_with fail
    refine (CA _).mono ?_
    rintro e w2 ⟨rfl, hb⟩
    have T2 : Hid (FlB w2 w1.heap.size _ _ _ _) := (FlB.new w1 _ _ _ _ _).step hb
    have B2 : Hid (Below w.heap.size w w2) := (B.out.alloc l _).trans (hb.mono (by simp; omega))
    clear hb
    obtain ⟨l2, b0, b1, b2, b3, _, _, _, _⟩ := T2.out
    go_wp2
    go_ret2
    exact ⟨rfl, B2.out⟩
set_option maxRecDepth 100000 in
set_option maxHeartbeats 1000000 in
theorem compare_nan2_32 {a b : Nat} (ha : a < 4294967296) (hb : b < 4294967296) (ka : (cl 2139095040 (mg 2147483648 a) == 4) = false) (kb : cl 2139095040 (mg 2147483648 b) = 4) (w : World) : Calls Tryd.prog 32 #[.int .u64 (a : Int), .int .u64 (b : Int), .int .i64 32] w fun e w' => e = .returned (.tuple #[.int .i64 2, .nilIface]) ∧ Below w.heap.size w w' := by
  have CA := fun W => class_32 ha W
  have CB := fun W => class_32 hb W
  rw [kb] at CB
  generalize cl 2139095040 (mg 2147483648 a) = C1 at *
  by_cases q : a < b
  · have H := fun W => shapeFor_32 hb W
    clear ha hb kb
    go_enter Tryd.func32, Tryd.ntmps32
    go_wp2_with fail
    refine (H _).mono ?_
    rintro e w1 ⟨rfl, hb⟩
    have B : Hid (Below w.heap.size w w1) := hb
    have l := hb.size
    clear hb
    go_wp2_with fail
    refine (CA _).mono ?_
    rintro e w2 ⟨rfl, hb⟩
    have T2 : Hid (FlB w2 w1.heap.size _ _ _ _) := (FlB.new w1 _ _ _ _ _).step hb
    have B2 : Hid (Below w.heap.size w w2) := (B.out.alloc l _).trans (hb.mono (by simp; omega))
    clear hb
    obtain ⟨l2, b0, b1, b2, b3, _, _, _, _⟩ := T2.out
    go_wp2_with fail
    refine (CB _).mono ?_
    rintro e w3 ⟨rfl, hb⟩
    have T3 : Hid (FlB w3 w1.heap.size _ _ _ _) := T2.out.step hb
    have B3 : Hid (Below w.heap.size w w3) := B2.out.trans (hb.mono (by omega))
    clear hb
    obtain ⟨l3, c0, c1, c2, c3, _, _, _, _⟩ := T3.out
    go_wp2
    go_ret2
    exact ⟨rfl, B3.out⟩
  · have H := fun W => shapeFor_32 ha W
    clear ha hb kb
    go_enter Tryd.func32, Tryd.ntmps32
    go_wp2_with fail
    refine (H _).mono ?_
    rintro e w1 ⟨rfl, hb⟩
    have B : Hid (Below w.heap.size w w1) := hb
    have l := hb.size
    clear hb
    go_wp2_with fail
    refine (CA _).mono ?_
    rintro e w2 ⟨rfl, hb⟩
    have T2 : Hid (FlB w2 w1.heap.size _ _ _ _) := (FlB.new w1 _ _ _ _ _).step hb
    have B2 : Hid (Below w.heap.size w w2) := (B.out.alloc l _).trans (hb.mono (by simp; omega))
    clear hb
    obtain ⟨l2, b0, b1, b2, b3, _, _, _, _⟩ := T2.out
    go_wp2_with fail
    refine (CB _).mono ?_
    rintro e w3 ⟨rfl, hb⟩
    have T3 : Hid (FlB w3 w1.heap.size _ _ _ _) := T2.out.step hb
    have B3 : Hid (Below w.heap.size w w3) := B2.out.trans (hb.mono (by omega))
    clear hb
    obtain ⟨l3, c0, c1, c2, c3, _, _, _, _⟩ := T3.out
    go_wp2
    go_ret2
    exact ⟨rfl, B3.out⟩
set_option maxRecDepth 100000 in
set_option maxHeartbeats 1000000 in
theorem compare_ok_32 {a b : Nat} (ha : a < 4294967296) (hb : b < 4294967296) (ka : (cl 2139095040 (mg 2147483648 a) == 4) = false) (kb : (cl 2139095040 (mg 2147483648 b) == 4) = false) (w : World) : Calls Tryd.prog 32 #[.int .u64 (a : Int), .int .u64 (b : Int), .int .i64 32] w fun e w' => e = .returned (.tuple #[.int .i64 (cmpI (rk 2147483648 a) (rk 2147483648 b)), .nilIface]) ∧ Below w.heap.size w w' := by
  have CA := fun W => class_32 ha W
  have CB := fun W => class_32 hb W
  have RA := fun W => rank_32 ha W
  have RB := fun W => rank_32 hb W
  have RC := fun W => cmp_64 (rk 2147483648 a) (rk 2147483648 b) W
  generalize cmpI (rk 2147483648 a) (rk 2147483648 b) = RR at *
  generalize rk 2147483648 a = ra at *
  generalize rk 2147483648 b = rb at *
  generalize cl 2139095040 (mg 2147483648 a) = C1 at *
  generalize cl 2139095040 (mg 2147483648 b) = C2 at *
  by_cases q : a < b
  · have H := fun W => shapeFor_32 hb W
    clear ha hb
    go_enter Tryd.func32, Tryd.ntmps32
    go_wp2_with fail
    refine (H _).mono ?_
    rintro e w1 ⟨rfl, hb⟩
    have B : Hid (Below w.heap.size w w1) := hb
    have l := hb.size
    clear hb
    go_wp2_with fail
    refine (CA _).mono ?_
    rintro e w2 ⟨rfl, hb⟩
    have T2 : Hid (FlB w2 w1.heap.size _ _ _ _) := (FlB.new w1 _ _ _ _ _).step hb
    have B2 : Hid (Below w.heap.size w w2) := (B.out.alloc l _).trans (hb.mono (by simp; omega))
    clear hb
    obtain ⟨l2, b0, b1, b2, b3, _, _, _, _⟩ := T2.out
    go_wp2_with fail
    refine (CB _).mono ?_
    rintro e w3 ⟨rfl, hb⟩
    have T3 : Hid (FlB w3 w1.heap.size _ _ _ _) := T2.out.step hb
    have B3 : Hid (Below w.heap.size w w3) := B2.out.trans (hb.mono (by omega))
    clear hb
    obtain ⟨l3, c0, c1, c2, c3, _, _, _, _⟩ := T3.out
    go_wp2
    go_region_held3 (fun w' => w'.cell? ⟨w1.heap.size, 0, none⟩ = some (.int .u64 2147483648) ∧ w'.cell? ⟨w1.heap.size, 1, none⟩ = some (.int .u64 2139095040) ∧ w'.cell? ⟨w1.heap.size, 2, none⟩ = some (.int .i64 23) ∧ w'.cell? ⟨w1.heap.size, 3, none⟩ = some (.int .i64 (-149))) (simp [*, go_sem])
      (first
        | (go_at_call_of 54 (Value.int .u64 (a : Int)); refine (RA _).mono ?_; rintro x1 w4 ⟨rfl, hb⟩; have T4 : Hid (FlB w4 w1.heap.size _ _ _ _) := T3.out.drew.step hb; have B4 : Hid (Below w.heap.size w w4) := B3.out.drew.trans (hb.mono (by simp; omega)); clear hb; obtain ⟨l4, d0, d1, d2, d3, _, _, _, _⟩ := T4.out)
        | (go_at_call_of 54 (Value.int .u64 (b : Int)); refine (RB _).mono ?_; rintro x1 w5 ⟨rfl, hb⟩; have T5 : Hid (FlB w5 w1.heap.size _ _ _ _) := T4.out.step hb; have B5 : Hid (Below w.heap.size w w5) := B4.out.trans (hb.mono (by omega)); clear hb; obtain ⟨l5, g0, g1, g2, g3, _, _, _, _⟩ := T5.out)
        | (go_at_call 53; refine (RC _).mono ?_; rintro x1 w6 ⟨rfl, hh⟩; subst hh))
    go_wp2
    go_ret2
    exact ⟨rfl, B5.out⟩
  · have H := fun W => shapeFor_32 ha W
    clear ha hb
    go_enter Tryd.func32, Tryd.ntmps32
    go_wp2_with fail
    refine (H _).mono ?_
    rintro e w1 ⟨rfl, hb⟩
    have B : Hid (Below w.heap.size w w1) := hb
    have l := hb.size
    clear hb
    go_wp2_with fail
    refine (CA _).mono ?_
    rintro e w2 ⟨rfl, hb⟩
    have T2 : Hid (FlB w2 w1.heap.size _ _ _ _) := (FlB.new w1 _ _ _ _ _).step hb
    have B2 : Hid (Below w.heap.size w w2) := (B.out.alloc l _).trans (hb.mono (by simp; omega))
    clear hb
    obtain ⟨l2, b0, b1, b2, b3, _, _, _, _⟩ := T2.out
    go_wp2_with fail
    refine (CB _).mono ?_
    rintro e w3 ⟨rfl, hb⟩
    have T3 : Hid (FlB w3 w1.heap.size _ _ _ _) := T2.out.step hb
    have B3 : Hid (Below w.heap.size w w3) := B2.out.trans (hb.mono (by omega))
    clear hb
    obtain ⟨l3, c0, c1, c2, c3, _, _, _, _⟩ := T3.out
    go_wp2
    go_region_held3 (fun w' => w'.cell? ⟨w1.heap.size, 0, none⟩ = some (.int .u64 2147483648) ∧ w'.cell? ⟨w1.heap.size, 1, none⟩ = some (.int .u64 2139095040) ∧ w'.cell? ⟨w1.heap.size, 2, none⟩ = some (.int .i64 23) ∧ w'.cell? ⟨w1.heap.size, 3, none⟩ = some (.int .i64 (-149))) (simp [*, go_sem])
      (first
        | (go_at_call_of 54 (Value.int .u64 (a : Int)); refine (RA _).mono ?_; rintro x1 w4 ⟨rfl, hb⟩; have T4 : Hid (FlB w4 w1.heap.size _ _ _ _) := T3.out.drew.step hb; have B4 : Hid (Below w.heap.size w w4) := B3.out.drew.trans (hb.mono (by simp; omega)); clear hb; obtain ⟨l4, d0, d1, d2, d3, _, _, _, _⟩ := T4.out)
        | (go_at_call_of 54 (Value.int .u64 (b : Int)); refine (RB _).mono ?_; rintro x1 w5 ⟨rfl, hb⟩; have T5 : Hid (FlB w5 w1.heap.size _ _ _ _) := T4.out.step hb; have B5 : Hid (Below w.heap.size w w5) := B4.out.trans (hb.mono (by omega)); clear hb; obtain ⟨l5, g0, g1, g2, g3, _, _, _, _⟩ := T5.out)
        | (go_at_call 53; refine (RC _).mono ?_; rintro x1 w6 ⟨rfl, hh⟩; subst hh))
    go_wp2
    go_ret2
    exact ⟨rfl, B5.out⟩
set_option maxRecDepth 100000 in
set_option maxHeartbeats 1000000 in
theorem compare_nan1_64 {a b : Nat} (ha : a < 18446744073709551616) (hb : b < 18446744073709551616) (ka : cl 9218868437227405312 (mg 9223372036854775808 a) = 4) (w : World) : Calls Tryd.prog 32 #[.int .u64 (a : Int), .int .u64 (b : Int), .int .i64 64] w fun e w' => e = .returned (.tuple #[.int .i64 2, .nilIface]) ∧ Below w.heap.size w w' := by
  have CA := fun W => class_64 ha W
  have CB := fun W => class_64 hb W
  rw [ka] at CA
  by_cases q : a < b
  · have H := fun W => shapeFor_64 hb W
    clear ha hb ka
    go_enter Tryd.func32, Tryd.ntmps32
    go_wp2_with fail
    refine (H _).mono ?_
    rintro e w1 ⟨rfl, hb⟩
    have B : Hid (Below w.heap.size w w1) := hb
    have l := hb.size
    clear hb
    go_wp2_with fail
    refine (CA _).mono ?_
    rintro e w2 ⟨rfl, hb⟩
    have T2 : Hid (FlB w2 w1.heap.size _ _ _ _) := (FlB.new w1 _ _ _ _ _).step hb
    have B2 : Hid (Below w.heap.size w w2) := (B.out.alloc l _).trans (hb.mono (by simp; omega))
    clear hb
    obtain ⟨l2, b0, b1, b2, b3, _, _, _, _⟩ := T2.out
    go_wp2
    go_ret2
    exact ⟨rfl, B2.out⟩
  · have H := fun W => shapeFor_64 ha W
    clear ha hb ka
    go_enter Tryd.func32, Tryd.ntmps32
    go_wp2_with fail
    refine (H _).mono ?_
    rintro e w1 ⟨rfl, hb⟩
    have B : Hid (Below w.heap.size w w1) := hb
    have l := hb.size
    clear hb
    go_wp2_with fail
    refine (CA _).mono ?_
    rintro e w2 ⟨rfl, hb⟩
    have T2 : Hid (FlB w2 w1.heap.size _ _ _ _) := (FlB.new w1 _ _ _ _ _).step hb
    have B2 : Hid (Below w.heap.size w w2) := (B.out.alloc l _).trans (hb.mono (by simp; omega))
    clear hb
    obtain ⟨l2, b0, b1, b2, b3, _, _, _, _⟩ := T2.out
    go_wp2
    go_ret2
    exact ⟨rfl, B2.out⟩
set_option maxRecDepth 100000 in
set_option maxHeartbeats 1000000 in
theorem compare_nan2_64 {a b : Nat} (ha : a < 18446744073709551616) (hb : b < 18446744073709551616) (ka : (cl 9218868437227405312 (mg 9223372036854775808 a) == 4) = false) (kb : cl 9218868437227405312 (mg 9223372036854775808 b) = 4) (w : World) : Calls Tryd.prog 32 #[.int .u64 (a : Int), .int .u64 (b : Int), .int .i64 64] w fun e w' => e = .returned (.tuple #[.int .i64 2, .nilIface]) ∧ Below w.heap.size w w' := by
  have CA := fun W => class_64 ha W
  have CB := fun W => class_64 hb W
  rw [kb] at CB
  generalize cl 9218868437227405312 (mg 9223372036854775808 a) = C1 at *
  by_cases q : a < b
  · have H := fun W => shapeFor_64 hb W
    clear ha hb kb
    go_enter Tryd.func32, Tryd.ntmps32
    go_wp2_with fail
    refine (H _).mono ?_
    rintro e w1 ⟨rfl, hb⟩
    have B : Hid (Below w.heap.size w w1) := hb
    have l := hb.size
    clear hb
    go_wp2_with fail
    refine (CA _).mono ?_
    rintro e w2 ⟨rfl, hb⟩
    have T2 : Hid (FlB w2 w1.heap.size _ _ _ _) := (FlB.new w1 _ _ _ _ _).step hb
    have B2 : Hid (Below w.heap.size w w2) := (B.out.alloc l _).trans (hb.mono (by simp; omega))
    clear hb
    obtain ⟨l2, b0, b1, b2, b3, _, _, _, _⟩ := T2.out
    go_wp2_with fail
    refine (CB _).mono ?_
    rintro e w3 ⟨rfl, hb⟩
    have T3 : Hid (FlB w3 w1.heap.size _ _ _ _) := T2.out.step hb
    have B3 : Hid (Below w.heap.size w w3) := B2.out.trans (hb.mono (by omega))
    clear hb
    obtain ⟨l3, c0, c1, c2, c3, _, _, _, _⟩ := T3.out
    go_wp2
    go_ret2
    exact ⟨rfl, B3.out⟩
  · have H := fun W => shapeFor_64 ha W
    clear ha hb kb
    go_enter Tryd.func32, Tryd.ntmps32
    go_wp2_with fail
    refine (H _).mono ?_
    rintro e w1 ⟨rfl, hb⟩
    have B : Hid (Below w.heap.size w w1) := hb
    have l := hb.size
    clear hb
    go_wp2_with fail
    refine (CA _).mono ?_
    rintro e w2 ⟨rfl, hb⟩
    have T2 : Hid (FlB w2 w1.heap.size _ _ _ _) := (FlB.new w1 _ _ _ _ _).step hb
    have B2 : Hid (Below w.heap.size w w2) := (B.out.alloc l _).trans (hb.mono (by simp; omega))
    clear hb
    obtain ⟨l2, b0, b1, b2, b3, _, _, _, _⟩ := T2.out
    go_wp2_with fail
    refine (CB _).mono ?_
    rintro e w3 ⟨rfl, hb⟩
    have T3 : Hid (FlB w3 w1.heap.size _ _ _ _) := T2.out.step hb
    have B3 : Hid (Below w.heap.size w w3) := B2.out.trans (hb.mono (by omega))
    clear hb
    obtain ⟨l3, c0, c1, c2, c3, _, _, _, _⟩ := T3.out
    go_wp2
    go_ret2
    exact ⟨rfl, B3.out⟩
set_option maxRecDepth 100000 in
set_option maxHeartbeats 1000000 in
theorem compare_ok_64 {a b : Nat} (ha : a < 18446744073709551616) (hb : b < 18446744073709551616) (ka : (cl 9218868437227405312 (mg 9223372036854775808 a) == 4) = false) (kb : (cl 9218868437227405312 (mg 9223372036854775808 b) == 4) = false) (w : World) : Calls Tryd.prog 32 #[.int .u64 (a : Int), .int .u64 (b : Int), .int .i64 64] w fun e w' => e = .returned (.tuple #[.int .i64 (cmpI (rk 9223372036854775808 a) (rk 9223372036854775808 b)), .nilIface]) ∧ Below w.heap.size w w' := by
  have CA := fun W => class_64 ha W
  have CB := fun W => class_64 hb W
  have RA := fun W => rank_64 ha W
  have RB := fun W => rank_64 hb W
  have RC := fun W => cmp_64 (rk 9223372036854775808 a) (rk 9223372036854775808 b) W
  generalize cmpI (rk 9223372036854775808 a) (rk 9223372036854775808 b) = RR at *
  generalize rk 9223372036854775808 a = ra at *
  generalize rk 9223372036854775808 b = rb at *
  generalize cl 9218868437227405312 (mg 9223372036854775808 a) = C1 at *
  generalize cl 9218868437227405312 (mg 9223372036854775808 b) = C2 at *
  by_cases q : a < b
  · have H := fun W => shapeFor_64 hb W
    clear ha hb
    go_enter Tryd.func32, Tryd.ntmps32
    go_wp2_with fail
    refine (H _).mono ?_
    rintro e w1 ⟨rfl, hb⟩
    have B : Hid (Below w.heap.size w w1) := hb
    have l := hb.size
    clear hb
    go_wp2_with fail
    refine (CA _).mono ?_
    rintro e w2 ⟨rfl, hb⟩
    have T2 : Hid (FlB w2 w1.heap.size _ _ _ _) := (FlB.new w1 _ _ _ _ _).step hb
    have B2 : Hid (Below w.heap.size w w2) := (B.out.alloc l _).trans (hb.mono (by simp; omega))
    clear hb
    obtain ⟨l2, b0, b1, b2, b3, _, _, _, _⟩ := T2.out
    go_wp2_with fail
    refine (CB _).mono ?_
    rintro e w3 ⟨rfl, hb⟩
    have T3 : Hid (FlB w3 w1.heap.size _ _ _ _) := T2.out.step hb
    have B3 : Hid (Below w.heap.size w w3) := B2.out.trans (hb.mono (by omega))
    clear hb
    obtain ⟨l3, c0, c1, c2, c3, _, _, _, _⟩ := T3.out
    go_wp2
    go_region_held3 (fun w' => w'.cell? ⟨w1.heap.size, 0, none⟩ = some (.int .u64 9223372036854775808) ∧ w'.cell? ⟨w1.heap.size, 1, none⟩ = some (.int .u64 9218868437227405312) ∧ w'.cell? ⟨w1.heap.size, 2, none⟩ = some (.int .i64 52) ∧ w'.cell? ⟨w1.heap.size, 3, none⟩ = some (.int .i64 (-1074))) (simp [*, go_sem])
      (first
        | (go_at_call_of 54 (Value.int .u64 (a : Int)); refine (RA _).mono ?_; rintro x1 w4 ⟨rfl, hb⟩; have T4 : Hid (FlB w4 w1.heap.size _ _ _ _) := T3.out.drew.step hb; have B4 : Hid (Below w.heap.size w w4) := B3.out.drew.trans (hb.mono (by simp; omega)); clear hb; obtain ⟨l4, d0, d1, d2, d3, _, _, _, _⟩ := T4.out)
        | (go_at_call_of 54 (Value.int .u64 (b : Int)); refine (RB _).mono ?_; rintro x1 w5 ⟨rfl, hb⟩; have T5 : Hid (FlB w5 w1.heap.size _ _ _ _) := T4.out.step hb; have B5 : Hid (Below w.heap.size w w5) := B4.out.trans (hb.mono (by omega)); clear hb; obtain ⟨l5, g0, g1, g2, g3, _, _, _, _⟩ := T5.out)
        | (go_at_call 53; refine (RC _).mono ?_; rintro x1 w6 ⟨rfl, hh⟩; subst hh))
    go_wp2
    go_ret2
    exact ⟨rfl, B5.out⟩
  · have H := fun W => shapeFor_64 ha W
    clear ha hb
    go_enter Tryd.func32, Tryd.ntmps32
    go_wp2_with fail
    refine (H _).mono ?_
    rintro e w1 ⟨rfl, hb⟩
    have B : Hid (Below w.heap.size w w1) := hb
    have l := hb.size
    clear hb
    go_wp2_with fail
    refine (CA _).mono ?_
    rintro e w2 ⟨rfl, hb⟩
    have T2 : Hid (FlB w2 w1.heap.size _ _ _ _) := (FlB.new w1 _ _ _ _ _).step hb
    have B2 : Hid (Below w.heap.size w w2) := (B.out.alloc l _).trans (hb.mono (by simp; omega))
    clear hb
    obtain ⟨l2, b0, b1, b2, b3, _, _, _, _⟩ := T2.out
    go_wp2_with fail
    refine (CB _).mono ?_
    rintro e w3 ⟨rfl, hb⟩
    have T3 : Hid (FlB w3 w1.heap.size _ _ _ _) := T2.out.step hb
    have B3 : Hid (Below w.heap.size w w3) := B2.out.trans (hb.mono (by omega))
    clear hb
    obtain ⟨l3, c0, c1, c2, c3, _, _, _, _⟩ := T3.out
    go_wp2
    go_region_held3 (fun w' => w'.cell? ⟨w1.heap.size, 0, none⟩ = some (.int .u64 9223372036854775808) ∧ w'.cell? ⟨w1.heap.size, 1, none⟩ = some (.int .u64 9218868437227405312) ∧ w'.cell? ⟨w1.heap.size, 2, none⟩ = some (.int .i64 52) ∧ w'.cell? ⟨w1.heap.size, 3, none⟩ = some (.int .i64 (-1074))) (simp [*, go_sem])
      (first
        | (go_at_call_of 54 (Value.int .u64 (a : Int)); refine (RA _).mono ?_; rintro x1 w4 ⟨rfl, hb⟩; have T4 : Hid (FlB w4 w1.heap.size _ _ _ _) := T3.out.drew.step hb; have B4 : Hid (Below w.heap.size w w4) := B3.out.drew.trans (hb.mono (by simp; omega)); clear hb; obtain ⟨l4, d0, d1, d2, d3, _, _, _, _⟩ := T4.out)
        | (go_at_call_of 54 (Value.int .u64 (b : Int)); refine (RB _).mono ?_; rintro x1 w5 ⟨rfl, hb⟩; have T5 : Hid (FlB w5 w1.heap.size _ _ _ _) := T4.out.step hb; have B5 : Hid (Below w.heap.size w w5) := B4.out.trans (hb.mono (by omega)); clear hb; obtain ⟨l5, g0, g1, g2, g3, _, _, _, _⟩ := T5.out)
        | (go_at_call 53; refine (RC _).mono ?_; rintro x1 w6 ⟨rfl, hh⟩; subst hh))
    go_wp2
    go_ret2
    exact ⟨rfl, B5.out⟩
set_option maxRecDepth 100000 in
set_option maxHeartbeats 1000000 in
theorem rcompare_no {s : Int} (h : Sn s) (a b : Nat) (w : World) : Calls Tryd.prog 33 #[.int .u64 (a : Int), .int .u64 (b : Int), .int .i64 s] w fun e w' => e = .returned (.tuple #[.int .i64 0, .int .i64 5]) ∧ w' = w := by
  have KA := fun W => rcheck_no h (a : Int) W
  have KB := fun W => rcheck_no h (b : Int) W
  clear h
  go_enter Tryd.func33, Tryd.ntmps33
  go_wp2_with fail
  refine (KA _).mono ?_
  rintro e w ⟨rfl, rfl⟩
  go_wp2_with fail
  refine (KB _).mono ?_
  rintro e w ⟨rfl, rfl⟩
  go_wp2
  go_ret2
  exact ⟨rfl, rfl⟩
set_option maxRecDepth 100000 in
set_option maxHeartbeats 1000000 in
theorem rcompare_big1 {a b : Nat} (h : 4294967296 ≤ a) (h' : 4294967296 ≤ b) (w : World) : Calls Tryd.prog 33 #[.int .u64 (a : Int), .int .u64 (b : Int), .int .i64 32] w fun e w' => e = .returned (.tuple #[.int .i64 0, .int .i64 1]) ∧ w' = w := by
  have KA := fun W => rcheck_big h W
  have KB := fun W => rcheck_big h' W
  clear h h'
  go_enter Tryd.func33, Tryd.ntmps33
  go_wp2_with fail
  refine (KA _).mono ?_
  rintro e w ⟨rfl, rfl⟩
  go_wp2_with fail
  refine (KB _).mono ?_
  rintro e w ⟨rfl, rfl⟩
  go_wp2
  go_ret2
  exact ⟨rfl, rfl⟩
set_option maxRecDepth 100000 in
set_option maxHeartbeats 1000000 in
theorem rcompare_big2 {a b : Nat} (h : 4294967296 ≤ a) (h' : b < 4294967296) (w : World) : Calls Tryd.prog 33 #[.int .u64 (a : Int), .int .u64 (b : Int), .int .i64 32] w fun e w' => e = .returned (.tuple #[.int .i64 0, .int .i64 1]) ∧ w' = w := by
  have KA := fun W => rcheck_big h W
  have KB := fun W => rcheck_32 h' W
  clear h h'
  go_enter Tryd.func33, Tryd.ntmps33
  go_wp2_with fail
  refine (KA _).mono ?_
  rintro e w ⟨rfl, rfl⟩
  go_wp2_with fail
  refine (KB _).mono ?_
  rintro e w ⟨rfl, rfl⟩
  go_wp2
  go_ret2
  exact ⟨rfl, rfl⟩
set_option maxRecDepth 100000 in
set_option maxHeartbeats 1000000 in
theorem rcompare_big3 {a b : Nat} (h : a < 4294967296) (h' : 4294967296 ≤ b) (w : World) : Calls Tryd.prog 33 #[.int .u64 (a : Int), .int .u64 (b : Int), .int .i64 32] w fun e w' => e = .returned (.tuple #[.int .i64 0, .int .i64 1]) ∧ w' = w := by
  have KA := fun W => rcheck_32 h W
  have KB := fun W => rcheck_big h' W
  clear h h'
  go_enter Tryd.func33, Tryd.ntmps33
  go_wp2_with fail
  refine (KA _).mono ?_
  rintro e w ⟨rfl, rfl⟩
  go_wp2_with fail
  refine (KB _).mono ?_
  rintro e w ⟨rfl, rfl⟩
  go_wp2
  go_ret2
  exact ⟨rfl, rfl⟩
set_option maxRecDepth 100000 in
set_option maxHeartbeats 1000000 in
theorem rcompare_nan1_32 {a b : Nat} (ha : a < 4294967296) (hb : b < 4294967296) (ka : cl 2139095040 (mg 2147483648 a) = 4) (w : World) : Calls Tryd.prog 33 #[.int .u64 (a : Int), .int .u64 (b : Int), .int .i64 32] w fun e w' => e = .returned (.tuple #[.int .i64 2, .int .i64 0]) ∧ w' = w := by
  have KA := fun W => rcheck_32 ha W
  have KB := fun W => rcheck_32 hb W
  have OA := fun W => rof_32 ha W
  have OB := fun W => rof_32 hb W
  rw [ka] at OA
  clear ha hb ka
  go_enter Tryd.func33, Tryd.ntmps33
  go_wp2_with fail
  refine (KA _).mono ?_
  rintro e w ⟨rfl, rfl⟩
  go_wp2_with fail
  refine (KB _).mono ?_
  rintro e w ⟨rfl, rfl⟩
  go_wp2_with fail
  refine (OA _).mono ?_
  rintro e w ⟨rfl, rfl⟩
  go_wp2
  go_ret2
  exact ⟨rfl, rfl⟩
set_option maxRecDepth 100000 in
set_option maxHeartbeats 1000000 in
theorem rcompare_nan2_32 {a b : Nat} (ha : a < 4294967296) (hb : b < 4294967296) (ka : (cl 2139095040 (mg 2147483648 a) == 4) = false) (kb : cl 2139095040 (mg 2147483648 b) = 4) (w : World) : Calls Tryd.prog 33 #[.int .u64 (a : Int), .int .u64 (b : Int), .int .i64 32] w fun e w' => e = .returned (.tuple #[.int .i64 2, .int .i64 0]) ∧ w' = w := by
  have KA := fun W => rcheck_32 ha W
  have KB := fun W => rcheck_32 hb W
  have OA := fun W => rof_32 ha W
  have OB := fun W => rof_32 hb W
  rw [kb] at OB
  generalize cl 2139095040 (mg 2147483648 a) = C1 at *
  clear ha hb kb
  go_enter Tryd.func33, Tryd.ntmps33
  go_wp2_with fail
  refine (KA _).mono ?_
  rintro e w ⟨rfl, rfl⟩
  go_wp2_with fail
  refine (KB _).mono ?_
  rintro e w ⟨rfl, rfl⟩
  go_wp2_with fail
  refine (OA _).mono ?_
  rintro e w ⟨rfl, rfl⟩
  go_wp2_with fail
  refine (OB _).mono ?_
  rintro e w ⟨rfl, rfl⟩
  go_wp2
  go_ret2
  exact ⟨rfl, rfl⟩
set_option maxRecDepth 100000 in
set_option maxHeartbeats 1000000 in
theorem rcompare_ok_32 {a b : Nat} (ha : a < 4294967296) (hb : b < 4294967296) (ka : (cl 2139095040 (mg 2147483648 a) == 4) = false) (kb : (cl 2139095040 (mg 2147483648 b) == 4) = false) (w : World) : Calls Tryd.prog 33 #[.int .u64 (a : Int), .int .u64 (b : Int), .int .i64 32] w fun e w' => e = .returned (.tuple #[.int .i64 (cmpI (rk 2147483648 a) (rk 2147483648 b)), .int .i64 0]) ∧ w' = w := by
  have KA := fun W => rcheck_32 ha W
  have KB := fun W => rcheck_32 hb W
  have OA := fun W => rof_32 ha W
  have OB := fun W => rof_32 hb W
  have MA := fun W => rmag_32 ha W
  have MB := fun W => rmag_32 hb W
  have SG := fun W => rsign_32 W
  have la := mg_lt (g := 2147483648) (by decide) a
  have lb := mg_lt (g := 2147483648) (by decide) b
  have hA := and_sign_32 a ha
  have hB := and_sign_32 b hb
  have nA : ((((if ng 2147483648 a then 2147483648 else 0 : Nat) : Int)) != 0) = ng 2147483648 a := by cases ng 2147483648 a <;> decide
  have nB : ((((if ng 2147483648 b then 2147483648 else 0 : Nat) : Int)) != 0) = ng 2147483648 b := by cases ng 2147483648 b <;> decide
  rw [← hA] at nA
  rw [← hB] at nB
  clear hA hB
  obtain ⟨Y1, hY1⟩ : ∃ Y, bits BinOp.and IntKind.u64 (a : Int) 2147483648 = Y := ⟨_, rfl⟩
  obtain ⟨Y2, hY2⟩ : ∃ Y, bits BinOp.and IntKind.u64 (b : Int) 2147483648 = Y := ⟨_, rfl⟩
  rw [hY1] at nA
  rw [hY2] at nB
  unfold rk
  generalize cl 2139095040 (mg 2147483648 a) = C1 at *
  generalize cl 2139095040 (mg 2147483648 b) = C2 at *
  generalize mg 2147483648 a = x at *
  generalize mg 2147483648 b = y at *
  generalize ng 2147483648 a = c at *
  generalize ng 2147483648 b = e at *
  clear ha hb
  have P : ∀ u v : Int, (u < v ∧ cmpI u v = -1) ∨ (¬ u < v ∧ v < u ∧ cmpI u v = 1) ∨ (¬ u < v ∧ ¬ v < u ∧ cmpI u v = 0) := by
    intro u v
    unfold cmpI
    by_cases h1 : u < v
    · rw [if_pos h1]; exact .inl ⟨h1, rfl⟩
    · by_cases h2 : v < u
      · rw [if_neg h1, if_pos h2]; exact .inr (.inl ⟨h1, h2, rfl⟩)
      · rw [if_neg h1, if_neg h2]; exact .inr (.inr ⟨h1, h2, rfl⟩)
  cases c <;> cases e
  · simp only [if_false, Bool.false_eq_true]
    have P1 := P (x : Int) (y : Int)
    clear P
    generalize cmpI (x : Int) (y : Int) = R at *
    rcases P1 with ⟨q, rfl⟩ | ⟨q1, q2, rfl⟩ | ⟨q1, q2, rfl⟩
    · go_enter Tryd.func33, Tryd.ntmps33
      go_wp2_with fail
      refine (KA _).mono ?_
      rintro e w ⟨rfl, rfl⟩
      go_wp2_with fail
      refine (KB _).mono ?_
      rintro e w ⟨rfl, rfl⟩
      go_wp2_with fail
      refine (OA _).mono ?_
      rintro e w ⟨rfl, rfl⟩
      go_wp2_with fail
      refine (OB _).mono ?_
      rintro e w ⟨rfl, rfl⟩
      go_wp2_with fail
      refine (MA _).mono ?_
      rintro e w ⟨rfl, rfl⟩
      go_wp2_with fail
      refine (MB _).mono ?_
      rintro e w ⟨rfl, rfl⟩
      go_wp2_with fail
      refine (SG _).mono ?_
      rintro e w ⟨rfl, rfl⟩
      go_wp2_with fail
      refine (SG _).mono ?_
      rintro e w ⟨rfl, rfl⟩
      go_wp2
      go_ret2
      exact ⟨rfl, rfl⟩
    · go_enter Tryd.func33, Tryd.ntmps33
      go_wp2_with fail
      refine (KA _).mono ?_
      rintro e w ⟨rfl, rfl⟩
      go_wp2_with fail
      refine (KB _).mono ?_
      rintro e w ⟨rfl, rfl⟩
      go_wp2_with fail
      refine (OA _).mono ?_
      rintro e w ⟨rfl, rfl⟩
      go_wp2_with fail
      refine (OB _).mono ?_
      rintro e w ⟨rfl, rfl⟩
      go_wp2_with fail
      refine (MA _).mono ?_
      rintro e w ⟨rfl, rfl⟩
      go_wp2_with fail
      refine (MB _).mono ?_
      rintro e w ⟨rfl, rfl⟩
      go_wp2_with fail
      refine (SG _).mono ?_
      rintro e w ⟨rfl, rfl⟩
      go_wp2_with fail
      refine (SG _).mono ?_
      rintro e w ⟨rfl, rfl⟩
      go_wp2
      go_ret2
      exact ⟨rfl, rfl⟩
    · go_enter Tryd.func33, Tryd.ntmps33
      go_wp2_with fail
      refine (KA _).mono ?_
      rintro e w ⟨rfl, rfl⟩
      go_wp2_with fail
      refine (KB _).mono ?_
      rintro e w ⟨rfl, rfl⟩
      go_wp2_with fail
      refine (OA _).mono ?_
      rintro e w ⟨rfl, rfl⟩
      go_wp2_with fail
      refine (OB _).mono ?_
      rintro e w ⟨rfl, rfl⟩
      go_wp2_with fail
      refine (MA _).mono ?_
      rintro e w ⟨rfl, rfl⟩
      go_wp2_with fail
      refine (MB _).mono ?_
      rintro e w ⟨rfl, rfl⟩
      go_wp2_with fail
      refine (SG _).mono ?_
      rintro e w ⟨rfl, rfl⟩
      go_wp2_with fail
      refine (SG _).mono ?_
      rintro e w ⟨rfl, rfl⟩
      go_wp2
      go_ret2
      exact ⟨rfl, rfl⟩
  · simp only [if_true, if_false, Bool.false_eq_true]
    have P1 := P (x : Int) (-(y : Int))
    clear P
    generalize cmpI (x : Int) (-(y : Int)) = R at *
    rcases P1 with ⟨q, rfl⟩ | ⟨q1, q2, rfl⟩ | ⟨q1, q2, rfl⟩
    · exfalso; omega
    · go_enter Tryd.func33, Tryd.ntmps33
      go_wp2_with fail
      refine (KA _).mono ?_
      rintro e w ⟨rfl, rfl⟩
      go_wp2_with fail
      refine (KB _).mono ?_
      rintro e w ⟨rfl, rfl⟩
      go_wp2_with fail
      refine (OA _).mono ?_
      rintro e w ⟨rfl, rfl⟩
      go_wp2_with fail
      refine (OB _).mono ?_
      rintro e w ⟨rfl, rfl⟩
      go_wp2_with fail
      refine (MA _).mono ?_
      rintro e w ⟨rfl, rfl⟩
      go_wp2_with fail
      refine (MB _).mono ?_
      rintro e w ⟨rfl, rfl⟩
      go_wp2_with fail
      refine (SG _).mono ?_
      rintro e w ⟨rfl, rfl⟩
      go_wp2_with fail
      refine (SG _).mono ?_
      rintro e w ⟨rfl, rfl⟩
      go_wp2
      go_ret2
      exact ⟨rfl, rfl⟩
    · go_enter Tryd.func33, Tryd.ntmps33
      go_wp2_with fail
      refine (KA _).mono ?_
      rintro e w ⟨rfl, rfl⟩
      go_wp2_with fail
      refine (KB _).mono ?_
      rintro e w ⟨rfl, rfl⟩
      go_wp2_with fail
      refine (OA _).mono ?_
      rintro e w ⟨rfl, rfl⟩
      go_wp2_with fail
      refine (OB _).mono ?_
      rintro e w ⟨rfl, rfl⟩
      go_wp2_with fail
      refine (MA _).mono ?_
      rintro e w ⟨rfl, rfl⟩
      go_wp2_with fail
      refine (MB _).mono ?_
      rintro e w ⟨rfl, rfl⟩
      go_wp2_with fail
      refine (SG _).mono ?_
      rintro e w ⟨rfl, rfl⟩
      go_wp2_with fail
      refine (SG _).mono ?_
      rintro e w ⟨rfl, rfl⟩
      go_wp2
      go_ret2
      exact ⟨rfl, rfl⟩
  · simp only [if_true, if_false, Bool.false_eq_true]
    have P1 := P (-(x : Int)) (y : Int)
    clear P
    generalize cmpI (-(x : Int)) (y : Int) = R at *
    rcases P1 with ⟨q, rfl⟩ | ⟨q1, q2, rfl⟩ | ⟨q1, q2, rfl⟩
    · go_enter Tryd.func33, Tryd.ntmps33
      go_wp2_with fail
      refine (KA _).mono ?_
      rintro e w ⟨rfl, rfl⟩
      go_wp2_with fail
      refine (KB _).mono ?_
      rintro e w ⟨rfl, rfl⟩
      go_wp2_with fail
      refine (OA _).mono ?_
      rintro e w ⟨rfl, rfl⟩
      go_wp2_with fail
      refine (OB _).mono ?_
      rintro e w ⟨rfl, rfl⟩
      go_wp2_with fail
      refine (MA _).mono ?_
      rintro e w ⟨rfl, rfl⟩
      go_wp2_with fail
      refine (MB _).mono ?_
      rintro e w ⟨rfl, rfl⟩
      go_wp2_with fail
      refine (SG _).mono ?_
      rintro e w ⟨rfl, rfl⟩
      go_wp2_with fail
      refine (SG _).mono ?_
      rintro e w ⟨rfl, rfl⟩
      go_wp2
      go_ret2
      exact ⟨rfl, rfl⟩
    · exfalso; omega
    · go_enter Tryd.func33, Tryd.ntmps33
      go_wp2_with fail
      refine (KA _).mono ?_
      rintro e w ⟨rfl, rfl⟩
      go_wp2_with fail
      refine (KB _).mono ?_
      rintro e w ⟨rfl, rfl⟩
      go_wp2_with fail
      refine (OA _).mono ?_
      rintro e w ⟨rfl, rfl⟩
      go_wp2_with fail
      refine (OB _).mono ?_
      rintro e w ⟨rfl, rfl⟩
      go_wp2_with fail
      refine (MA _).mono ?_
      rintro e w ⟨rfl, rfl⟩
      go_wp2_with fail
      refine (MB _).mono ?_
      rintro e w ⟨rfl, rfl⟩
      go_wp2_with fail
      refine (SG _).mono ?_
      rintro e w ⟨rfl, rfl⟩
      go_wp2_with fail
      refine (SG _).mono ?_
      rintro e w ⟨rfl, rfl⟩
      go_wp2
      go_ret2
      exact ⟨rfl, rfl⟩
  · simp only [if_true]
    have P1 := P (-(x : Int)) (-(y : Int))
    clear P
    generalize cmpI (-(x : Int)) (-(y : Int)) = R at *
    rcases P1 with ⟨q, rfl⟩ | ⟨q1, q2, rfl⟩ | ⟨q1, q2, rfl⟩
    · go_enter Tryd.func33, Tryd.ntmps33
      go_wp2_with fail
      refine (KA _).mono ?_
      rintro e w ⟨rfl, rfl⟩
      go_wp2_with fail
      refine (KB _).mono ?_
      rintro e w ⟨rfl, rfl⟩
      go_wp2_with fail
      refine (OA _).mono ?_
      rintro e w ⟨rfl, rfl⟩
      go_wp2_with fail
      refine (OB _).mono ?_
      rintro e w ⟨rfl, rfl⟩
      go_wp2_with fail
      refine (MA _).mono ?_
      rintro e w ⟨rfl, rfl⟩
      go_wp2_with fail
      refine (MB _).mono ?_
      rintro e w ⟨rfl, rfl⟩
      go_wp2_with fail
      refine (SG _).mono ?_
      rintro e w ⟨rfl, rfl⟩
      go_wp2_with fail
      refine (SG _).mono ?_
      rintro e w ⟨rfl, rfl⟩
      go_wp2
      go_ret2
      exact ⟨rfl, rfl⟩
    · go_enter Tryd.func33, Tryd.ntmps33
      go_wp2_with fail
      refine (KA _).mono ?_
      rintro e w ⟨rfl, rfl⟩
      go_wp2_with fail
      refine (KB _).mono ?_
      rintro e w ⟨rfl, rfl⟩
      go_wp2_with fail
      refine (OA _).mono ?_
      rintro e w ⟨rfl, rfl⟩
      go_wp2_with fail
      refine (OB _).mono ?_
      rintro e w ⟨rfl, rfl⟩
      go_wp2_with fail
      refine (MA _).mono ?_
      rintro e w ⟨rfl, rfl⟩
      go_wp2_with fail
      refine (MB _).mono ?_
      rintro e w ⟨rfl, rfl⟩
      go_wp2_with fail
      refine (SG _).mono ?_
      rintro e w ⟨rfl, rfl⟩
      go_wp2_with fail
      refine (SG _).mono ?_
      rintro e w ⟨rfl, rfl⟩
      go_wp2
      go_ret2
      exact ⟨rfl, rfl⟩
    · go_enter Tryd.func33, Tryd.ntmps33
      go_wp2_with fail
      refine (KA _).mono ?_
      rintro e w ⟨rfl, rfl⟩
      go_wp2_with fail
      refine (KB _).mono ?_
      rintro e w ⟨rfl, rfl⟩
      go_wp2_with fail
      refine (OA _).mono ?_
      rintro e w ⟨rfl, rfl⟩
      go_wp2_with fail
      refine (OB _).mono ?_
      rintro e w ⟨rfl, rfl⟩
      go_wp2_with fail
      refine (MA _).mono ?_
      rintro e w ⟨rfl, rfl⟩
      go_wp2_with fail
      refine (MB _).mono ?_
      rintro e w ⟨rfl, rfl⟩
      go_wp2_with fail
      refine (SG _).mono ?_
      rintro e w ⟨rfl, rfl⟩
      go_wp2_with fail
      refine (SG _).mono ?_
      rintro e w ⟨rfl, rfl⟩
      go_wp2
      go_ret2
      exact ⟨rfl, rfl⟩
set_option maxRecDepth 100000 in
set_option maxHeartbeats 1000000 in
theorem rcompare_nan1_64 {a b : Nat} (ha : a < 18446744073709551616) (hb : b < 18446744073709551616) (ka : cl 9218868437227405312 (mg 9223372036854775808 a) = 4) (w : World) : Calls Tryd.prog 33 #[.int .u64 (a : Int), .int .u64 (b : Int), .int .i64 64] w fun e w' => e = .returned (.tuple #[.int .i64 2, .int .i64 0]) ∧ w' = w := by
  have KA := fun W => rcheck_64 (a : Int) W
  have KB := fun W => rcheck_64 (b : Int) W
  have OA := fun W => rof_64 ha W
  have OB := fun W => rof_64 hb W
  rw [ka] at OA
  clear ha hb ka
  go_enter Tryd.func33, Tryd.ntmps33
  go_wp2_with fail
  refine (KA _).mono ?_
  rintro e w ⟨rfl, rfl⟩
  go_wp2_with fail
  refine (KB _).mono ?_
  rintro e w ⟨rfl, rfl⟩
  go_wp2_with fail
  refine (OA _).mono ?_
  rintro e w ⟨rfl, rfl⟩
  go_wp2
  go_ret2
  exact ⟨rfl, rfl⟩
set_option maxRecDepth 100000 in
set_option maxHeartbeats 1000000 in
theorem rcompare_nan2_64 {a b : Nat} (ha : a < 18446744073709551616) (hb : b < 18446744073709551616) (ka : (cl 9218868437227405312 (mg 9223372036854775808 a) == 4) = false) (kb : cl 9218868437227405312 (mg 9223372036854775808 b) = 4) (w : World) : Calls Tryd.prog 33 #[.int .u64 (a : Int), .int .u64 (b : Int), .int .i64 64] w fun e w' => e = .returned (.tuple #[.int .i64 2, .int .i64 0]) ∧ w' = w := by
  have KA := fun W => rcheck_64 (a : Int) W
  have KB := fun W => rcheck_64 (b : Int) W
  have OA := fun W => rof_64 ha W
  have OB := fun W => rof_64 hb W
  rw [kb] at OB
  generalize cl 9218868437227405312 (mg 9223372036854775808 a) = C1 at *
  clear ha hb kb
  go_enter Tryd.func33, Tryd.ntmps33
  go_wp2_with fail
  refine (KA _).mono ?_
  rintro e w ⟨rfl, rfl⟩
  go_wp2_with fail
  refine (KB _).mono ?_
  rintro e w ⟨rfl, rfl⟩
  go_wp2_with fail
  refine (OA _).mono ?_
  rintro e w ⟨rfl, rfl⟩
  go_wp2_with fail
  refine (OB _).mono ?_
  rintro e w ⟨rfl, rfl⟩
  go_wp2
  go_ret2
  exact ⟨rfl, rfl⟩
set_option maxRecDepth 100000 in
set_option maxHeartbeats 1000000 in
theorem rcompare_ok_64 {a b : Nat} (ha : a < 18446744073709551616) (hb : b < 18446744073709551616) (ka : (cl 9218868437227405312 (mg 9223372036854775808 a) == 4) = false) (kb : (cl 9218868437227405312 (mg 9223372036854775808 b) == 4) = false) (w : World) : Calls Tryd.prog 33 #[.int .u64 (a : Int), .int .u64 (b : Int), .int .i64 64] w fun e w' => e = .returned (.tuple #[.int .i64 (cmpI (rk 9223372036854775808 a) (rk 9223372036854775808 b)), .int .i64 0]) ∧ w' = w := by
  have KA := fun W => rcheck_64 (a : Int) W
  have KB := fun W => rcheck_64 (b : Int) W
  have OA := fun W => rof_64 ha W
  have OB := fun W => rof_64 hb W
  have MA := fun W => rmag_64 ha W
  have MB := fun W => rmag_64 hb W
  have SG := fun W => rsign_64 W
  have la := mg_lt (g := 9223372036854775808) (by decide) a
  have lb := mg_lt (g := 9223372036854775808) (by decide) b
  have hA := and_sign_64 a ha
  have hB := and_sign_64 b hb
  have nA : ((((if ng 9223372036854775808 a then 9223372036854775808 else 0 : Nat) : Int)) != 0) = ng 9223372036854775808 a := by cases ng 9223372036854775808 a <;> decide
  have nB : ((((if ng 9223372036854775808 b then 9223372036854775808 else 0 : Nat) : Int)) != 0) = ng 9223372036854775808 b := by cases ng 9223372036854775808 b <;> decide
  rw [← hA] at nA
  rw [← hB] at nB
  clear hA hB
  obtain ⟨Y1, hY1⟩ : ∃ Y, bits BinOp.and IntKind.u64 (a : Int) 9223372036854775808 = Y := ⟨_, rfl⟩
  obtain ⟨Y2, hY2⟩ : ∃ Y, bits BinOp.and IntKind.u64 (b : Int) 9223372036854775808 = Y := ⟨_, rfl⟩
  rw [hY1] at nA
  rw [hY2] at nB
  unfold rk
  generalize cl 9218868437227405312 (mg 9223372036854775808 a) = C1 at *
  generalize cl 9218868437227405312 (mg 9223372036854775808 b) = C2 at *
  generalize mg 9223372036854775808 a = x at *
  generalize mg 9223372036854775808 b = y at *
  generalize ng 9223372036854775808 a = c at *
  generalize ng 9223372036854775808 b = e at *
  clear ha hb
  have P : ∀ u v : Int, (u < v ∧ cmpI u v = -1) ∨ (¬ u < v ∧ v < u ∧ cmpI u v = 1) ∨ (¬ u < v ∧ ¬ v < u ∧ cmpI u v = 0) := by
    intro u v
    unfold cmpI
    by_cases h1 : u < v
    · rw [if_pos h1]; exact .inl ⟨h1, rfl⟩
    · by_cases h2 : v < u
      · rw [if_neg h1, if_pos h2]; exact .inr (.inl ⟨h1, h2, rfl⟩)
      · rw [if_neg h1, if_neg h2]; exact .inr (.inr ⟨h1, h2, rfl⟩)
  cases c <;> cases e
  · simp only [if_false, Bool.false_eq_true]
    have P1 := P (x : Int) (y : Int)
    clear P
    generalize cmpI (x : Int) (y : Int) = R at *
    rcases P1 with ⟨q, rfl⟩ | ⟨q1, q2, rfl⟩ | ⟨q1, q2, rfl⟩
    · go_enter Tryd.func33, Tryd.ntmps33
      go_wp2_with fail
      refine (KA _).mono ?_
      rintro e w ⟨rfl, rfl⟩
      go_wp2_with fail
      refine (KB _).mono ?_
      rintro e w ⟨rfl, rfl⟩
      go_wp2_with fail
      refine (OA _).mono ?_
      rintro e w ⟨rfl, rfl⟩
      go_wp2_with fail
      refine (OB _).mono ?_
      rintro e w ⟨rfl, rfl⟩
      go_wp2_with fail
      refine (MA _).mono ?_
      rintro e w ⟨rfl, rfl⟩
      go_wp2_with fail
      refine (MB _).mono ?_
      rintro e w ⟨rfl, rfl⟩
      go_wp2_with fail
      refine (SG _).mono ?_
      rintro e w ⟨rfl, rfl⟩
      go_wp2_with fail
      refine (SG _).mono ?_
      rintro e w ⟨rfl, rfl⟩
      go_wp2
      go_ret2
      exact ⟨rfl, rfl⟩
    · go_enter Tryd.func33, Tryd.ntmps33
      go_wp2_with fail
      refine (KA _).mono ?_
      rintro e w ⟨rfl, rfl⟩
      go_wp2_with fail
      refine (KB _).mono ?_
      rintro e w ⟨rfl, rfl⟩
      go_wp2_with fail
      refine (OA _).mono ?_
      rintro e w ⟨rfl, rfl⟩
      go_wp2_with fail
      refine (OB _).mono ?_
      rintro e w ⟨rfl, rfl⟩
      go_wp2_with fail
      refine (MA _).mono ?_
      rintro e w ⟨rfl, rfl⟩
      go_wp2_with fail
      refine (MB _).mono ?_
      rintro e w ⟨rfl, rfl⟩
      go_wp2_with fail
      refine (SG _).mono ?_
      rintro e w ⟨rfl, rfl⟩
      go_wp2_with fail
      refine (SG _).mono ?_
      rintro e w ⟨rfl, rfl⟩
      go_wp2
      go_ret2
      exact ⟨rfl, rfl⟩
    · go_enter Tryd.func33, Tryd.ntmps33
      go_wp2_with fail
      refine (KA _).mono ?_
      rintro e w ⟨rfl, rfl⟩
      go_wp2_with fail
      refine (KB _).mono ?_
      rintro e w ⟨rfl, rfl⟩
      go_wp2_with fail
      refine (OA _).mono ?_
      rintro e w ⟨rfl, rfl⟩
      go_wp2_with fail
      refine (OB _).mono ?_
      rintro e w ⟨rfl, rfl⟩
      go_wp2_with fail
      refine (MA _).mono ?_
      rintro e w ⟨rfl, rfl⟩
      go_wp2_with fail
      refine (MB _).mono ?_
      rintro e w ⟨rfl, rfl⟩
      go_wp2_with fail
      refine (SG _).mono ?_
      rintro e w ⟨rfl, rfl⟩
      go_wp2_with fail
      refine (SG _).mono ?_
      rintro e w ⟨rfl, rfl⟩
      go_wp2
      go_ret2
      exact ⟨rfl, rfl⟩
  · simp only [if_true, if_false, Bool.false_eq_true]
    have P1 := P (x : Int) (-(y : Int))
    clear P
    generalize cmpI (x : Int) (-(y : Int)) = R at *
    rcases P1 with ⟨q, rfl⟩ | ⟨q1, q2, rfl⟩ | ⟨q1, q2, rfl⟩
    · exfalso; omega
    · go_enter Tryd.func33, Tryd.ntmps33
      go_wp2_with fail
      refine (KA _).mono ?_
      rintro e w ⟨rfl, rfl⟩
      go_wp2_with fail
      refine (KB _).mono ?_
      rintro e w ⟨rfl, rfl⟩
      go_wp2_with fail
      refine (OA _).mono ?_
      rintro e w ⟨rfl, rfl⟩
      go_wp2_with fail
      refine (OB _).mono ?_
      rintro e w ⟨rfl, rfl⟩
      go_wp2_with fail
      refine (MA _).mono ?_
      rintro e w ⟨rfl, rfl⟩
      go_wp2_with fail
      refine (MB _).mono ?_
      rintro e w ⟨rfl, rfl⟩
      go_wp2_with fail
      refine (SG _).mono ?_
      rintro e w ⟨rfl, rfl⟩
      go_wp2_with fail
      refine (SG _).mono ?_
      rintro e w ⟨rfl, rfl⟩
      go_wp2
      go_ret2
      exact ⟨rfl, rfl⟩
    · go_enter Tryd.func33, Tryd.ntmps33
      go_wp2_with fail
      refine (KA _).mono ?_
      rintro e w ⟨rfl, rfl⟩
      go_wp2_with fail
      refine (KB _).mono ?_
      rintro e w ⟨rfl, rfl⟩
      go_wp2_with fail
      refine (OA _).mono ?_
      rintro e w ⟨rfl, rfl⟩
      go_wp2_with fail
      refine (OB _).mono ?_
      rintro e w ⟨rfl, rfl⟩
      go_wp2_with fail
      refine (MA _).mono ?_
      rintro e w ⟨rfl, rfl⟩
      go_wp2_with fail
      refine (MB _).mono ?_
      rintro e w ⟨rfl, rfl⟩
      go_wp2_with fail
      refine (SG _).mono ?_
      rintro e w ⟨rfl, rfl⟩
      go_wp2_with fail
      refine (SG _).mono ?_
      rintro e w ⟨rfl, rfl⟩
      go_wp2
      go_ret2
      exact ⟨rfl, rfl⟩
  · simp only [if_true, if_false, Bool.false_eq_true]
    have P1 := P (-(x : Int)) (y : Int)
    clear P
    generalize cmpI (-(x : Int)) (y : Int) = R at *
    rcases P1 with ⟨q, rfl⟩ | ⟨q1, q2, rfl⟩ | ⟨q1, q2, rfl⟩
    · go_enter Tryd.func33, Tryd.ntmps33
      go_wp2_with fail
      refine (KA _).mono ?_
      rintro e w ⟨rfl, rfl⟩
      go_wp2_with fail
      refine (KB _).mono ?_
      rintro e w ⟨rfl, rfl⟩
      go_wp2_with fail
      refine (OA _).mono ?_
      rintro e w ⟨rfl, rfl⟩
      go_wp2_with fail
      refine (OB _).mono ?_
      rintro e w ⟨rfl, rfl⟩
      go_wp2_with fail
      refine (MA _).mono ?_
      rintro e w ⟨rfl, rfl⟩
      go_wp2_with fail
      refine (MB _).mono ?_
      rintro e w ⟨rfl, rfl⟩
      go_wp2_with fail
      refine (SG _).mono ?_
      rintro e w ⟨rfl, rfl⟩
      go_wp2_with fail
      refine (SG _).mono ?_
      rintro e w ⟨rfl, rfl⟩
      go_wp2
      go_ret2
      exact ⟨rfl, rfl⟩
    · exfalso; omega
    · go_enter Tryd.func33, Tryd.ntmps33
      go_wp2_with fail
      refine (KA _).mono ?_
      rintro e w ⟨rfl, rfl⟩
      go_wp2_with fail
      refine (KB _).mono ?_
      rintro e w ⟨rfl, rfl⟩
      go_wp2_with fail
      refine (OA _).mono ?_
      rintro e w ⟨rfl, rfl⟩
      go_wp2_with fail
      refine (OB _).mono ?_
      rintro e w ⟨rfl, rfl⟩
      go_wp2_with fail
      refine (MA _).mono ?_
      rintro e w ⟨rfl, rfl⟩
      go_wp2_with fail
      refine (MB _).mono ?_
      rintro e w ⟨rfl, rfl⟩
      go_wp2_with fail
      refine (SG _).mono ?_
      rintro e w ⟨rfl, rfl⟩
      go_wp2_with fail
      refine (SG _).mono ?_
      rintro e w ⟨rfl, rfl⟩
      go_wp2
      go_ret2
      exact ⟨rfl, rfl⟩
  · simp only [if_true]
    have P1 := P (-(x : Int)) (-(y : Int))
    clear P
    generalize cmpI (-(x : Int)) (-(y : Int)) = R at *
    rcases P1 with ⟨q, rfl⟩ | ⟨q1, q2, rfl⟩ | ⟨q1, q2, rfl⟩
    · go_enter Tryd.func33, Tryd.ntmps33
      go_wp2_with fail
      refine (KA _).mono ?_
      rintro e w ⟨rfl, rfl⟩
      go_wp2_with fail
      refine (KB _).mono ?_
      rintro e w ⟨rfl, rfl⟩
      go_wp2_with fail
      refine (OA _).mono ?_
      rintro e w ⟨rfl, rfl⟩
      go_wp2_with fail
      refine (OB _).mono ?_
      rintro e w ⟨rfl, rfl⟩
      go_wp2_with fail
      refine (MA _).mono ?_
      rintro e w ⟨rfl, rfl⟩
      go_wp2_with fail
      refine (MB _).mono ?_
      rintro e w ⟨rfl, rfl⟩
      go_wp2_with fail
      refine (SG _).mono ?_
      rintro e w ⟨rfl, rfl⟩
      go_wp2_with fail
      refine (SG _).mono ?_
      rintro e w ⟨rfl, rfl⟩
      go_wp2
      go_ret2
      exact ⟨rfl, rfl⟩
    · go_enter Tryd.func33, Tryd.ntmps33
      go_wp2_with fail
      refine (KA _).mono ?_
      rintro e w ⟨rfl, rfl⟩
      go_wp2_with fail
      refine (KB _).mono ?_
      rintro e w ⟨rfl, rfl⟩
      go_wp2_with fail
      refine (OA _).mono ?_
      rintro e w ⟨rfl, rfl⟩
      go_wp2_with fail
      refine (OB _).mono ?_
      rintro e w ⟨rfl, rfl⟩
      go_wp2_with fail
      refine (MA _).mono ?_
      rintro e w ⟨rfl, rfl⟩
      go_wp2_with fail
      refine (MB _).mono ?_
      rintro e w ⟨rfl, rfl⟩
      go_wp2_with fail
      refine (SG _).mono ?_
      rintro e w ⟨rfl, rfl⟩
      go_wp2_with fail
      refine (SG _).mono ?_
      rintro e w ⟨rfl, rfl⟩
      go_wp2
      go_ret2
      exact ⟨rfl, rfl⟩
    · go_enter Tryd.func33, Tryd.ntmps33
      go_wp2_with fail
      refine (KA _).mono ?_
      rintro e w ⟨rfl, rfl⟩
      go_wp2_with fail
      refine (KB _).mono ?_
      rintro e w ⟨rfl, rfl⟩
      go_wp2_with fail
      refine (OA _).mono ?_
      rintro e w ⟨rfl, rfl⟩
      go_wp2_with fail
      refine (OB _).mono ?_
      rintro e w ⟨rfl, rfl⟩
      go_wp2_with fail
      refine (MA _).mono ?_
      rintro e w ⟨rfl, rfl⟩
      go_wp2_with fail
      refine (MB _).mono ?_
      rintro e w ⟨rfl, rfl⟩
      go_wp2_with fail
      refine (SG _).mono ?_
      rintro e w ⟨rfl, rfl⟩
      go_wp2_with fail
      refine (SG _).mono ?_
      rintro e w ⟨rfl, rfl⟩
      go_wp2
      go_ret2
      exact ⟨rfl, rfl⟩
end Go.Proofs.YtdejfjlcknfbbaaDoor
