/-
  The law BitsBack: floats that are taken apart and put together are the same; steps away from 0 and back are; greater steps are greater floats; what was widened is narrowed to itself.
-/
import Derived.Test.YtdejfjlcknfbbaaDoorBtCv
import Derived.Test.YtdejfjlcknfbbaaDoorBtF
namespace Go.Proofs.YtdejfjlcknfbbaaDoor
open Go.RowKit

set_option maxRecDepth 100000 in
set_option maxHeartbeats 1000000 in
theorem bback_no {s : Int} (h : Sn s) (b : Int) (w : World) : Calls Tryd.prog 8 #[.int .u64 b, .int .i64 s] w fun e w' => e = .returned (.bool true) ∧ Below w.heap.size w w' := by
  have U1 := fun W => unp_no h b W
  have S := fun W => sure_any W
  have q1 : (s != 32) = true := by simpa using h.1
  have q2 : (s != 64) = true := by simpa using h.2
  clear h
  go_enter Tryd.func8, Tryd.ntmps8
  have B0 : Hid (Below w.heap.size w w) := Below.refl _ _
  go_wp2_with fail
  refine (U1 _).mono ?_
  rintro e w1 ⟨rfl, hb⟩
  have B1 : Hid (Below w.heap.size w w1) := B0.out.trans (hb.mono B0.out.size)
  clear hb
  go_wp2_with fail
  refine (S _).mono ?_
  rintro e w2 ⟨rfl, hb⟩
  have B2 : Hid (Below w.heap.size w w2) := (B1.out.alloc B1.out.size _).trans (hb.mono (by have := B1.out.size; simp; omega))
  have X0 : Hid (FlB w2 _ _ _ _ _) := (FlB.new w1 _ _ _ _ _).step hb
  clear hb
  go_wp2
  go_ret
  exact ⟨rfl, B2.out⟩
set_option maxRecDepth 100000 in
set_option maxHeartbeats 1000000 in
theorem bback_big {b : Nat} (h : 4294967296 ≤ b) (w : World) : Calls Tryd.prog 8 #[.int .u64 (b : Int), .int .i64 32] w fun e w' => e = .returned (.bool true) ∧ Below w.heap.size w w' := by
  have U1 := fun W => unp_big h W
  have S := fun W => sure_any W
  have q1 : ((b : Int) / 4294967296 != 0) = true := by simp; omega
  clear h
  go_enter Tryd.func8, Tryd.ntmps8
  have B0 : Hid (Below w.heap.size w w) := Below.refl _ _
  go_wp2_with fail
  refine (U1 _).mono ?_
  rintro e w1 ⟨rfl, hb⟩
  have B1 : Hid (Below w.heap.size w w1) := B0.out.trans (hb.mono B0.out.size)
  clear hb
  go_wp2_with fail
  refine (S _).mono ?_
  rintro e w2 ⟨rfl, hb⟩
  have B2 : Hid (Below w.heap.size w w2) := (B1.out.alloc B1.out.size _).trans (hb.mono (by have := B1.out.size; simp; omega))
  have X0 : Hid (FlB w2 _ _ _ _ _) := (FlB.new w1 _ _ _ _ _).step hb
  clear hb
  go_wp2
  go_ret
  exact ⟨rfl, B2.out⟩
set_option maxRecDepth 100000 in
set_option maxHeartbeats 1000000 in
theorem bback_nan_32 {b x2 x3 : Int} {x0 : Bool} (U1 : (∀ W, Calls Tryd.prog 9 #[.int .u64 b, .int .i64 32] W fun e w' => e = .returned (.tuple #[.agg #[.bool x0, .int .i64 4, .int .u64 x2, .int .i64 x3], .nilIface]) ∧ Below W.heap.size W w')) (P1 : (∀ W, Tab W → Calls Tryd.prog 17 #[.agg #[.bool x0, .int .i64 4, .int .u64 x2, .int .i64 x3], .int .i64 32] W fun e w' => e = .returned (.tuple #[.int .u64 2143289344, .nilIface]) ∧ Below W.heap.size W w')) (w : World) (hT : Tab w) : Calls Tryd.prog 8 #[.int .u64 b, .int .i64 32] w fun e w' => e = .returned (.bool true) ∧ Below w.heap.size w w' := by
  have R1 := toB' fun W => rnan_32 W
  have S := fun W => sure_any W
  have HT : Hid (Tab w) := hT
  clear hT
  go_enter Tryd.func8, Tryd.ntmps8
  have B0 : Hid (Below w.heap.size w w) := Below.refl _ _
  go_wp2_with fail
  refine (U1 _).mono ?_
  rintro e w1 ⟨rfl, hb⟩
  have B1 : Hid (Below w.heap.size w w1) := B0.out.trans (hb.mono B0.out.size)
  clear hb
  go_wp2_with fail
  refine (P1 _ (HT.out.below (B1.out.alloc B1.out.size _) HT.out.pos)).mono ?_
  rintro e w2 ⟨rfl, hb⟩
  have B2 : Hid (Below w.heap.size w w2) := (B1.out.alloc B1.out.size _).trans (hb.mono (by have := B1.out.size; simp; omega))
  have X0 : Hid (FlB w2 _ _ _ _ _) := (FlB.new w1 _ _ _ _ _).step hb
  clear hb
  obtain ⟨l0, x00, x01, x02, x03, _, _, _, _⟩ := X0.out
  go_wp2_with fail
  refine (R1 _).mono ?_
  rintro e w3 ⟨rfl, hb⟩
  have B3 : Hid (Below w.heap.size w w3) := B2.out.trans (hb.mono B2.out.size)
  have X0n : Hid (FlB w3 _ _ _ _ _) := X0.out.step hb
  clear X0
  have X0 := X0n
  clear X0n
  clear hb
  go_wp2_with fail
  refine (S _).mono ?_
  rintro e w4 ⟨rfl, hb⟩
  have B4 : Hid (Below w.heap.size w w4) := B3.out.trans (hb.mono B3.out.size)
  have X0n : Hid (FlB w4 _ _ _ _ _) := X0.out.step hb
  clear X0
  have X0 := X0n
  clear X0n
  clear hb
  go_wp2
  go_ret
  exact ⟨rfl, B4.out⟩
set_option maxRecDepth 100000 in
set_option maxHeartbeats 1000000 in
theorem bback_inf_32 {b x2 x3 y : Int} {x0 : Bool} (U1 : (∀ W, Calls Tryd.prog 9 #[.int .u64 b, .int .i64 32] W fun e w' => e = .returned (.tuple #[.agg #[.bool x0, .int .i64 3, .int .u64 x2, .int .i64 x3], .nilIface]) ∧ Below W.heap.size W w')) (P1 : (∀ W, Tab W → Calls Tryd.prog 17 #[.agg #[.bool x0, .int .i64 3, .int .u64 x2, .int .i64 x3], .int .i64 32] W fun e w' => e = .returned (.tuple #[.int .u64 b, .nilIface]) ∧ Below W.heap.size W w')) (X1 : (∀ W, Calls Tryd.prog 28 #[.int .u64 b, .int .i64 32] W fun e w' => e = .returned (.tuple #[.int .u64 0, .iface 70 (.int .i64 4)]) ∧ Below W.heap.size W w')) (W1 : (∀ W, Tab W → Calls Tryd.prog 34 #[.int .u64 b] W fun e w' => e = .returned (.tuple #[.int .u64 y, .nilIface]) ∧ Below W.heap.size W w')) (N1 : (∀ W, Tab W → Calls Tryd.prog 36 #[.int .u64 y] W fun e w' => e = .returned (.tuple #[.int .u64 b, .bool true, .nilIface]) ∧ Below W.heap.size W w')) (w : World) (hT : Tab w) : Calls Tryd.prog 8 #[.int .u64 b, .int .i64 32] w fun e w' => e = .returned (.bool true) ∧ Below w.heap.size w w' := by
  have S := fun W => sure_any W
  have HT : Hid (Tab w) := hT
  clear hT
  go_enter Tryd.func8, Tryd.ntmps8
  have B0 : Hid (Below w.heap.size w w) := Below.refl _ _
  go_wp2_with fail
  refine (U1 _).mono ?_
  rintro e w1 ⟨rfl, hb⟩
  have B1 : Hid (Below w.heap.size w w1) := B0.out.trans (hb.mono B0.out.size)
  clear hb
  go_wp2_with fail
  refine (P1 _ (HT.out.below (B1.out.alloc B1.out.size _) HT.out.pos)).mono ?_
  rintro e w2 ⟨rfl, hb⟩
  have B2 : Hid (Below w.heap.size w w2) := (B1.out.alloc B1.out.size _).trans (hb.mono (by have := B1.out.size; simp; omega))
  have X0 : Hid (FlB w2 _ _ _ _ _) := (FlB.new w1 _ _ _ _ _).step hb
  clear hb
  obtain ⟨l0, x00, x01, x02, x03, _, _, _, _⟩ := X0.out
  go_wp2_with fail
  refine (X1 _).mono ?_
  rintro e w3 ⟨rfl, hb⟩
  have B3 : Hid (Below w.heap.size w w3) := B2.out.trans (hb.mono B2.out.size)
  have X0n : Hid (FlB w3 _ _ _ _ _) := X0.out.step hb
  clear X0
  have X0 := X0n
  clear X0n
  clear hb
  obtain ⟨l0, x00, x01, x02, x03, _, _, _, _⟩ := X0.out
  go_wp2_with fail
  refine (W1 _ (HT.out.below B3.out HT.out.pos)).mono ?_
  rintro e w4 ⟨rfl, hb⟩
  have B4 : Hid (Below w.heap.size w w4) := B3.out.trans (hb.mono B3.out.size)
  have X0n : Hid (FlB w4 _ _ _ _ _) := X0.out.step hb
  clear X0
  have X0 := X0n
  clear X0n
  clear hb
  go_wp2_with fail
  refine (N1 _ (HT.out.below B4.out HT.out.pos)).mono ?_
  rintro e w5 ⟨rfl, hb⟩
  have B5 : Hid (Below w.heap.size w w5) := B4.out.trans (hb.mono B4.out.size)
  have X0n : Hid (FlB w5 _ _ _ _ _) := X0.out.step hb
  clear X0
  have X0 := X0n
  clear X0n
  clear hb
  go_wp2_with fail
  refine (S _).mono ?_
  rintro e w6 ⟨rfl, hb⟩
  have B6 : Hid (Below w.heap.size w w6) := B5.out.trans (hb.mono B5.out.size)
  have X0n : Hid (FlB w6 _ _ _ _ _) := X0.out.step hb
  clear X0
  have X0 := X0n
  clear X0n
  clear hb
  go_wp2
  go_ret
  exact ⟨rfl, B6.out⟩
set_option maxRecDepth 100000 in
set_option maxHeartbeats 1000000 in
theorem bback_step_32 {b n C x2 x3 y : Int} {x0 : Bool} (q4 : (C == 4) = false) (U1 : (∀ W, Calls Tryd.prog 9 #[.int .u64 b, .int .i64 32] W fun e w' => e = .returned (.tuple #[.agg #[.bool x0, .int .i64 C, .int .u64 x2, .int .i64 x3], .nilIface]) ∧ Below W.heap.size W w')) (P1 : (∀ W, Tab W → Calls Tryd.prog 17 #[.agg #[.bool x0, .int .i64 C, .int .u64 x2, .int .i64 x3], .int .i64 32] W fun e w' => e = .returned (.tuple #[.int .u64 b, .nilIface]) ∧ Below W.heap.size W w')) (X1 : (∀ W, Calls Tryd.prog 28 #[.int .u64 b, .int .i64 32] W fun e w' => e = .returned (.tuple #[.int .u64 n, .nilIface]) ∧ Below W.heap.size W w')) (Y1 : (∀ W, Calls Tryd.prog 30 #[.int .u64 n, .int .i64 32] W fun e w' => e = .returned (.tuple #[.int .u64 b, .nilIface]) ∧ Below W.heap.size W w')) (Z1 : (∀ W, Calls Tryd.prog 32 #[.int .u64 b, .int .u64 n, .int .i64 32] W fun e w' => e = .returned (.tuple #[.int .i64 (if x0 then 1 else -1), .nilIface]) ∧ Below W.heap.size W w')) (W1 : (∀ W, Tab W → Calls Tryd.prog 34 #[.int .u64 b] W fun e w' => e = .returned (.tuple #[.int .u64 y, .nilIface]) ∧ Below W.heap.size W w')) (N1 : (∀ W, Tab W → Calls Tryd.prog 36 #[.int .u64 y] W fun e w' => e = .returned (.tuple #[.int .u64 b, .bool true, .nilIface]) ∧ Below W.heap.size W w')) (w : World) (hT : Tab w) : Calls Tryd.prog 8 #[.int .u64 b, .int .i64 32] w fun e w' => e = .returned (.bool true) ∧ Below w.heap.size w w' := by
  have S := fun W => sure_any W
  have HT : Hid (Tab w) := hT
  clear hT
  cases x0
  · rw [if_neg (by decide)] at Z1
    go_enter Tryd.func8, Tryd.ntmps8
    have B0 : Hid (Below w.heap.size w w) := Below.refl _ _
    go_wp2_with fail
    refine (U1 _).mono ?_
    rintro e w1 ⟨rfl, hb⟩
    have B1 : Hid (Below w.heap.size w w1) := B0.out.trans (hb.mono B0.out.size)
    clear hb
    go_wp2_with fail
    refine (P1 _ (HT.out.below (B1.out.alloc B1.out.size _) HT.out.pos)).mono ?_
    rintro e w2 ⟨rfl, hb⟩
    have B2 : Hid (Below w.heap.size w w2) := (B1.out.alloc B1.out.size _).trans (hb.mono (by have := B1.out.size; simp; omega))
    have X0 : Hid (FlB w2 _ _ _ _ _) := (FlB.new w1 _ _ _ _ _).step hb
    clear hb
    obtain ⟨l0, x00, x01, x02, x03, _, _, _, _⟩ := X0.out
    go_wp2_with fail
    refine (X1 _).mono ?_
    rintro e w3 ⟨rfl, hb⟩
    have B3 : Hid (Below w.heap.size w w3) := B2.out.trans (hb.mono B2.out.size)
    have X0n : Hid (FlB w3 _ _ _ _ _) := X0.out.step hb
    clear X0
    have X0 := X0n
    clear X0n
    clear hb
    go_wp2_with fail
    refine (Y1 _).mono ?_
    rintro e w4 ⟨rfl, hb⟩
    have B4 : Hid (Below w.heap.size w w4) := B3.out.trans (hb.mono B3.out.size)
    have X0n : Hid (FlB w4 _ _ _ _ _) := X0.out.step hb
    clear X0
    have X0 := X0n
    clear X0n
    clear hb
    go_wp2_with fail
    refine (Z1 _).mono ?_
    rintro e w5 ⟨rfl, hb⟩
    have B5 : Hid (Below w.heap.size w w5) := B4.out.trans (hb.mono B4.out.size)
    have X0n : Hid (FlB w5 _ _ _ _ _) := X0.out.step hb
    clear X0
    have X0 := X0n
    clear X0n
    clear hb
    obtain ⟨l0, x00, x01, x02, x03, _, _, _, _⟩ := X0.out
    go_wp2_with fail
    refine (W1 _ (HT.out.below B5.out HT.out.pos)).mono ?_
    rintro e w6 ⟨rfl, hb⟩
    have B6 : Hid (Below w.heap.size w w6) := B5.out.trans (hb.mono B5.out.size)
    have X0n : Hid (FlB w6 _ _ _ _ _) := X0.out.step hb
    clear X0
    have X0 := X0n
    clear X0n
    clear hb
    go_wp2_with fail
    refine (N1 _ (HT.out.below B6.out HT.out.pos)).mono ?_
    rintro e w7 ⟨rfl, hb⟩
    have B7 : Hid (Below w.heap.size w w7) := B6.out.trans (hb.mono B6.out.size)
    have X0n : Hid (FlB w7 _ _ _ _ _) := X0.out.step hb
    clear X0
    have X0 := X0n
    clear X0n
    clear hb
    go_wp2_with fail
    refine (S _).mono ?_
    rintro e w8 ⟨rfl, hb⟩
    have B8 : Hid (Below w.heap.size w w8) := B7.out.trans (hb.mono B7.out.size)
    have X0n : Hid (FlB w8 _ _ _ _ _) := X0.out.step hb
    clear X0
    have X0 := X0n
    clear X0n
    clear hb
    go_wp2
    go_ret
    exact ⟨rfl, B8.out⟩
  · rw [if_pos rfl] at Z1
    go_enter Tryd.func8, Tryd.ntmps8
    have B0 : Hid (Below w.heap.size w w) := Below.refl _ _
    go_wp2_with fail
    refine (U1 _).mono ?_
    rintro e w1 ⟨rfl, hb⟩
    have B1 : Hid (Below w.heap.size w w1) := B0.out.trans (hb.mono B0.out.size)
    clear hb
    go_wp2_with fail
    refine (P1 _ (HT.out.below (B1.out.alloc B1.out.size _) HT.out.pos)).mono ?_
    rintro e w2 ⟨rfl, hb⟩
    have B2 : Hid (Below w.heap.size w w2) := (B1.out.alloc B1.out.size _).trans (hb.mono (by have := B1.out.size; simp; omega))
    have X0 : Hid (FlB w2 _ _ _ _ _) := (FlB.new w1 _ _ _ _ _).step hb
    clear hb
    obtain ⟨l0, x00, x01, x02, x03, _, _, _, _⟩ := X0.out
    go_wp2_with fail
    refine (X1 _).mono ?_
    rintro e w3 ⟨rfl, hb⟩
    have B3 : Hid (Below w.heap.size w w3) := B2.out.trans (hb.mono B2.out.size)
    have X0n : Hid (FlB w3 _ _ _ _ _) := X0.out.step hb
    clear X0
    have X0 := X0n
    clear X0n
    clear hb
    go_wp2_with fail
    refine (Y1 _).mono ?_
    rintro e w4 ⟨rfl, hb⟩
    have B4 : Hid (Below w.heap.size w w4) := B3.out.trans (hb.mono B3.out.size)
    have X0n : Hid (FlB w4 _ _ _ _ _) := X0.out.step hb
    clear X0
    have X0 := X0n
    clear X0n
    clear hb
    go_wp2_with fail
    refine (Z1 _).mono ?_
    rintro e w5 ⟨rfl, hb⟩
    have B5 : Hid (Below w.heap.size w w5) := B4.out.trans (hb.mono B4.out.size)
    have X0n : Hid (FlB w5 _ _ _ _ _) := X0.out.step hb
    clear X0
    have X0 := X0n
    clear X0n
    clear hb
    obtain ⟨l0, x00, x01, x02, x03, _, _, _, _⟩ := X0.out
    go_wp2_with fail
    refine (W1 _ (HT.out.below B5.out HT.out.pos)).mono ?_
    rintro e w6 ⟨rfl, hb⟩
    have B6 : Hid (Below w.heap.size w w6) := B5.out.trans (hb.mono B5.out.size)
    have X0n : Hid (FlB w6 _ _ _ _ _) := X0.out.step hb
    clear X0
    have X0 := X0n
    clear X0n
    clear hb
    go_wp2_with fail
    refine (N1 _ (HT.out.below B6.out HT.out.pos)).mono ?_
    rintro e w7 ⟨rfl, hb⟩
    have B7 : Hid (Below w.heap.size w w7) := B6.out.trans (hb.mono B6.out.size)
    have X0n : Hid (FlB w7 _ _ _ _ _) := X0.out.step hb
    clear X0
    have X0 := X0n
    clear X0n
    clear hb
    go_wp2_with fail
    refine (S _).mono ?_
    rintro e w8 ⟨rfl, hb⟩
    have B8 : Hid (Below w.heap.size w w8) := B7.out.trans (hb.mono B7.out.size)
    have X0n : Hid (FlB w8 _ _ _ _ _) := X0.out.step hb
    clear X0
    have X0 := X0n
    clear X0n
    clear hb
    go_wp2
    go_ret
    exact ⟨rfl, B8.out⟩
set_option maxRecDepth 100000 in
set_option maxHeartbeats 1000000 in
theorem bback_nan_64 {b x2 x3 : Int} {x0 : Bool} (U1 : (∀ W, Calls Tryd.prog 9 #[.int .u64 b, .int .i64 64] W fun e w' => e = .returned (.tuple #[.agg #[.bool x0, .int .i64 4, .int .u64 x2, .int .i64 x3], .nilIface]) ∧ Below W.heap.size W w')) (P1 : (∀ W, Tab W → Calls Tryd.prog 17 #[.agg #[.bool x0, .int .i64 4, .int .u64 x2, .int .i64 x3], .int .i64 64] W fun e w' => e = .returned (.tuple #[.int .u64 9221120237041090560, .nilIface]) ∧ Below W.heap.size W w')) (w : World) (hT : Tab w) : Calls Tryd.prog 8 #[.int .u64 b, .int .i64 64] w fun e w' => e = .returned (.bool true) ∧ Below w.heap.size w w' := by
  have R1 := toB' fun W => rnan_64 W
  have S := fun W => sure_any W
  have HT : Hid (Tab w) := hT
  clear hT
  go_enter Tryd.func8, Tryd.ntmps8
  have B0 : Hid (Below w.heap.size w w) := Below.refl _ _
  go_wp2_with fail
  refine (U1 _).mono ?_
  rintro e w1 ⟨rfl, hb⟩
  have B1 : Hid (Below w.heap.size w w1) := B0.out.trans (hb.mono B0.out.size)
  clear hb
  go_wp2_with fail
  refine (P1 _ (HT.out.below (B1.out.alloc B1.out.size _) HT.out.pos)).mono ?_
  rintro e w2 ⟨rfl, hb⟩
  have B2 : Hid (Below w.heap.size w w2) := (B1.out.alloc B1.out.size _).trans (hb.mono (by have := B1.out.size; simp; omega))
  have X0 : Hid (FlB w2 _ _ _ _ _) := (FlB.new w1 _ _ _ _ _).step hb
  clear hb
  obtain ⟨l0, x00, x01, x02, x03, _, _, _, _⟩ := X0.out
  go_wp2_with fail
  refine (R1 _).mono ?_
  rintro e w3 ⟨rfl, hb⟩
  have B3 : Hid (Below w.heap.size w w3) := B2.out.trans (hb.mono B2.out.size)
  have X0n : Hid (FlB w3 _ _ _ _ _) := X0.out.step hb
  clear X0
  have X0 := X0n
  clear X0n
  clear hb
  go_wp2_with fail
  refine (S _).mono ?_
  rintro e w4 ⟨rfl, hb⟩
  have B4 : Hid (Below w.heap.size w w4) := B3.out.trans (hb.mono B3.out.size)
  have X0n : Hid (FlB w4 _ _ _ _ _) := X0.out.step hb
  clear X0
  have X0 := X0n
  clear X0n
  clear hb
  go_wp2
  go_ret
  exact ⟨rfl, B4.out⟩
set_option maxRecDepth 100000 in
set_option maxHeartbeats 1000000 in
theorem bback_inf_64 {b x2 x3 : Int} {x0 : Bool} (U1 : (∀ W, Calls Tryd.prog 9 #[.int .u64 b, .int .i64 64] W fun e w' => e = .returned (.tuple #[.agg #[.bool x0, .int .i64 3, .int .u64 x2, .int .i64 x3], .nilIface]) ∧ Below W.heap.size W w')) (P1 : (∀ W, Tab W → Calls Tryd.prog 17 #[.agg #[.bool x0, .int .i64 3, .int .u64 x2, .int .i64 x3], .int .i64 64] W fun e w' => e = .returned (.tuple #[.int .u64 b, .nilIface]) ∧ Below W.heap.size W w')) (X1 : (∀ W, Calls Tryd.prog 28 #[.int .u64 b, .int .i64 64] W fun e w' => e = .returned (.tuple #[.int .u64 0, .iface 70 (.int .i64 4)]) ∧ Below W.heap.size W w')) (w : World) (hT : Tab w) : Calls Tryd.prog 8 #[.int .u64 b, .int .i64 64] w fun e w' => e = .returned (.bool true) ∧ Below w.heap.size w w' := by
  have S := fun W => sure_any W
  have HT : Hid (Tab w) := hT
  clear hT
  go_enter Tryd.func8, Tryd.ntmps8
  have B0 : Hid (Below w.heap.size w w) := Below.refl _ _
  go_wp2_with fail
  refine (U1 _).mono ?_
  rintro e w1 ⟨rfl, hb⟩
  have B1 : Hid (Below w.heap.size w w1) := B0.out.trans (hb.mono B0.out.size)
  clear hb
  go_wp2_with fail
  refine (P1 _ (HT.out.below (B1.out.alloc B1.out.size _) HT.out.pos)).mono ?_
  rintro e w2 ⟨rfl, hb⟩
  have B2 : Hid (Below w.heap.size w w2) := (B1.out.alloc B1.out.size _).trans (hb.mono (by have := B1.out.size; simp; omega))
  have X0 : Hid (FlB w2 _ _ _ _ _) := (FlB.new w1 _ _ _ _ _).step hb
  clear hb
  obtain ⟨l0, x00, x01, x02, x03, _, _, _, _⟩ := X0.out
  go_wp2_with fail
  refine (X1 _).mono ?_
  rintro e w3 ⟨rfl, hb⟩
  have B3 : Hid (Below w.heap.size w w3) := B2.out.trans (hb.mono B2.out.size)
  have X0n : Hid (FlB w3 _ _ _ _ _) := X0.out.step hb
  clear X0
  have X0 := X0n
  clear X0n
  clear hb
  obtain ⟨l0, x00, x01, x02, x03, _, _, _, _⟩ := X0.out
  go_wp2_with fail
  refine (S _).mono ?_
  rintro e w4 ⟨rfl, hb⟩
  have B4 : Hid (Below w.heap.size w w4) := B3.out.trans (hb.mono B3.out.size)
  have X0n : Hid (FlB w4 _ _ _ _ _) := X0.out.step hb
  clear X0
  have X0 := X0n
  clear X0n
  clear hb
  go_wp2
  go_ret
  exact ⟨rfl, B4.out⟩
set_option maxRecDepth 100000 in
set_option maxHeartbeats 1000000 in
theorem bback_step_64 {b n C x2 x3 : Int} {x0 : Bool} (q4 : (C == 4) = false) (U1 : (∀ W, Calls Tryd.prog 9 #[.int .u64 b, .int .i64 64] W fun e w' => e = .returned (.tuple #[.agg #[.bool x0, .int .i64 C, .int .u64 x2, .int .i64 x3], .nilIface]) ∧ Below W.heap.size W w')) (P1 : (∀ W, Tab W → Calls Tryd.prog 17 #[.agg #[.bool x0, .int .i64 C, .int .u64 x2, .int .i64 x3], .int .i64 64] W fun e w' => e = .returned (.tuple #[.int .u64 b, .nilIface]) ∧ Below W.heap.size W w')) (X1 : (∀ W, Calls Tryd.prog 28 #[.int .u64 b, .int .i64 64] W fun e w' => e = .returned (.tuple #[.int .u64 n, .nilIface]) ∧ Below W.heap.size W w')) (Y1 : (∀ W, Calls Tryd.prog 30 #[.int .u64 n, .int .i64 64] W fun e w' => e = .returned (.tuple #[.int .u64 b, .nilIface]) ∧ Below W.heap.size W w')) (Z1 : (∀ W, Calls Tryd.prog 32 #[.int .u64 b, .int .u64 n, .int .i64 64] W fun e w' => e = .returned (.tuple #[.int .i64 (if x0 then 1 else -1), .nilIface]) ∧ Below W.heap.size W w')) (w : World) (hT : Tab w) : Calls Tryd.prog 8 #[.int .u64 b, .int .i64 64] w fun e w' => e = .returned (.bool true) ∧ Below w.heap.size w w' := by
  have S := fun W => sure_any W
  have HT : Hid (Tab w) := hT
  clear hT
  cases x0
  · rw [if_neg (by decide)] at Z1
    go_enter Tryd.func8, Tryd.ntmps8
    have B0 : Hid (Below w.heap.size w w) := Below.refl _ _
    go_wp2_with fail
    refine (U1 _).mono ?_
    rintro e w1 ⟨rfl, hb⟩
    have B1 : Hid (Below w.heap.size w w1) := B0.out.trans (hb.mono B0.out.size)
    clear hb
    go_wp2_with fail
    refine (P1 _ (HT.out.below (B1.out.alloc B1.out.size _) HT.out.pos)).mono ?_
    rintro e w2 ⟨rfl, hb⟩
    have B2 : Hid (Below w.heap.size w w2) := (B1.out.alloc B1.out.size _).trans (hb.mono (by have := B1.out.size; simp; omega))
    have X0 : Hid (FlB w2 _ _ _ _ _) := (FlB.new w1 _ _ _ _ _).step hb
    clear hb
    obtain ⟨l0, x00, x01, x02, x03, _, _, _, _⟩ := X0.out
    go_wp2_with fail
    refine (X1 _).mono ?_
    rintro e w3 ⟨rfl, hb⟩
    have B3 : Hid (Below w.heap.size w w3) := B2.out.trans (hb.mono B2.out.size)
    have X0n : Hid (FlB w3 _ _ _ _ _) := X0.out.step hb
    clear X0
    have X0 := X0n
    clear X0n
    clear hb
    go_wp2_with fail
    refine (Y1 _).mono ?_
    rintro e w4 ⟨rfl, hb⟩
    have B4 : Hid (Below w.heap.size w w4) := B3.out.trans (hb.mono B3.out.size)
    have X0n : Hid (FlB w4 _ _ _ _ _) := X0.out.step hb
    clear X0
    have X0 := X0n
    clear X0n
    clear hb
    go_wp2_with fail
    refine (Z1 _).mono ?_
    rintro e w5 ⟨rfl, hb⟩
    have B5 : Hid (Below w.heap.size w w5) := B4.out.trans (hb.mono B4.out.size)
    have X0n : Hid (FlB w5 _ _ _ _ _) := X0.out.step hb
    clear X0
    have X0 := X0n
    clear X0n
    clear hb
    obtain ⟨l0, x00, x01, x02, x03, _, _, _, _⟩ := X0.out
    go_wp2_with fail
    refine (S _).mono ?_
    rintro e w6 ⟨rfl, hb⟩
    have B6 : Hid (Below w.heap.size w w6) := B5.out.trans (hb.mono B5.out.size)
    have X0n : Hid (FlB w6 _ _ _ _ _) := X0.out.step hb
    clear X0
    have X0 := X0n
    clear X0n
    clear hb
    go_wp2
    go_ret
    exact ⟨rfl, B6.out⟩
  · rw [if_pos rfl] at Z1
    go_enter Tryd.func8, Tryd.ntmps8
    have B0 : Hid (Below w.heap.size w w) := Below.refl _ _
    go_wp2_with fail
    refine (U1 _).mono ?_
    rintro e w1 ⟨rfl, hb⟩
    have B1 : Hid (Below w.heap.size w w1) := B0.out.trans (hb.mono B0.out.size)
    clear hb
    go_wp2_with fail
    refine (P1 _ (HT.out.below (B1.out.alloc B1.out.size _) HT.out.pos)).mono ?_
    rintro e w2 ⟨rfl, hb⟩
    have B2 : Hid (Below w.heap.size w w2) := (B1.out.alloc B1.out.size _).trans (hb.mono (by have := B1.out.size; simp; omega))
    have X0 : Hid (FlB w2 _ _ _ _ _) := (FlB.new w1 _ _ _ _ _).step hb
    clear hb
    obtain ⟨l0, x00, x01, x02, x03, _, _, _, _⟩ := X0.out
    go_wp2_with fail
    refine (X1 _).mono ?_
    rintro e w3 ⟨rfl, hb⟩
    have B3 : Hid (Below w.heap.size w w3) := B2.out.trans (hb.mono B2.out.size)
    have X0n : Hid (FlB w3 _ _ _ _ _) := X0.out.step hb
    clear X0
    have X0 := X0n
    clear X0n
    clear hb
    go_wp2_with fail
    refine (Y1 _).mono ?_
    rintro e w4 ⟨rfl, hb⟩
    have B4 : Hid (Below w.heap.size w w4) := B3.out.trans (hb.mono B3.out.size)
    have X0n : Hid (FlB w4 _ _ _ _ _) := X0.out.step hb
    clear X0
    have X0 := X0n
    clear X0n
    clear hb
    go_wp2_with fail
    refine (Z1 _).mono ?_
    rintro e w5 ⟨rfl, hb⟩
    have B5 : Hid (Below w.heap.size w w5) := B4.out.trans (hb.mono B4.out.size)
    have X0n : Hid (FlB w5 _ _ _ _ _) := X0.out.step hb
    clear X0
    have X0 := X0n
    clear X0n
    clear hb
    obtain ⟨l0, x00, x01, x02, x03, _, _, _, _⟩ := X0.out
    go_wp2_with fail
    refine (S _).mono ?_
    rintro e w6 ⟨rfl, hb⟩
    have B6 : Hid (Below w.heap.size w w6) := B5.out.trans (hb.mono B5.out.size)
    have X0n : Hid (FlB w6 _ _ _ _ _) := X0.out.step hb
    clear X0
    have X0 := X0n
    clear X0n
    clear hb
    go_wp2
    go_ret
    exact ⟨rfl, B6.out⟩
end Go.Proofs.YtdejfjlcknfbbaaDoor
