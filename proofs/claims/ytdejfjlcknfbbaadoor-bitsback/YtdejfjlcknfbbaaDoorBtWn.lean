/-
  bits' Widen and Narrow, by what the calls inside answer.
-/
import Derived.Test.YtdejfjlcknfbbaaDoorBtJ
import Derived.Test.YtdejfjlcknfbbaaDoorBtY
namespace Go.Proofs.YtdejfjlcknfbbaaDoor
open Go.RowKit

set_option maxRecDepth 100000 in
set_option maxHeartbeats 1000000 in
theorem widen_big {b : Nat} (h : 4294967296 ≤ b) (w : World) : Calls Tryd.prog 34 #[.int .u64 (b : Int)] w fun e w' => e = .returned (.tuple #[.int .u64 0, .iface 70 (.int .i64 1)]) ∧ Below w.heap.size w w' := by
  have H := fun W => unp_big h W
  clear h
  go_enter Tryd.func34, Tryd.ntmps34
  go_wp2_with fail
  refine (H _).mono ?_
  rintro e w1 ⟨rfl, hb⟩
  have B : Hid (Below w.heap.size w w1) := hb
  have l := hb.size
  clear hb
  go_wp2
  go_ret2
  exact ⟨rfl, B.out.alloc l _⟩
set_option maxRecDepth 100000 in
set_option maxHeartbeats 1000000 in
theorem widen_of {b x1 x2 x3 y : Int} {x0 : Bool} (H : ∀ W, Calls Tryd.prog 9 #[.int .u64 b, .int .i64 32] W fun e w' => e = .returned (.tuple #[.agg #[.bool x0, .int .i64 x1, .int .u64 x2, .int .i64 x3], .nilIface]) ∧ Below W.heap.size W w') (HP : ∀ W, Tab W → Calls Tryd.prog 46 #[.agg #[.int .u64 9223372036854775808, .int .u64 9218868437227405312, .int .i64 52, .int .i64 (-1074)], .agg #[.bool x0, .int .i64 x1, .int .u64 x2, .int .i64 x3]] W fun e w' => e = .returned (.tuple #[.int .u64 y, .nilIface]) ∧ Below W.heap.size W w') (w : World) (hT : Tab w) : Calls Tryd.prog 34 #[.int .u64 b] w fun e w' => e = .returned (.tuple #[.int .u64 y, .nilIface]) ∧ Below w.heap.size w w' := by
  have HD := fun W => double_any W
  have HT : Hid (Tab w) := hT
  clear hT
  go_enter Tryd.func34, Tryd.ntmps34
  go_wp2_with fail
  refine (H _).mono ?_
  rintro e w1 ⟨rfl, hb⟩
  have B : Hid (Below w.heap.size w w1) := hb
  have l := hb.size
  clear hb
  go_wp2
  go_region_held3 (fun w' => w'.cell? ⟨w1.heap.size, 0, none⟩ = some (.bool x0) ∧ w'.cell? ⟨w1.heap.size, 1, none⟩ = some (.int .i64 x1) ∧ w'.cell? ⟨w1.heap.size, 2, none⟩ = some (.int .u64 x2) ∧ w'.cell? ⟨w1.heap.size, 3, none⟩ = some (.int .i64 x3)) (simp [*, go_sem])
    (first
      | (go_at_call 56; refine (HD _).mono ?_; rintro q2 w2 ⟨rfl, hb⟩; have T2 : Hid (FlB w2 w1.heap.size _ _ _ _) := (FlB.new w1 _ _ _ _ _).drew.step hb; have B2 : Hid (Below w.heap.size w w2) := (B.out.alloc l _).drew.trans (hb.mono (by simp; omega)); clear hb; obtain ⟨l2, b0, b1, b2, b3, _, _, _, _⟩ := T2.out)
      | (go_at_call 46; refine (HP _ (HT.out.below B2.out HT.out.pos)).mono ?_; rintro q3 w3 ⟨rfl, hb⟩; have T3 : Hid (FlB w3 w1.heap.size _ _ _ _) := T2.out.step hb; have B3 : Hid (Below w.heap.size w w3) := B2.out.trans (hb.mono (by omega)); clear hb; obtain ⟨l3, c0, c1, c2, c3, _, _, _, _⟩ := T3.out))
  all_goals
    go_wp2
    go_ret2
    exact ⟨rfl, B3.out⟩
set_option maxRecDepth 100000 in
set_option maxHeartbeats 1000000 in
theorem narrow_fine {b x2 x3 : Int} {x0 bb : Bool} {Y : Nat} (hY : Y < 2147483648) (HU : ∀ W, Calls Tryd.prog 39 #[.agg #[.int .u64 9223372036854775808, .int .u64 9218868437227405312, .int .i64 52, .int .i64 (-1074)], .int .u64 b] W fun e w' => e = .returned (.agg #[.bool x0, .int .i64 2, .int .u64 x2, .int .i64 x3]) ∧ Below W.heap.size W w') (HX : ∀ W, Calls Tryd.prog 58 #[.agg #[.int .u64 2147483648, .int .u64 2139095040, .int .i64 23, .int .i64 (-149)], .int .u64 x2, .int .i64 x3] W fun e w' => e = .returned (.tuple #[.int .u64 (Y : Int), .bool bb]) ∧ Below W.heap.size W w') (w : World) : Calls Tryd.prog 36 #[.int .u64 b] w fun e w' => e = .returned (.tuple #[.int .u64 ((sgd 2147483648 x0 Y : Nat) : Int), .bool bb, .nilIface]) ∧ Below w.heap.size w w' := by
  have HG := fun W => signed_32 hY x0 W
  generalize sgd 2147483648 x0 Y = R at *
  clear hY
  have HD := fun W => double_any W
  have HS := fun W => single_any W
  go_enter Tryd.func36, Tryd.ntmps36
  go_wp2_with fail
  refine (HD _).mono ?_
  rintro e w1 ⟨rfl, hb⟩
  have B1 : Hid (Below w.heap.size w w1) := hb
  clear hb
  go_wp2_with fail
  refine (HU _).mono ?_
  rintro e w2 ⟨rfl, hb⟩
  have B2 : Hid (Below w.heap.size w w2) := B1.out.trans (hb.mono B1.out.size)
  clear hb
  go_wp2_with fail
  refine (HS _).mono ?_
  rintro e w3 ⟨rfl, hb⟩
  have B3 : Hid (Below w.heap.size w w3) := B2.out.trans (hb.mono B2.out.size)
  have l3 := B3.out.size
  clear hb
  have F3 : Hid (FlB ((w3.alloc (.cells #[.bool x0, .int .i64 2, .int .u64 x2, .int .i64 x3] 24)).alloc (.cells #[.int .u64 2147483648, .int .u64 2139095040, .int .i64 23, .int .i64 (-149)] 65)) w3.heap.size _ _ _ _) := (FlB.new w3 _ _ _ _ _).al _
  have S3 : Hid (FlB ((w3.alloc (.cells #[.bool x0, .int .i64 2, .int .u64 x2, .int .i64 x3] 24)).alloc (.cells #[.int .u64 2147483648, .int .u64 2139095040, .int .i64 23, .int .i64 (-149)] 65)) (w3.heap.size + 1) _ _ _ _) := FlB.newAt _ _ _ _ _ _ (by simp)
  have C3 : Hid (Below w.heap.size w ((w3.alloc (.cells #[.bool x0, .int .i64 2, .int .u64 x2, .int .i64 x3] 24)).alloc (.cells #[.int .u64 2147483648, .int .u64 2139095040, .int .i64 23, .int .i64 (-149)] 65))) := (B3.out.alloc l3 _).alloc (by simp; omega) _
  have k3 : w.heap.size ≤ ((w3.alloc (.cells #[.bool x0, .int .i64 2, .int .u64 x2, .int .i64 x3] 24)).alloc (.cells #[.int .u64 2147483648, .int .u64 2139095040, .int .i64 23, .int .i64 (-149)] 65)).heap.size := by simp; omega
  go_wp2_with fail
  refine (HX _).mono ?_
  rintro e w4 ⟨rfl, hb⟩
  have F4 : Hid (FlB w4 w3.heap.size _ _ _ _) := F3.out.step hb
  have S4 : Hid (FlB w4 (w3.heap.size + 1) _ _ _ _) := S3.out.step hb
  have C4 : Hid (Below w.heap.size w w4) := C3.out.trans (hb.mono k3)
  have k4 := C4.out.size
  clear hb F3 S3 C3 k3
  obtain ⟨_, a0, a1, a2, a3, _, _, _, _⟩ := F4.out
  obtain ⟨_, b0, b1, b2, b3, _, _, _, _⟩ := S4.out
  go_wp2_with fail
  refine (HG _).mono ?_
  rintro e w5 ⟨rfl, hb⟩
  have C5 : Hid (Below w.heap.size w w5) := C4.out.trans (hb.mono k4)
  clear hb
  go_wp2
  go_ret3
  exact ⟨rfl, C5.out⟩
set_option maxRecDepth 100000 in
set_option maxHeartbeats 1000000 in
theorem narrow_other {b x1 x2 x3 y : Int} {x0 : Bool} (q : (x1 == 2) = false) (HU : ∀ W, Calls Tryd.prog 39 #[.agg #[.int .u64 9223372036854775808, .int .u64 9218868437227405312, .int .i64 52, .int .i64 (-1074)], .int .u64 b] W fun e w' => e = .returned (.agg #[.bool x0, .int .i64 x1, .int .u64 x2, .int .i64 x3]) ∧ Below W.heap.size W w') (HP : ∀ W, Tab W → Calls Tryd.prog 46 #[.agg #[.int .u64 2147483648, .int .u64 2139095040, .int .i64 23, .int .i64 (-149)], .agg #[.bool x0, .int .i64 x1, .int .u64 x2, .int .i64 x3]] W fun e w' => e = .returned (.tuple #[.int .u64 y, .nilIface]) ∧ Below W.heap.size W w') (w : World) (hT : Tab w) : Calls Tryd.prog 36 #[.int .u64 b] w fun e w' => e = .returned (.tuple #[.int .u64 y, .bool (x1 != 4), .nilIface]) ∧ Below w.heap.size w w' := by
  have HT : Hid (Tab w) := hT
  clear hT
  have HD := fun W => double_any W
  have HS := fun W => single_any W
  go_enter Tryd.func36, Tryd.ntmps36
  go_wp2_with fail
  refine (HD _).mono ?_
  rintro e w1 ⟨rfl, hb⟩
  have B1 : Hid (Below w.heap.size w w1) := hb
  clear hb
  go_wp2_with fail
  refine (HU _).mono ?_
  rintro e w2 ⟨rfl, hb⟩
  have B2 : Hid (Below w.heap.size w w2) := B1.out.trans (hb.mono B1.out.size)
  clear hb
  go_wp2_with fail
  refine (HS _).mono ?_
  rintro e w3 ⟨rfl, hb⟩
  have B3 : Hid (Below w.heap.size w w3) := B2.out.trans (hb.mono B2.out.size)
  have l3 := B3.out.size
  clear hb
  have F3 : Hid (FlB ((w3.alloc (.cells #[.bool x0, .int .i64 x1, .int .u64 x2, .int .i64 x3] 24)).alloc (.cells #[.int .u64 2147483648, .int .u64 2139095040, .int .i64 23, .int .i64 (-149)] 65)) w3.heap.size _ _ _ _) := (FlB.new w3 _ _ _ _ _).al _
  have S3 : Hid (FlB ((w3.alloc (.cells #[.bool x0, .int .i64 x1, .int .u64 x2, .int .i64 x3] 24)).alloc (.cells #[.int .u64 2147483648, .int .u64 2139095040, .int .i64 23, .int .i64 (-149)] 65)) (w3.heap.size + 1) _ _ _ _) := FlB.newAt _ _ _ _ _ _ (by simp)
  have C3 : Hid (Below w.heap.size w ((w3.alloc (.cells #[.bool x0, .int .i64 x1, .int .u64 x2, .int .i64 x3] 24)).alloc (.cells #[.int .u64 2147483648, .int .u64 2139095040, .int .i64 23, .int .i64 (-149)] 65))) := (B3.out.alloc l3 _).alloc (by simp; omega) _
  have k3 : w.heap.size ≤ ((w3.alloc (.cells #[.bool x0, .int .i64 x1, .int .u64 x2, .int .i64 x3] 24)).alloc (.cells #[.int .u64 2147483648, .int .u64 2139095040, .int .i64 23, .int .i64 (-149)] 65)).heap.size := by simp; omega
  go_wp2_with fail
  refine (HP _ (HT.out.below C3.out HT.out.pos)).mono ?_
  rintro e w4 ⟨rfl, hb⟩
  have F4 : Hid (FlB w4 w3.heap.size _ _ _ _) := F3.out.step hb
  have C4 : Hid (Below w.heap.size w w4) := C3.out.trans (hb.mono k3)
  clear hb F3 S3 C3 k3
  obtain ⟨_, a0, a1, a2, a3, _, _, _, _⟩ := F4.out
  go_wp2
  go_region_held3 (fun w' => w'.cell? ⟨w3.heap.size, 1, none⟩ = some (.int .i64 x1)) (simp [*, go_sem]) (fail)
  go_wp2
  go_ret3
  exact ⟨rfl, C4.out.drew⟩
end Go.Proofs.YtdejfjlcknfbbaaDoor
