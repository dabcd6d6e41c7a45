/-
  The document's Widen and Narrow, by what the calls inside answer.
-/
import Derived.Test.YtdejfjlcknfbbaaDoorBtL
import Derived.Test.YtdejfjlcknfbbaaDoorBtW
namespace Go.Proofs.YtdejfjlcknfbbaaDoor
open Go.RowKit

theorem nw_zero {m s : Nat} {p : Int} (hs : sN m p = s) (h : rN m s = 0) : nw m p = (0, false) := by
  unfold nw; rw [hs, if_pos h]
theorem nw_none {m s : Nat} {p q : Int} (hs : sN m p = s) (hq : p + (s : Int) = q) (h : rN m s ≠ 0) (k : pk 23 255 (-149) (rN m s) q = none) : nw m p = (2139095040, false) := by
  unfold nw; rw [hs, if_neg h, hq, k]
theorem nw_some {m s y : Nat} {p q : Int} (hs : sN m p = s) (hq : p + (s : Int) = q) (h : rN m s ≠ 0) (k : pk 23 255 (-149) (rN m s) q = some y) : nw m p = (y, decide (m % 2 ^ s = 0)) := by
  unfold nw; rw [hs, if_neg h, hq, k]

set_option maxRecDepth 100000 in
set_option maxHeartbeats 1000000 in
theorem rwiden_big {b : Nat} (h : 4294967296 ≤ b) (w : World) : Calls Tryd.prog 35 #[.int .u64 (b : Int)] w fun e w' => e = .returned (.tuple #[.int .u64 0, .int .i64 1]) ∧ Below w.heap.size w w' := by
  have H := fun W => runp_big h W
  clear h
  go_enter Tryd.func35, Tryd.ntmps35
  go_wp2_with fail
  refine (H _).mono ?_
  rintro e w1 ⟨rfl, hb⟩
  have B : Hid (Below w.heap.size w w1) := hb
  have l := hb.size
  clear hb
  go_wp2
  go_ret2
  exact ⟨rfl, B.out.alloc l _⟩
set_option maxRecDepth 100000 in
set_option maxHeartbeats 1000000 in
theorem rwiden_of {b x1 x2 x3 y k : Int} {x0 : Bool} (H : ∀ W, Calls Tryd.prog 10 #[.int .u64 b, .int .i64 32] W fun e w' => e = .returned (.tuple #[.agg #[.bool x0, .int .i64 x1, .int .u64 x2, .int .i64 x3], .int .i64 0]) ∧ Below W.heap.size W w') (HP : ∀ W, Calls Tryd.prog 18 #[.agg #[.bool x0, .int .i64 x1, .int .u64 x2, .int .i64 x3], .int .i64 64] W fun e w' => e = .returned (.tuple #[.int .u64 y, .int .i64 k]) ∧ Below W.heap.size W w') (w : World) : Calls Tryd.prog 35 #[.int .u64 b] w fun e w' => e = .returned (.tuple #[.int .u64 y, .int .i64 0]) ∧ Below w.heap.size w w' := by
  go_enter Tryd.func35, Tryd.ntmps35
  go_wp2_with fail
  refine (H _).mono ?_
  rintro e w1 ⟨rfl, hb⟩
  have B : Hid (Below w.heap.size w w1) := hb
  have l := hb.size
  clear hb
  go_wp2_with fail
  refine (HP _).mono ?_
  rintro e w2 ⟨rfl, hb⟩
  have B2 : Hid (Below w.heap.size w w2) := (B.out.alloc l _).trans (hb.mono (by simp; omega))
  clear hb
  go_wp2
  go_ret2
  exact ⟨rfl, B2.out⟩
set_option maxRecDepth 100000 in
set_option maxHeartbeats 1000000 in
theorem rnarrow_nan {b x2 x3 : Int} {x0 : Bool} (HU : ∀ W, Calls Tryd.prog 10 #[.int .u64 b, .int .i64 64] W fun e w' => e = .returned (.tuple #[.agg #[.bool x0, .int .i64 4, .int .u64 x2, .int .i64 x3], .int .i64 0]) ∧ Below W.heap.size W w') (w : World) : Calls Tryd.prog 37 #[.int .u64 b] w fun e w' => e = .returned (.tuple #[.int .u64 2143289344, .bool false]) ∧ Below w.heap.size w w' := by
  have HN := fun W => rnan_32 W
  go_enter Tryd.func37, Tryd.ntmps37
  go_wp2_with fail
  refine (HU _).mono ?_
  rintro e w1 ⟨rfl, hb⟩
  have B : Hid (Below w.heap.size w w1) := hb
  have l := hb.size
  clear hb
  go_wp2_with fail
  refine (HN _).mono ?_
  rintro e w2 ⟨rfl, hh⟩
  subst hh
  go_wp2
  go_ret2
  exact ⟨rfl, B.out.alloc l _⟩
set_option maxRecDepth 100000 in
set_option maxHeartbeats 1000000 in
theorem rnarrow_other {b x1 x2 x3 y k : Int} {x0 : Bool} (q4 : (x1 == 4) = false) (q2 : (x1 == 2) = false) (HU : ∀ W, Calls Tryd.prog 10 #[.int .u64 b, .int .i64 64] W fun e w' => e = .returned (.tuple #[.agg #[.bool x0, .int .i64 x1, .int .u64 x2, .int .i64 x3], .int .i64 0]) ∧ Below W.heap.size W w') (HP : ∀ W, Calls Tryd.prog 18 #[.agg #[.bool x0, .int .i64 x1, .int .u64 x2, .int .i64 x3], .int .i64 32] W fun e w' => e = .returned (.tuple #[.int .u64 y, .int .i64 k]) ∧ Below W.heap.size W w') (w : World) : Calls Tryd.prog 37 #[.int .u64 b] w fun e w' => e = .returned (.tuple #[.int .u64 y, .bool true]) ∧ Below w.heap.size w w' := by
  go_enter Tryd.func37, Tryd.ntmps37
  go_wp2_with fail
  refine (HU _).mono ?_
  rintro e w1 ⟨rfl, hb⟩
  have B : Hid (Below w.heap.size w w1) := hb
  have l := hb.size
  clear hb
  go_wp2_with fail
  refine (HP _).mono ?_
  rintro e w2 ⟨rfl, hb⟩
  have B2 : Hid (Below w.heap.size w w2) := (B.out.alloc l _).trans (hb.mono (by simp; omega))
  clear hb
  go_wp2
  go_ret2
  exact ⟨rfl, B2.out⟩
end Go.Proofs.YtdejfjlcknfbbaaDoor
