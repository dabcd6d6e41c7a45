/-
  The law RoundWholes: every word times every power of two is rounded right, with a little more, too, or the error.
-/
import Derived.Test.YtealnajogkeckaaDoorRnL
namespace Go.Proofs.YtealnajogkeckaaDoor
open Go.RowKit

set_option maxRecDepth 100000 in
set_option maxHeartbeats 2000000 in
theorem law_rwholes (s : Int) (c more : Bool) (m : Nat) (hm : m < 18446744073709551616) (e : Int) (w : World) (hT : Tab w) : Calls Tryd.prog 4 #[.agg #[.int .i64 s, .bool c, .bool more, .int .u64 (m : Int), .int .i64 e]] w fun x w' => x = .returned (.bool true) ∧ Below w.heap.size w w' := by
  obtain ⟨y, k, H1, H2⟩ := whole_both s c more m hm e
  have HN := fun W => num_any k W
  have HW := fun W hW => works_any W hW
  have HT : Hid (Tab w) := hT
  have B0 : Hid (Below w.heap.size w (w.alloc (.cells #[.int .i64 s, .bool c, .bool more, .int .u64 (m : Int), .int .i64 e] 39))) := (Below.refl _ _).alloc (Nat.le_refl _) _
  have X0 : Hid (FvB (w.alloc (.cells #[.int .i64 s, .bool c, .bool more, .int .u64 (m : Int), .int .i64 e] 39)) w.heap.size _ _ _ _ _) := FvB.new w _ _ _ _ _ _
  generalize errV k = V at *
  clear hT hm
  go_enter Tryd.func4, Tryd.ntmps4
  go_wp2_with fail
  refine (H1 _ (HT.out.next B0.out)).mono ?_
  rintro x w1 ⟨rfl, b1⟩
  have B1 : Hid (Below w.heap.size w w1) := B0.out.trans (b1.mono B0.out.size)
  have X1 : Hid (FvB w1 w.heap.size _ _ _ _ _) := X0.out.step b1
  clear b1 B0 X0 H1
  obtain ⟨_, a0, a1, a2, a3, a4⟩ := X1.out
  go_wp2_with fail
  refine (H2 _).mono ?_
  rintro x w2 ⟨rfl, b2⟩
  have B2 : Hid (Below w.heap.size w w2) := B1.out.trans (b2.mono B1.out.size)
  clear b2 B1 X1 H2 a0 a1 a2 a3 a4
  go_wp2_with fail
  refine (HN _).mono ?_
  rintro x w3 ⟨rfl, rfl⟩
  go_wp2_with fail
  refine (HW _ (HT.out.next B2.out)).mono ?_
  rintro x w4 ⟨rfl, b4⟩
  have B4 : Hid (Below w.heap.size w w4) := B2.out.trans (b4.mono B2.out.size)
  clear b4 B2
  go_wp2
  go_ret
  exact ⟨rfl, B4.out⟩
end Go.Proofs.YtealnajogkeckaaDoor
