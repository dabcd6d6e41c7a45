/-
  The law FaultNames: the walk.
-/
import Derived.Test.YtelobjhmbabiaaaDoorFtO
namespace Go.Proofs.YtelobjhmbabiaaaDoor
open Go.RowKit

set_option maxRecDepth 100000 in
set_option maxHeartbeats 2000000 in
theorem names_law (n : Int) (s : ByteArray) (w : World) (hP : PowB w.heap.size w) :
    Calls Tryd.prog 4 #[.int .i64 n, .string s] w fun x w' => x = .returned (.bool true) ∧ Below w.heap.size w w' := by
  have F1 := fun W => dfind_any s W
  have F2 := fun W => rfind_any s W
  have N1 := fun W => dname_any n W
  have N2 := fun W => rname_any n W
  have S1 := fun W (h : PowB W.heap.size W) => sure_any W h
  have HP : Hid (PowB w.heap.size w) := hP
  generalize findR s = F at *
  obtain ⟨f, b⟩ := F
  generalize nameR n = R at *
  have eR := str_eq R
  clear hP
  have qb : ∀ W, (binOp .eql 4 (.bool b) (.bool b)).run Tryd.prog W = .ok (.bool true) W := fun W => by cases b <;> rfl
  go_enter Tryd.func4, Tryd.ntmps4
  go_wp2_with fail
  refine (F1 _).mono ?_
  rintro x w1 ⟨rfl, b1⟩
  have B1 : Hid (Below w.heap.size w w1) := b1
  clear b1
  go_wp2_with fail
  refine (F2 _).mono ?_
  rintro x w2 ⟨rfl, b2⟩
  have B2 : Hid (Below w.heap.size w w2) := B1.out.trans (b2.mono B1.out.size)
  clear b2
  go_wp2_with fail
  refine (N1 _).mono ?_
  rintro x w3 ⟨rfl, b3⟩
  have B3 : Hid (Below w.heap.size w w3) := B2.out.trans (b3.mono B2.out.size)
  clear b3
  go_wp2_with fail
  refine (N2 _).mono ?_
  rintro x w4 ⟨rfl, b4⟩
  have B4 : Hid (Below w.heap.size w w4) := B3.out.trans (b4.mono B3.out.size)
  clear b4
  go_wp2_with fail
  refine (S1 _ (HP.out.step B4.out)).mono ?_
  rintro x w5 ⟨rfl, b5⟩
  have B5 : Hid (Below w.heap.size w w5) := B4.out.trans (b5.mono B4.out.size)
  clear b5
  go_wp2
  go_ret
  exact ⟨rfl, B5.out⟩
end Go.Proofs.YtelobjhmbabiaaaDoor
