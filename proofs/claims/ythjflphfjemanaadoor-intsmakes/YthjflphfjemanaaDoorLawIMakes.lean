/-
  The law IntsMakes: the walk.
-/
import Derived.Test.YthjflphfjemanaaDoorItN
import Derived.Test.YthjflphfjemanaaDoorItW
namespace Go.Proofs.YthjflphfjemanaaDoor
open Go.RowKit

set_option maxRecDepth 100000 in
set_option maxHeartbeats 1000000 in
theorem makes_law (neg : Bool) (n : Nat) (hn : n < 18446744073709551616) (w : World) (hg : ErrT w) :
    Calls Tryd.prog 4 #[.bool neg, .int .u64 (n : Int)] w fun e w' => e = .returned (.bool true) ∧ Below w.heap.size w w' := by
  have M1 := fun W => imake_any neg n hn W
  have M2 := fun W => rmake_any neg n hn W
  have S1 := fun W (hg : ErrT W) => works_any W hg
  have HG : Hid (ErrT w) := hg
  clear hg hn
  generalize mkX neg n = X at *
  generalize mkB neg n = B at *
  cases B
  all_goals
    go_enter Tryd.func4, Tryd.ntmps4
    go_wp2_with fail
    refine (M1 _).mono ?_
    rintro e w ⟨rfl, rfl⟩
    go_wp2_with fail
    refine (M2 _).mono ?_
    rintro e w ⟨rfl, rfl⟩
    go_wp2_with fail
    refine (S1 _ HG.out).mono ?_
    rintro e w1 ⟨rfl, b1⟩
    go_wp2
    go_ret
    exact ⟨rfl, b1⟩
end Go.Proofs.YthjflphfjemanaaDoor
