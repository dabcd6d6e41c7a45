/-
  Two short words for contracts, two for values.
-/
import Derived.Test.YtjagnfddmlkalaaGreatDoorChecked
import Derived.WalkKit
namespace Go.Proofs.YtjagnfddmlkalaaGreatDoor
open Go.RowKit
abbrev Cb (f : FuncId) (a : Array Value) (w : World) (v : Value) : Prop := Calls Tryz.prog f a w fun e w' => e = .returned v ∧ Below w.heap.size w w'
abbrev Cs (f : FuncId) (a : Array Value) (w : World) (v : Value) : Prop := Calls Tryz.prog f a w fun e w' => e = .returned v ∧ w' = w
abbrev Bl (w w' : World) : Prop := Below w.heap.size w w'
theorem bz (w : World) (o : Obj) : Below w.heap.size w (w.alloc o) := (Below.refl _ _).alloc (Nat.le_refl _) _
abbrev vI (x : Int) : Value := .int .i64 x
abbrev vU (x : Int) : Value := .int .u64 x
end Go.Proofs.YtjagnfddmlkalaaGreatDoor
