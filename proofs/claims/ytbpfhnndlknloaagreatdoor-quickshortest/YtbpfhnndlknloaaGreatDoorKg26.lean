/-
  Holds: VBtE VBtL.
-/
import Derived.Laws.BitsAllLaws
import Derived.Test.YtbpfhnndlknloaaGreatDoorRows
import Derived.WalkKit
import Derived.BigQuiet
import Derived.Deep.RegionHeld3
import Derived.Deep.DeepCutAuto
import Derived.WalkSpells
import Derived.WalkLawsBesides
import Derived.Lib.Mul64
import Derived.Stop.Asserts
import Derived.RowKitTokens
import Derived.Test.YtbpfhnndlknloaaGreatDoorKg0
set_option maxRecDepth 100000
set_option maxHeartbeats 4000000
namespace Go.Proofs.YtbpfhnndlknloaaGreatDoor
open Go.RowKit
theorem prev_ok {b s : Int} {c : Int} (q1 : (c == 4) = false) (q2 : (c == 1) = false) (h0 : 1 ≤ b) (h1 : b < 18446744073709551616) (HC : ∀ W, Calls Tryz.prog 78 #[.int .u64 b, .int .i64 s] W fun e w' => e = .returned (.tuple #[.int .i64 c, .nilIface]) ∧ Below W.heap.size W w') (w : World) : Calls Tryz.prog 38 #[.int .u64 b, .int .i64 s] w fun e w' => e = .returned (.tuple #[.int .u64 (b - 1), .nilIface]) ∧ Below w.heap.size w w' := by
 go_enter Tryz.func38, Tryz.ntmps38
 go_wp2_with fail
 refine (HC _).mono ?_
 rintro e w1 ⟨rfl, hb⟩
 have B : Hid (Below w.heap.size w w1) := hb
 clear hb
 go_wp2
 go_ret2
 exact ⟨rfl, B.out⟩
theorem toB {P : Program} {f : FuncId} {a : Array Value} {W : World} {x : Ending} (h : Calls P f a W fun e w' => e = x ∧ w' = W) : Calls P f a W fun e w' => e = x ∧ Below W.heap.size W w' :=
 h.mono fun e w' q => ⟨q.1, by rw [q.2]; exact Below.refl _ _⟩
theorem toB' {P : Program} {f : FuncId} {a : Array Value} {x : Ending} (h : ∀ W, Calls P f a W fun e w' => e = x ∧ w' = W) (W : World) : Calls P f a W fun e w' => e = x ∧ Below W.heap.size W w' := toB (h W)
end Go.Proofs.YtbpfhnndlknloaaGreatDoor
