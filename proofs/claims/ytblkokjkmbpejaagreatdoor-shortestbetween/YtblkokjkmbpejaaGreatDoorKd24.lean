/-
  Holds: VBtE VBtL.
-/
import Derived.Laws.BitsAllLaws
import Derived.Test.YtblkokjkmbpejaaGreatDoorRows
import Derived.WalkKit
import Derived.BigQuiet
import Derived.Deep.RegionHeld3
import Derived.Deep.DeepCutAuto
import Derived.WalkSpells
import Derived.WalkLawsBesides
import Derived.Lib.Mul64
import Derived.Stop.Asserts
import Derived.RowKitTokens
import Derived.Test.YtblkokjkmbpejaaGreatDoorKd0
set_option maxRecDepth 100000
set_option maxHeartbeats 4000000
namespace Go.Proofs.YtblkokjkmbpejaaGreatDoor
open Go.RowKit
theorem prev_end {b s : Int}  (HC : ∀ W, Calls Tryz.prog 166 #[.int .u64 b, .int .i64 s] W fun e w' => e = .returned (.tuple #[.int .i64 1, .nilIface]) ∧ Below W.heap.size W w') (w : World) : Calls Tryz.prog 141 #[.int .u64 b, .int .i64 s] w fun e w' => e = .returned (.tuple #[.int .u64 0, .iface 69 (.int .i64 4)]) ∧ Below w.heap.size w w' := by
 go_enter Tryz.func141, Tryz.ntmps141
 go_wp2_with fail
 refine (HC _).mono ?_
 rintro e w1 ⟨rfl, hb⟩
 have B : Hid (Below w.heap.size w w1) := hb
 clear hb
 go_wp2
 go_ret2
 exact ⟨rfl, B.out⟩
theorem prev_ok {b s : Int} {c : Int} (q1 : (c == 4) = false) (q2 : (c == 1) = false) (h0 : 1 ≤ b) (h1 : b < 18446744073709551616) (HC : ∀ W, Calls Tryz.prog 166 #[.int .u64 b, .int .i64 s] W fun e w' => e = .returned (.tuple #[.int .i64 c, .nilIface]) ∧ Below W.heap.size W w') (w : World) : Calls Tryz.prog 141 #[.int .u64 b, .int .i64 s] w fun e w' => e = .returned (.tuple #[.int .u64 (b - 1), .nilIface]) ∧ Below w.heap.size w w' := by
 go_enter Tryz.func141, Tryz.ntmps141
 go_wp2_with fail
 refine (HC _).mono ?_
 rintro e w1 ⟨rfl, hb⟩
 have B : Hid (Below w.heap.size w w1) := hb
 clear hb
 go_wp2
 go_ret2
 exact ⟨rfl, B.out⟩
theorem toB {P : Program} {f : FuncId} {a : Array Value} {W : World} {x : Ending} (h : Calls P f a W fun e w' => e = x ∧ w' = W) : Calls P f a W fun e w' => e = x ∧ Below W.heap.size W w' :=
 h.mono fun e w' q => ⟨q.1, by rw [q.2]; exact Below.refl _ _⟩
theorem toB' {P : Program} {f : FuncId} {a : Array Value} {x : Ending} (h : ∀ W, Calls P f a W fun e w' => e = x ∧ w' = W) (W : World) : Calls P f a W fun e w' => e = x ∧ Below W.heap.size W w' := toB (h W)
end Go.Proofs.YtblkokjkmbpejaaGreatDoor
