/-
  Holds: UPpF.
-/
import Derived.Laws.BitsAllLaws
import Derived.Test.YtiminkommimgdabGreatDoorRows
import Derived.Laws.Externs
import Derived.WalkKit
import Derived.WalkSpells
import Derived.WalkLawsBesides
import Derived.Lib.Mul64
import Derived.Lib.TrailingZeros
import Derived.Lib.ItoaNum
import Derived.Deep.OwnRows
import Derived.Laws.CopyOwn
import Derived.BigQuiet
import Derived.Deep.RegionHeld3
import Derived.Deep.LoopGhost
import Derived.Deep.AppendLies
import Derived.Deep.DeepCutAuto
import Derived.Test.YtiminkommimgdabGreatDoorZ0
set_option maxRecDepth 100000
set_option maxHeartbeats 4000000
namespace Go.Proofs.YtiminkommimgdabGreatDoor
open Go.RowKit
theorem und_plong : Tryz.prog.underlying 173 = some (.array 3 22) := by kernel_rfl
theorem und_u64 : Tryz.prog.underlying 22 = some (.int .u64) := by kernel_rfl
theorem cells_u64 : Tryz.prog.cellsOf 22 = 1 := by kernel_rfl
theorem plain_u64 : Tryz.prog.plainKey 22 = true := by kernel_rfl
theorem lg_eql (a b c d e f : Int) (w : World) : (Op.equalIn 10000 173 (.agg #[.int .u64 a, .int .u64 b, .int .u64 c]) (.agg #[.int .u64 d, .int .u64 e, .int .u64 f])).run Tryz.prog w = .ok (a == d && (b == e && c == f)) w := by
 obtain ⟨i, hi⟩ := info_of_underlying und_u64
 rw [show (10000 : Nat) = 9999 + 1 from rfl, run_equalIn_array w 9999 _ _ und_plong hi, cells_u64, show List.range 3 = [0, 1, 2] from rfl]
 have q0 : ∀ x y z : Int, (part 22 #[.int .u64 x, .int .u64 y, .int .u64 z] (0 * 1)).run Tryz.prog w = .ok (.int .u64 x) w := fun x y z => run_part_plain w plain_u64 rfl
 have q1 : ∀ x y z : Int, (part 22 #[.int .u64 x, .int .u64 y, .int .u64 z] (1 * 1)).run Tryz.prog w = .ok (.int .u64 y) w := fun x y z => run_part_plain w plain_u64 rfl
 have q2 : ∀ x y z : Int, (part 22 #[.int .u64 x, .int .u64 y, .int .u64 z] (2 * 1)).run Tryz.prog w = .ok (.int .u64 z) w := fun x y z => run_part_plain w plain_u64 rfl
 have eq : ∀ x y : Int, (Op.equalIn 9999 22 (.int .u64 x) (.int .u64 y)).run Tryz.prog w = .ok (x == y) w := fun x y => run_equalIn_int w 9998 _ _ _ x y und_u64
 simp only [Op.eqItems, Sem.run_bind, Sem.run_ite, Sem.run_pure, q0, q1, q2, Result.andThen_ok, eq]
 cases (a == d) <;> cases (b == e) <;> cases (c == f) <;> simp
end Go.Proofs.YtiminkommimgdabGreatDoor
