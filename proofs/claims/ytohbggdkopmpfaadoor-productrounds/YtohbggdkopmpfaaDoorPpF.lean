/-
  Two arrays of three words are compared word by word.
-/
import Derived.Test.YtohbggdkopmpfaaDoorPpB
import Derived.ChangeKeysEq
import Derived.Laws.StructEq
namespace Go.Proofs.YtohbggdkopmpfaaDoor
open Go.RowKit

theorem und_plong : Tryd.prog.underlying 44 = some (.array 3 22) := by kernel_rfl
theorem und_u64 : Tryd.prog.underlying 22 = some (.int .u64) := by kernel_rfl
theorem cells_u64 : Tryd.prog.cellsOf 22 = 1 := by kernel_rfl
theorem plain_u64 : Tryd.prog.plainKey 22 = true := by kernel_rfl
theorem lg_eql (a b c d e f : Int) (w : World) : (Op.equalIn 10000 44 (.agg #[.int .u64 a, .int .u64 b, .int .u64 c]) (.agg #[.int .u64 d, .int .u64 e, .int .u64 f])).run Tryd.prog w = .ok (a == d && (b == e && c == f)) w := by
  obtain ⟨i, hi⟩ := info_of_underlying und_u64
  rw [show (10000 : Nat) = 9999 + 1 from rfl, run_equalIn_array w 9999 _ _ und_plong hi, cells_u64, show List.range 3 = [0, 1, 2] from rfl]
  have q0 : ∀ x y z : Int, (part 22 #[.int .u64 x, .int .u64 y, .int .u64 z] (0 * 1)).run Tryd.prog w = .ok (.int .u64 x) w := fun x y z => run_part_plain w plain_u64 rfl
  have q1 : ∀ x y z : Int, (part 22 #[.int .u64 x, .int .u64 y, .int .u64 z] (1 * 1)).run Tryd.prog w = .ok (.int .u64 y) w := fun x y z => run_part_plain w plain_u64 rfl
  have q2 : ∀ x y z : Int, (part 22 #[.int .u64 x, .int .u64 y, .int .u64 z] (2 * 1)).run Tryd.prog w = .ok (.int .u64 z) w := fun x y z => run_part_plain w plain_u64 rfl
  have eq : ∀ x y : Int, (Op.equalIn 9999 22 (.int .u64 x) (.int .u64 y)).run Tryd.prog w = .ok (x == y) w := fun x y => run_equalIn_int w 9998 _ _ _ x y und_u64
  simp only [Op.eqItems, Sem.run_bind, Sem.run_ite, Sem.run_pure, q0, q1, q2, Result.andThen_ok, eq]
  cases (a == d) <;> cases (b == e) <;> cases (c == f) <;> simp
end Go.Proofs.YtohbggdkopmpfaaDoor
