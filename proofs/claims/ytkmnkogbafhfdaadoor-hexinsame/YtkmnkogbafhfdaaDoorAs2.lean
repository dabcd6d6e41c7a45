/-
  errors.As at a target of type *api.Errno, where the error itself is an Errno: true, and the target holds it; the number of an error (num): 0 of none, k of the Errno k.
-/
import Derived.Test.YtkmnkogbafhfdaaDoorAs
import Derived.WalkKit
namespace Go.Proofs.YtkmnkogbafhfdaaDoor
open Go.RowKit Go.Extern.Stop Go.Stop Go.Extern

theorem as_set (ta b : Addr) (k : Int) (old : Value) (W : World) (hb : W.cell? b = some (.int .i64 k)) (ht : W.cell? ta = some old) (hf : W.frozen? ta = false) :
    (ReflectliteValue.set #[.agg #[.pointer (some ⟨2, 42, none⟩), .pointer (some ta), .int .u64 386], .agg #[.pointer (some ⟨2, 42, none⟩), .pointer (some b), .int .u64 130]]).run Tryd.prog W
      = .ok (.tuple #[]) (W.setCell ta (.int .i64 k)) := by
  refine Eq.trans (Sem.run_bind _ _ (ReflectliteValue.parts (.agg #[.pointer (some ⟨2, 42, none⟩), .pointer (some ta), .int .u64 386])) _) ?_
  simp only [as_parts_dst, Result.andThen]
  refine Eq.trans (Sem.run_bind _ _ (ReflectliteValue.parts (.agg #[.pointer (some ⟨2, 42, none⟩), .pointer (some b), .int .u64 130])) _) ?_
  simp only [as_parts_src, Result.andThen]
  simp [ReflectliteValue.flagAddr, loadVar, isAgg, underlying, Tryd.underlying42, hb, Result.andThen, as_direct, storeVar, Value.cells, storeCells, Addr.add]
  rw [run_store Tryd.prog W ta _ _ (by rfl)]
  simp [ht, hf]

end Go.Proofs.YtkmnkogbafhfdaaDoor
