/-
  For the rows over nat: how long a slice of words that is handed in can be (what each argument takes at most is a condition of the form).
-/
import Derived.Test.YtkkgancmodhghaaDoorNatX
namespace Go.Proofs.YtkkgancmodhghaaDoor
open Go.ChangeShapes Go.WideShapes Go.ChangeAt Go.RowKit Go.Joins

theorem bytesU64 : Tryd.prog.bytesOf 35 = 8 := by kernel_rfl

set_option maxRecDepth 100000 in
theorem sl_reach {H : Type} {enc : TypeId × Value → H} {W : World} {d : DataW H} {ps : List MemPlace} {ao : Option Addr} {n c : Nat}
    (h : DataW.Trod enc Tryd.prog W 0 (fun _ => true) true 22 (.slice ao n c) d ps) (hw : (d.weights Tryd.prog 22).all (· ≤ reachBytes) = true) (hc : n ≤ c) : n * 8 ≤ 140737488355328 := by
  obtain ⟨fuel, hf⟩ := h
  rcases open_ints Tryd.underlying22 Tryd.underlying35 cellsU64 hf with ⟨hcs, hx⟩ | ⟨a, len', cap', zs, hcs, _, hl, hm, hz, hx, _, _⟩
  · simp [Value.cells] at hcs
    omega
  · simp [Value.cells] at hcs
    obtain ⟨_, rfl, rfl⟩ := hcs
    simp only [if_true] at hz
    have hd : d = .slice (lits .u64 (zs.take n)) (lits .u64 (zs.drop n)) := congrArg Prod.fst hx
    rw [hd] at hw
    unfold DataW.weights at hw
    rw [Tryd.underlying22] at hw
    simp only [List.all_cons, Bool.and_eq_true, decide_eq_true_eq, bytesU64] at hw
    have q := hw.1
    have l1 : (lits (H := H) .u64 (zs.take n)).length + (lits (H := H) .u64 (zs.drop n)).length = c := by
      simp [lits, hz]
      omega
    rw [l1] at q
    unfold reachBytes at q
    omega

end Go.Proofs.YtkkgancmodhghaaDoor
