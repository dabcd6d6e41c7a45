/-
  What the head of the statements of layer 11 answers (sure), and what lies behind their walks: a call that keeps the world, errors' numbers.
-/
import Derived.Test.YtdejfjlcknfbbaaDoorBtD
import Derived.Test.YtdejfjlcknfbbaaDoorBtU
import Derived.Test.YtdejfjlcknfbbaaDoorErrNum
namespace Go.Proofs.YtdejfjlcknfbbaaDoor
open Go.RowKit

theorem toB {P : Program} {f : FuncId} {a : Array Value} {W : World} {x : Ending} (h : Calls P f a W fun e w' => e = x ∧ w' = W) : Calls P f a W fun e w' => e = x ∧ Below W.heap.size W w' :=
  h.mono fun e w' q => ⟨q.1, by rw [q.2]; exact Below.refl _ _⟩
theorem toB' {P : Program} {f : FuncId} {a : Array Value} {x : Ending} (h : ∀ W, Calls P f a W fun e w' => e = x ∧ w' = W) (W : World) : Calls P f a W fun e w' => e = x ∧ Below W.heap.size W w' := toB (h W)

set_option maxRecDepth 100000 in
set_option maxHeartbeats 1000000 in
theorem sure_any (w : World) : Calls Tryd.prog 16 #[] w fun e w' => e = .returned (.bool true) ∧ Below w.heap.size w w' := by
  have HU := fun W => unp_64 (b := 4609434218613702656) (by decide) W
  rw [show uN 9223372036854775808 9218868437227405312 4609434218613702656 = false by decide +kernel, show mg 9223372036854775808 4609434218613702656 = 4609434218613702656 by decide +kernel, show cl 9218868437227405312 4609434218613702656 = 2 by decide +kernel, show uM 9218868437227405312 52 4609434218613702656 = 6755399441055744 by decide +kernel, show uE 9218868437227405312 52 (-1074) 4609434218613702656 = -52 by decide +kernel, show ((4609434218613702656 : Nat) : Int) = 4609434218613702656 from rfl, show ((6755399441055744 : Nat) : Int) = 6755399441055744 from rfl] at HU
  have HN := fun W => bnan_32 W
  go_enter Tryd.func16, Tryd.ntmps16
  have B0 : Hid (Below w.heap.size w w) := Below.refl _ _
  go_wp2_with fail
  refine (HU _).mono ?_
  rintro e w1 ⟨rfl, hb⟩
  have B1 : Hid (Below w.heap.size w w1) := B0.out.trans (hb.mono B0.out.size)
  clear hb
  go_wp2_with fail
  refine (HN _).mono ?_
  rintro e w2 ⟨rfl, hb⟩
  have B2 : Hid (Below w.heap.size w w2) := (B1.out.alloc B1.out.size _).trans (hb.mono (by have := B1.out.size; simp; omega))
  have X0 : Hid (FlB w2 _ _ _ _ _) := (FlB.new w1 _ _ _ _ _).step hb
  clear hb
  obtain ⟨l0, x00, x01, x02, x03, _, _, _, _⟩ := X0.out
  go_wp2
  go_ret
  exact ⟨rfl, B2.out⟩
end Go.Proofs.YtdejfjlcknfbbaaDoor
