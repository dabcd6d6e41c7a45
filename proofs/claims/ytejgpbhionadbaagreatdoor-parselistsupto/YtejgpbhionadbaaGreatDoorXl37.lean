/-
  Holds: UAs3 UAs.
-/
import Derived.Test.YtejgpbhionadbaaGreatDoorRows
import Derived.Laws.Externs
import Derived.WalkKit
import Derived.WalkSpells
import Derived.WalkLawsBesides
import Derived.Lib.Mul64
import Derived.Stop.Asserts
import Derived.RowKitTokens
import Derived.Test.YtejgpbhionadbaaGreatDoorXl0
set_option maxRecDepth 100000
set_option maxHeartbeats 4000000
namespace Go.Proofs.YtejgpbhionadbaaGreatDoor
open Go.RowKit Go.Extern.Stop Go.Stop Go.Extern
theorem tK (h : Value) (w : World) : (Go.method 492 119 (.agg #[h]) "Kind").run Tryz.prog w = .ok (299, h) w := by kernel_rfl
theorem tI (h : Value) (w : World) : (Go.method 492 119 (.agg #[h]) "Elem").run Tryz.prog w = .ok (311, .agg #[h]) w := by kernel_rfl
theorem tJ (h : Value) (w : World) : (Go.method 492 119 (.agg #[h]) "Implements").run Tryz.prog w = .ok (312, .agg #[h]) w := by kernel_rfl
theorem oO (h : Value) (w : World) : (Go.method 492 119 (.agg #[h]) "AssignableTo").run Tryz.prog w = .ok (309, .agg #[h]) w := by kernel_rfl
def ErrT (w:World):Prop:=w.cell? ⟨0,0,none⟩=some (.iface 119 (.agg #[.pointer (some ⟨8,25,none⟩)]))
theorem ErrT.pos {w:World}(h:ErrT w):0<w.heap.size:=by
 rcases Nat.lt_or_ge 0 w.heap.size with a | a
 . exact a
 . unfold ErrT at h;simp [World.cell?,Array.getElem?_eq_none a] at h
theorem ErrT.below {w w':World}{B:Nat}(h:ErrT w) (hb:Below B w w') (hB:0<B):ErrT w':=by
 unfold ErrT at *
 rw [hb.cell (p:=⟨0,0,none⟩) hB];exact h
theorem iP (z:Sem Value) (f:TypeId -> Addr -> Nat -> Nat -> Sem Value) (v:Value) :
 ReflectliteValue.method z f #[v]=(do match <- ReflectliteValue.parts v with | none=>z | some (t,a,fl)=>f t a fl (fl % 32)):=rfl
end Go.Proofs.YtejgpbhionadbaaGreatDoor
