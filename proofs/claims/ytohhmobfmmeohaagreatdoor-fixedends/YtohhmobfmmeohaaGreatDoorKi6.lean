/-
  Holds: VNatW.
-/
import Derived.Test.YtohhmobfmmeohaaGreatDoorRows
import Derived.Laws.Externs
import Derived.WalkKit
import Derived.WalkSpells
import Derived.WalkLawsBesides
import Derived.Lib.Mul64
import Derived.Deep.OwnRows
import Derived.Laws.CopyOwn
import Derived.BigQuiet
import Derived.Deep.RegionHeld3
import Derived.Test.YtohhmobfmmeohaaGreatDoorKi4
import Derived.Test.YtohhmobfmmeohaaGreatDoorKi5
set_option maxRecDepth 100000
set_option maxHeartbeats 4000000
namespace Go.Proofs.YtohhmobfmmeohaaGreatDoor
open Go.RowKit
structure Row (w : World) (g N : Nat) (F : Nat → Nat) : Prop where
 row : w.rowIs g 22 N (fun i => .int .u64 (F i : Int))
 ws : Ws F
theorem Row.set {w : World} {g N : Nat} {F : Nat → Nat} (R : Row w g N F) (i : Nat) {r : Nat} (hr : r < B) : Row (w.setCell ⟨g, i, none⟩ (.int .u64 (r : Int))) g N (put F i r) := by
 refine ⟨(R.row.set i (.int .u64 (r : Int))).congr fun j hj => ?_, put_Ws R.ws hr⟩
 unfold put
 by_cases c : j = i
 · rw [if_pos c, if_pos c]
 · rw [if_neg c, if_neg c]
theorem Row.drew {w : World} {g N : Nat} {F : Nat → Nat} (R : Row w g N F) : Row w.drew g N F := ⟨R.row.drew, R.ws⟩
theorem Row.below {w w' : World} {g N : Nat} {F : Nat → Nat} (R : Row w g N F) (h : Below w.heap.size w w') : Row w' g N F :=
 ⟨R.row.of_block (h.block g R.row.lt), R.ws⟩
theorem Row.sl {w : World} {g N : Nat} {F : Nat → Nat} (R : Row w g N F) {o n c : Nat} (h : o + n ≤ N) (hc : n ≤ c) (hm : c ≤ maxLen) : Sl w (some ⟨g, o, none⟩) n c g o (fun i => F (o + i)) :=
 ⟨hc, hm, fun _ => rfl, fun _ => R.row.lt, fun i hi => R.row.cell (by omega), fun i => R.ws _⟩
theorem grown_set {w wr : World} {g i : Nat} (h : w.grownBy wr (some g)) (v : Value) : w.grownBy (wr.setCell ⟨g, i, none⟩ v) (some g) :=
 ⟨h.os, h.tape, h.output, by rw [World.size_setCell]; exact h.size, fun k hk hne => (Below.heap_setCell _ _ _ _ (fun e => hne (by rw [e]))).trans (h.block k hk hne)⟩
theorem grown_drew {w wr : World} {row : Option Nat} (h : w.grownBy wr row) : w.grownBy wr.drew row := ⟨h.os, h.tape, h.output, h.size, h.block⟩
theorem grown_trans {a b c : World} {row : Option Nat} (h : a.grownBy b row) (k : b.grownBy c row) : a.grownBy c row :=
 ⟨k.os.trans h.os, k.tape.trans h.tape, k.output.trans h.output, Nat.le_trans h.size k.size, fun i hi hne => (k.block i (Nat.lt_of_lt_of_le hi h.size) hne).trans (h.block i hi hne)⟩
theorem add64N (x y c : Nat) (hx : x < B) (hy : y < B) (hc : c ≤ 1) (w : World) :
 (callFunc 121 #[.int .u64 (x : Int), .int .u64 (y : Int), .int .u64 (c : Int)]).run Tryz.prog w = .ok (.value (.tuple #[.int .u64 (((x + y + c) % B : Nat) : Int), .int .u64 (((x + y + c) / B : Nat) : Int)])) w := by
 unfold B at *
 rw [add64 x y c ⟨by omega, by omega⟩ ⟨by omega, by omega⟩ (by omega) (by omega)]
 unfold a3Lo a3C
 rfl
end Go.Proofs.YtohhmobfmmeohaaGreatDoor
