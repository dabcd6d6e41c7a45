/-
  Holds: VBtZ.
-/
import Derived.Test.YtjagnfddmlkalaaGreatDoorRows
import Derived.Laws.Externs
import Derived.WalkKit
import Derived.WalkSpells
import Derived.WalkLawsBesides
import Derived.Lib.Mul64
import Derived.Lib.TrailingZeros
import Derived.Test.YtjagnfddmlkalaaGreatDoorKj3
set_option maxRecDepth 100000
set_option maxHeartbeats 4000000
namespace Go.Proofs.YtjagnfddmlkalaaGreatDoor
open Go.RowKit
def Tab (w : World) : Prop := ∀ j, j < 64 → w.cell? ⟨7, j, none⟩ = some (.int .u8 (Lib.deBruijn64tab.getD j 0))
theorem Tab.pos {w : World} (h : Tab w) : 7 < w.heap.size := World.block_lt_of_cell? _ _ (h 0 (by omega))
theorem Tab.below {w w' : World} {B : Nat} (h : Tab w) (hb : Below B w w') (hB : 7 < B) : Tab w' := fun j hj => (hb.cell (p := ⟨7, j, none⟩) hB).trans (h j hj)
theorem Tab.next {w w' : World} (h : Tab w) (hb : Below w.heap.size w w') : Tab w' := h.below hb h.pos
def ctzW (x : Int) : Int := (Lib.ctz 64 x.toNat : Int)
theorem tz64_core (x : Int) (k idx : Nat) (w : World) (hx0 : (x == 0) = false)
 (key : IntKind.u64.wrap (bits BinOp.and IntKind.u64 x (IntKind.u64.wrap (-x)) * 285870213051353865) / 288230376151711744 = (idx : Int))
 (hi : idx < 64) (hk : k < 64) (hcell : w.cell? ⟨7, idx, none⟩ = some (.int .u8 k)) :
 Calls Tryz.prog 158 #[.int .u64 x] w fun e w' => e = .returned (.int .i64 k) ∧ w' = w := by
 go_enter Tryz.func158, Tryz.ntmps158
 go_wp2_with (simp only [key])
 go_ret
 exact ⟨rfl, rfl⟩
theorem tz64_zero (w : World) : Calls Tryz.prog 158 #[.int .u64 0] w fun e w' => e = .returned (.int .i64 64) ∧ w' = w := by
 go_enter Tryz.func158, Tryz.ntmps158
 go_wp2
 go_ret
 exact ⟨rfl, rfl⟩
theorem tz64_any (x : Int) (h : Word x) (w : World) (hT : Tab w) :
 Calls Tryz.prog 158 #[.int .u64 x] w fun e w' => e = .returned (.int .i64 (ctzW x)) ∧ w' = w := by
 by_cases c : x = 0
 · subst c; exact tz64_zero w
 · obtain ⟨y, rfl⟩ := Int.eq_ofNat_of_zero_le h.1
   have hy : y < 18446744073709551616 := by have := h.2; omega
   have hy0 : y ≠ 0 := by omega
   obtain ⟨hlow, hk⟩ := Lib.lowest_bit 64 y hy0 hy
   obtain ⟨hi, htab⟩ := Lib.deBruijn64_at _ hk
   have hcell := hT _ hi
   rw [htab] at hcell
   have e1 : IntKind.u64.wrap (-(y : Int)) = ((18446744073709551616 - y : Nat) : Int) := by rw [IntKind.wrap_u64]; omega
   have key : IntKind.u64.wrap (bits BinOp.and IntKind.u64 (y : Int) (IntKind.u64.wrap (-(y : Int))) * 285870213051353865) / 288230376151711744 = ((2 ^ Lib.ctz 64 y * 285870213051353865 % 18446744073709551616 / 288230376151711744 : Nat) : Int) := by
    have hlow' : y &&& (18446744073709551616 - y) = 2 ^ Lib.ctz 64 y := hlow
    rw [e1, bits_and_u64_nat y _ hy (by omega), hlow', IntKind.wrap_u64]
    generalize 2 ^ Lib.ctz 64 y = q
    omega
   exact tz64_core y _ _ w (by simp; omega) key hi hk hcell
end Go.Proofs.YtjagnfddmlkalaaGreatDoor
