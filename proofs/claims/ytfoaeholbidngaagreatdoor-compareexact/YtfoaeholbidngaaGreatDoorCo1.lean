/-
  The document's Tell of 0 and Make of noughts.
-/
import Derived.Test.YtfoaeholbidngaaGreatDoorCo0
import Derived.Laws.BitsAllLaws
import Derived.Lib.ItoaNum
import Derived.Laws.Externs
import Derived.WalkKit
import Derived.WalkSpells
import Derived.WalkLawsBesides
import Derived.Lib.Mul64
import Derived.Laws.Bits64b
import Derived.OwnWalk
import Derived.Lib.TrailingZeros
import Derived.Deep.OwnRows
import Derived.Laws.CopyOwn
import Derived.BigQuiet
import Derived.Deep.QuietTactic
import Derived.RegionTactic
import Derived.ChangeAlike
import Derived.BigRegion
import Derived.Deep.RegionHeld3
import Derived.Lib.SliceRun
import Derived.Deep.LoopGhost
import Derived.WalkMore
import Derived.Deep.RegionWith
import Derived.Deep.AppendLies
import Derived.Deep.DeepCutAuto
import Derived.LaidEql
import Derived.Stop.Asserts
import Derived.RowKitTokens
import Derived.Lib.Strings
import Derived.Lib.BufferWrite
import Derived.Lib.UnsafeStr
import Derived.Laws.MakeOwn
import Derived.Lib.ConvBytes
import Derived.Laws.AppendOwn
import Ieee.Arith
import Derived.Laws.FloatArith
namespace Go.Proofs.YtfoaeholbidngaaGreatDoor
open Go.RowKit

theorem tell_zero {w : World} {va : Value} (ha : Big.NatV w va 0) (b : Nat) :
    Calls Tryz.prog 87 #[va, .int .i64 (b : Int)] w fun e w' => e = .returned (.string ⟨#[48]⟩) ∧ w' = w := by
  obtain ⟨a0, l0, c0, k0, o0, f0, rfl, S0, t0, hv0⟩ := ha
  have hl0 : l0 = 0 := by
    rcases Nat.eq_zero_or_pos l0 with q | q
    · exact q
    · have := Big.Top_ge t0 q
      have := Big.Bp_pos (l0 - 1)
      omega
  subst hl0
  clear S0 t0 hv0
  go_enter Tryz.func87, Tryz.ntmps87
  go_wp2
  go_ret
  exact ⟨rfl, rfl⟩
set_option maxRecDepth 100000 in
set_option maxHeartbeats 1000000 in
theorem rmake_zero {t : ByteArray} {p : Int} (hl : t.size ≤ 801) (hd : DG t) {z : Nat} (hz : z = t.size) (hz1 : ∀ i, i < z → dgt t i = 48) (w : World) :
    Calls Tryz.prog 88 #[.string t, .int .i64 p, .bool false] w fun e w' => e = .returned (.tuple #[dcV ⟨#[]⟩ 0 false, .int .i64 0]) ∧ Below w.heap.size w w' := by
  unfold dcV
  have D := fun W => rdig_yes t (by omega) hd W
  have HZ : Hid (∀ i, i < z → dgt t i = 48) := hz1
  go_enter Tryz.func88, Tryz.ntmps88
  go_wp2_with fail
  refine (D _).mono ?_
  rintro e w0 ⟨rfl, rfl⟩
  go_wp2
  go_loop [8] (fun iv => ∃ k : Nat, iv = .int .i64 (k : Int) ∧ k ≤ z) (fun iv => z - (intOf iv).toNat)
  case atStart => exact ⟨0, rfl, Nat.zero_le _⟩
  case round =>
    obtain ⟨k, rfl, hk⟩ := hrel
    by_cases c0 : k < z
    · have hks : k < t.size := by omega
      have x0 : ((((t[k]'hks).toNat : Nat) : Int) == 48) = true := beq_iff_eq.mpr (by have := HZ.out k c0; rw [dgt_lt hks] at this; omega)
      have i0 : (k : Int) < (t.size : Int) := by omega
      have i1 : (0 : Int) ≤ (k : Int) := by omega
      have wk : IntKind.i64.wrap ((k : Int) + 1) = (k : Int) + 1 := by
        unfold IntKind.wrap
        simp [IntKind.bits, IntKind.signed]
        omega
      go_wp2
      go_round
      case rel => exact ⟨k + 1, by go_num, by omega⟩
      case measure => simp [intOf] <;> omega
    · obtain rfl : z = k := by omega
      have i0 : ¬ (z : Int) < (t.size : Int) := by omega
      have u0 : t.extract z t.size = ⟨#[]⟩ := by
        have e := ext_size (s := t) (k := z) (by omega)
        apply size_zero
        omega
      have i2 : (z : Int) ≤ (t.size : Int) := by omega
      have i3 : (0 : Int) ≤ (z : Int) := by omega
      go_wp2
      go_loop [0] (fun v => v = .string ⟨#[]⟩) (fun _ => 0)
      case atStart => rfl
      case round =>
        subst hrel
        go_wp2
        refine bodyPost_ret (v := .tuple #[.agg #[.string ⟨#[]⟩, .int .i64 0, .bool false], .int .i64 0]) (by simp [results, Tryz.results88, go_sem]) rfl ⟨rfl, ?_⟩
        exact (Below.refl _ _).alloc (Nat.le_refl _) _
end Go.Proofs.YtfoaeholbidngaaGreatDoor
