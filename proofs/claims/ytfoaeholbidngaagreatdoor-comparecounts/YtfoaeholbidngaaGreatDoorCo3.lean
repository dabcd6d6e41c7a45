/-
  A meter's Take and Give.
-/
import Derived.Test.YtfoaeholbidngaaGreatDoorCo2
import Derived.Laws.BitsAllLaws
import Derived.Lib.ItoaNum
import Derived.Laws.Externs
import Derived.WalkKit
import Derived.WalkSpells
import Derived.WalkLawsBesides
import Derived.Lib.Mul64
import Derived.Laws.Bits64b
import Derived.OwnWalk
import Derived.Lib.TrailingZeros
import Derived.Deep.OwnRows
import Derived.Laws.CopyOwn
import Derived.BigQuiet
import Derived.Deep.QuietTactic
import Derived.RegionTactic
import Derived.ChangeAlike
import Derived.BigRegion
import Derived.Deep.RegionHeld3
import Derived.Lib.SliceRun
import Derived.Deep.LoopGhost
import Derived.WalkMore
import Derived.Deep.RegionWith
import Derived.Deep.AppendLies
import Derived.Deep.DeepCutAuto
import Derived.LaidEql
import Derived.Stop.Asserts
import Derived.RowKitTokens
import Derived.Lib.Strings
import Derived.Lib.BufferWrite
import Derived.Lib.UnsafeStr
import Derived.Laws.MakeOwn
import Derived.Lib.ConvBytes
import Derived.Laws.AppendOwn
import Ieee.Arith
import Derived.Laws.FloatArith
namespace Go.Proofs.YtfoaeholbidngaaGreatDoor
open Go.RowKit

theorem MS.set0 {W : World} {b : Nat} {l p e t s : Int} (h : MS W b l p e t s) (x : Int) : MS (W.setCell ⟨b, 0, none⟩ (.int .i64 x)) b x p e t s :=
  ⟨by rw [World.size_setCell]; exact h.lt, MS.same h.c0, (MS.oth _ (by omega)).trans h.c1, (MS.oth _ (by omega)).trans h.c2, (MS.oth _ (by omega)).trans h.c3, (MS.oth _ (by omega)).trans h.c4, fun o => by rw [World.frozen?_setCell]; exact h.fr o, fun o ho => (MS.oth _ (by omega)).trans (h.up o ho)⟩
theorem MS.set1 {W : World} {b : Nat} {l p e t s : Int} (h : MS W b l p e t s) (x : Int) : MS (W.setCell ⟨b, 1, none⟩ (.int .i64 x)) b l x e t s :=
  ⟨by rw [World.size_setCell]; exact h.lt, (MS.oth _ (by omega)).trans h.c0, MS.same h.c1, (MS.oth _ (by omega)).trans h.c2, (MS.oth _ (by omega)).trans h.c3, (MS.oth _ (by omega)).trans h.c4, fun o => by rw [World.frozen?_setCell]; exact h.fr o, fun o ho => (MS.oth _ (by omega)).trans (h.up o ho)⟩
/-- The greatest of three. -/
def mx3 (p n l : Int) : Int := max p (max n l)
set_option maxRecDepth 100000 in
theorem raise_at {b : Nat} {l p e t s : Int} (n : Int) (w : World) (h : MS w b l p e t s) :
    Calls Tryz.prog 133 #[mV b, .int .i64 n] w fun x w' => x = .returned (.tuple #[]) ∧ But b w w' ∧ MS w' b l (mx3 p n l) e t s := by
  have M0 : Hid (MS w b l p e t s) := h
  obtain ⟨y, hy⟩ : ∃ y, y = mx3 p n l := ⟨_, rfl⟩
  rw [← hy]
  have HY : Hid (y = max p (max n l)) := hy
  clear hy
  unfold mV
  obtain ⟨lt, c0, c1, c2, c3, c4, fr⟩ := h
  go_enter Tryz.func133, Tryz.ntmps133
  go_wp2
  go_region
  all_goals
    go_wp2
  all_goals
    refine bodyPost_end (v := .tuple #[]) (results_none Tryz.results133 _ _ _) rfl ⟨rfl, ?_⟩
    refine ⟨(But.set b w 1 _).trans (But.drewN b _ 1), ?_⟩
    have q := (M0.out.set1 y).step (Below.refl _ _).drew
    have z := HY.out
    first
      | (rw [show y = l by omega] at q ⊢; exact q)
      | (rw [show y = n by omega] at q ⊢; exact q)
      | (rw [show y = p by omega] at q ⊢; exact q)
set_option maxRecDepth 100000 in
theorem take_at {b : Nat} {l p e t s : Int} {n : Int} (l0 : 0 ≤ l) (n1 : n ≤ 9223372036854775807) (w : World) (h : MS w b l p e t s) :
    Calls Tryz.prog 98 #[mV b, .int .i64 n] w fun x w' => x = .returned (.tuple #[]) ∧ But b w w' ∧ MS w' b (moreI l n) (mx3 p 0 (moreI l n)) e t s := by
  have M0 : Hid (MS w b l p e t s) := h
  have M := fun W => more_any l0 n1 W
  have R := fun W y (h : MS W b y p e t s) => raise_at 0 W h
  generalize moreI l n = y at *
  clear l0 n1
  unfold mV at *
  obtain ⟨lt, c0, c1, c2, c3, c4, fr⟩ := h
  go_enter Tryz.func98, Tryz.ntmps98
  go_wp2_with fail
  refine (M _).mono ?_
  rintro x w1 ⟨rfl, rfl⟩
  go_wp2_with fail
  refine (R _ _ (M0.out.set0 y)).mono ?_
  rintro x w2 ⟨rfl, b2, m2⟩
  go_wp2
  exact bodyPost_end (v := .tuple #[]) (results_none Tryz.results98 _ _ _) rfl ⟨rfl, (But.set b _ 0 _).trans b2, m2⟩
/-- So many fewer, not below 0. -/
def lessI (c n : Int) : Int := if n < 1 then c else max (c - n) 0
set_option maxRecDepth 100000 in
theorem give_at {b : Nat} {l p e t s : Int} {n : Int} (l0 : 0 ≤ l) (l1 : l ≤ 9223372036854775807) (n1 : n ≤ 9223372036854775807) (w : World) (h : MS w b l p e t s) :
    Calls Tryz.prog 54 #[mV b, .int .i64 n] w fun x w' => x = .returned (.tuple #[]) ∧ But b w w' ∧ MS w' b (lessI l n) p e t s := by
  have M0 : Hid (MS w b l p e t s) := h
  unfold mV at *
  unfold lessI
  obtain ⟨lt, c0, c1, c2, c3, c4, fr⟩ := h
  by_cases h1 : n < 1
  · rw [if_pos h1]
    clear l0 l1 n1
    go_enter Tryz.func54, Tryz.ntmps54
    go_wp2
    first
      | exact bodyPost_ret (v := .tuple #[]) (results_none Tryz.results54 _ _ _) rfl ⟨rfl, But.refl _ _, M0.out⟩
      | exact bodyPost_end (v := .tuple #[]) (results_none Tryz.results54 _ _ _) rfl ⟨rfl, But.refl _ _, M0.out⟩
  · rw [if_neg h1]
    obtain ⟨d, hd⟩ : ∃ d, d = l - n := ⟨_, rfl⟩
    have w1 : IntKind.i64.wrap (l - n) = d := by
      unfold IntKind.wrap
      simp [IntKind.bits, IntKind.signed]
      omega
    rw [← hd]
    obtain ⟨y, hy⟩ : ∃ y, y = max d 0 := ⟨_, rfl⟩
    rw [← hy]
    have HY : Hid (y = max d 0) := hy
    clear hy l0 l1 n1 hd
    go_enter Tryz.func54, Tryz.ntmps54
    go_wp2
    all_goals
      refine bodyPost_end (v := .tuple #[]) (results_none Tryz.results54 _ _ _) rfl ⟨rfl, ?_⟩
      refine ⟨But.set b w 0 _, ?_⟩
      have q := M0.out.set0 y
      have z := HY.out
      first
        | (rw [z] at q ⊢; exact q)
        | (rw [show y = d by omega] at q ⊢; exact q)
        | (rw [show y = 0 by omega] at q ⊢; exact q)
theorem take_none (n : Int) (w : World) :
    Calls Tryz.prog 98 #[.pointer none, .int .i64 n] w fun x w' => x = .returned (.tuple #[]) ∧ w' = w := by
  go_enter Tryz.func98, Tryz.ntmps98
  go_wp2
  exact bodyPost_ret (v := .tuple #[]) (results_none Tryz.results98 _ _ _) rfl ⟨rfl, rfl⟩
theorem give_none (n : Int) (w : World) :
    Calls Tryz.prog 54 #[.pointer none, .int .i64 n] w fun x w' => x = .returned (.tuple #[]) ∧ w' = w := by
  go_enter Tryz.func54, Tryz.ntmps54
  go_wp2
  exact bodyPost_ret (v := .tuple #[]) (results_none Tryz.results54 _ _ _) rfl ⟨rfl, rfl⟩
end Go.Proofs.YtfoaeholbidngaaGreatDoor
