/-
  The law WidthParses.
-/
import Derived.Test.YtoabdoognadijaaDoorWdW
namespace Go.Proofs.YtoabdoognadijaaDoor
open Go.RowKit

set_option maxRecDepth 100000 in
set_option maxHeartbeats 1000000 in
theorem wparses_law (s : ByteArray) (hs : s.size ≤ 140737488355328) (b k : Int) (w : World) (hg : ErrT w) :
    Calls Tryd.prog 4 #[.string s, .int .i64 b, .int .i64 k] w fun e w' => e = .returned (.bool true) ∧ Below w.heap.size w w' := by
  obtain ⟨X, E, P1, R1⟩ := unsigned_both s hs b k
  obtain ⟨Y, D, P2, R2⟩ := signed_both s hs b k
  have T1 := fun W y (h : ErV W (E : Int) ⟨#[85, 110, 115, 105, 103, 110, 101, 100]⟩ s y) (hg : ErrT W) => told_any (by decide) (by omega) h hg
  have T2 := fun W y (h : ErV W (D : Int) ⟨#[83, 105, 103, 110, 101, 100]⟩ s y) (hg : ErrT W) => told_any (by decide) (by omega) h hg
  have S1 := fun W (hg : ErrT W) => wsure_any W hg
  have HG : Hid (ErrT w) := hg
  clear hg hs
  go_enter Tryd.func4, Tryd.ntmps4
  have B0 : Hid (Below w.heap.size w w) := Below.refl _ _
  go_wp2_with fail
  refine (P1 _ HG.out).mono ?_
  rintro e w1 ⟨v1, rfl, hh, bb⟩
  have B1 : Hid (Below w.heap.size w w1) := B0.out.trans (bb.mono B0.out.size)
  have Kv1 : Hid (ErV w1 (E : Int) ⟨#[85, 110, 115, 105, 103, 110, 101, 100]⟩ s v1) := hh
  clear hh bb
  go_wp2_with fail
  refine (R1 _).mono ?_
  rintro e w2 ⟨rfl, bb⟩
  have B2 : Hid (Below w.heap.size w w2) := B1.out.trans (bb.mono B1.out.size)
  have Kv1n : Hid (ErV w2 (E : Int) ⟨#[85, 110, 115, 105, 103, 110, 101, 100]⟩ s v1) := Kv1.out.below bb (Nat.le_refl _)
  clear Kv1
  have Kv1 := Kv1n
  clear Kv1n
  clear bb
  go_wp2_with fail
  refine (P2 _ (HG.out.below B2.out HG.out.pos)).mono ?_
  rintro e w3 ⟨v2, rfl, hh, bb⟩
  have B3 : Hid (Below w.heap.size w w3) := B2.out.trans (bb.mono B2.out.size)
  have Kv1n : Hid (ErV w3 (E : Int) ⟨#[85, 110, 115, 105, 103, 110, 101, 100]⟩ s v1) := Kv1.out.below bb (Nat.le_refl _)
  clear Kv1
  have Kv1 := Kv1n
  clear Kv1n
  have Kv2 : Hid (ErV w3 (D : Int) ⟨#[83, 105, 103, 110, 101, 100]⟩ s v2) := hh
  clear hh bb
  go_wp2_with fail
  refine (R2 _).mono ?_
  rintro e w4 ⟨rfl, bb⟩
  have B4 : Hid (Below w.heap.size w w4) := B3.out.trans (bb.mono B3.out.size)
  have Kv1n : Hid (ErV w4 (E : Int) ⟨#[85, 110, 115, 105, 103, 110, 101, 100]⟩ s v1) := Kv1.out.below bb (Nat.le_refl _)
  clear Kv1
  have Kv1 := Kv1n
  clear Kv1n
  have Kv2n : Hid (ErV w4 (D : Int) ⟨#[83, 105, 103, 110, 101, 100]⟩ s v2) := Kv2.out.below bb (Nat.le_refl _)
  clear Kv2
  have Kv2 := Kv2n
  clear Kv2n
  clear bb
  go_wp2_with fail
  refine (T1 _ _ Kv1.out (HG.out.below B4.out HG.out.pos)).mono ?_
  rintro e w5 ⟨rfl, bb⟩
  clear Kv1
  have B5 : Hid (Below w.heap.size w w5) := B4.out.trans (bb.mono B4.out.size)
  have Kv2n : Hid (ErV w5 (D : Int) ⟨#[83, 105, 103, 110, 101, 100]⟩ s v2) := Kv2.out.below bb (Nat.le_refl _)
  clear Kv2
  have Kv2 := Kv2n
  clear Kv2n
  clear bb
  go_wp2_with fail
  refine (T2 _ _ Kv2.out (HG.out.below B5.out HG.out.pos)).mono ?_
  rintro e w6 ⟨rfl, bb⟩
  clear Kv2
  have B6 : Hid (Below w.heap.size w w6) := B5.out.trans (bb.mono B5.out.size)
  clear bb
  go_wp2_with fail
  refine (S1 _ (HG.out.below B6.out HG.out.pos)).mono ?_
  rintro e w7 ⟨rfl, bb⟩
  have B7 : Hid (Below w.heap.size w w7) := B6.out.trans (bb.mono B6.out.size)
  clear bb
  go_wp2
  go_ret
  exact ⟨rfl, B7.out⟩
end Go.Proofs.YtoabdoognadijaaDoor
