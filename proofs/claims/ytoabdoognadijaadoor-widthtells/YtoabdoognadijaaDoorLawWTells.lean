/-
  The law WidthTells.
-/
import Derived.Test.YtoabdoognadijaaDoorWdW
namespace Go.Proofs.YtoabdoognadijaaDoor
open Go.RowKit

set_option maxRecDepth 100000 in
set_option maxHeartbeats 1000000 in
theorem wtells_law (v : Nat) (hv : v < 18446744073709551616) (b k : Int) (w : World) (hg : ErrT w) :
    Calls Tryd.prog 5 #[.int .u64 (v : Int), .int .i64 b, .int .i64 k] w fun e w' => e = .returned (.bool true) ∧ Below w.heap.size w w' := by
  obtain ⟨X, E, P1, R1⟩ := tell_both v hv b k
  obtain ⟨Y, D, P2, R2⟩ := tellsigned_both (wrap64 (v : Int)) (by unfold wrap64; omega) (by unfold wrap64; omega) b k
  have T1 := fun W y (h : ErV W (E : Int) ⟨#[84, 101, 108, 108]⟩ ⟨#[]⟩ y) (hg : ErrT W) => told_any (by decide) (by decide) h hg
  have T2 := fun W y (h : ErV W (D : Int) ⟨#[84, 101, 108, 108, 83, 105, 103, 110, 101, 100]⟩ ⟨#[]⟩ y) (hg : ErrT W) => told_any (by decide) (by decide) h hg
  have S1 := fun W (hg : ErrT W) => wsure_any W hg
  have HG : Hid (ErrT w) := hg
  clear hg hv
  go_enter Tryd.func5, Tryd.ntmps5
  have B0 : Hid (Below w.heap.size w w) := Below.refl _ _
  go_wp2_with fail
  refine (P1 _ HG.out).mono ?_
  rintro e w1 ⟨v1, rfl, hh, bb⟩
  have B1 : Hid (Below w.heap.size w w1) := B0.out.trans (bb.mono B0.out.size)
  have Kv1 : Hid (ErV w1 (E : Int) ⟨#[84, 101, 108, 108]⟩ ⟨#[]⟩ v1) := hh
  clear hh bb
  go_wp2_with fail
  refine (R1 _).mono ?_
  rintro e w1 ⟨rfl, rfl⟩
  go_wp2_with fail
  refine (P2 _ (HG.out.below B1.out HG.out.pos)).mono ?_
  rintro e w2 ⟨v2, rfl, hh, bb⟩
  have B2 : Hid (Below w.heap.size w w2) := B1.out.trans (bb.mono B1.out.size)
  have Kv1n : Hid (ErV w2 (E : Int) ⟨#[84, 101, 108, 108]⟩ ⟨#[]⟩ v1) := Kv1.out.below bb (Nat.le_refl _)
  clear Kv1
  have Kv1 := Kv1n
  clear Kv1n
  have Kv2 : Hid (ErV w2 (D : Int) ⟨#[84, 101, 108, 108, 83, 105, 103, 110, 101, 100]⟩ ⟨#[]⟩ v2) := hh
  clear hh bb
  go_wp2_with fail
  refine (R2 _).mono ?_
  rintro e w2 ⟨rfl, rfl⟩
  go_wp2_with fail
  refine (T1 _ _ Kv1.out (HG.out.below B2.out HG.out.pos)).mono ?_
  rintro e w3 ⟨rfl, bb⟩
  clear Kv1
  have B3 : Hid (Below w.heap.size w w3) := B2.out.trans (bb.mono B2.out.size)
  have Kv2n : Hid (ErV w3 (D : Int) ⟨#[84, 101, 108, 108, 83, 105, 103, 110, 101, 100]⟩ ⟨#[]⟩ v2) := Kv2.out.below bb (Nat.le_refl _)
  clear Kv2
  have Kv2 := Kv2n
  clear Kv2n
  clear bb
  go_wp2_with fail
  refine (T2 _ _ Kv2.out (HG.out.below B3.out HG.out.pos)).mono ?_
  rintro e w4 ⟨rfl, bb⟩
  clear Kv2
  have B4 : Hid (Below w.heap.size w w4) := B3.out.trans (bb.mono B3.out.size)
  clear bb
  go_wp2_with fail
  refine (S1 _ (HG.out.below B4.out HG.out.pos)).mono ?_
  rintro e w5 ⟨rfl, bb⟩
  have B5 : Hid (Below w.heap.size w w5) := B4.out.trans (bb.mono B4.out.size)
  clear bb
  go_wp2
  go_ret
  exact ⟨rfl, B5.out⟩
end Go.Proofs.YtoabdoognadijaaDoor
