/-
  The law WidthBounds.
-/
import Derived.Test.YtoabdoognadijaaDoorWdW
namespace Go.Proofs.YtoabdoognadijaaDoor
open Go.RowKit

set_option maxRecDepth 100000 in
set_option maxHeartbeats 1000000 in
theorem wbounds_law (k : Int) (v : Nat) (hv : v < 18446744073709551616) (w : World) (hg : ErrT w) :
    Calls Tryd.prog 3 #[.int .i64 k, .int .u64 (v : Int)] w fun e w' => e = .returned (.bool true) ∧ Below w.heap.size w w' := by
  obtain ⟨a, b, c, E, P1, R1⟩ := bounds_both k
  obtain ⟨x, y, D, P2, R2⟩ := cut_both v hv k
  obtain ⟨z, F, P3, R3⟩ := clamp_both (wrap64 (v : Int)) k
  obtain ⟨Q, G, hQ, P4, R4⟩ := valid_both k
  have T1 := fun W y (h : ErV W (E : Int) ⟨#[66, 111, 117, 110, 100, 115]⟩ ⟨#[]⟩ y) (hg : ErrT W) => told_any (by decide) (by decide) h hg
  have T2 := fun W y (h : ErV W (D : Int) ⟨#[67, 117, 116]⟩ ⟨#[]⟩ y) (hg : ErrT W) => told_any (by decide) (by decide) h hg
  have T3 := fun W y (h : ErV W (F : Int) ⟨#[67, 108, 97, 109, 112]⟩ ⟨#[]⟩ y) (hg : ErrT W) => told_any (by decide) (by decide) h hg
  have T4 := fun W y (h : ErV W (G : Int) ⟨#[86, 97, 108, 105, 100]⟩ ⟨#[]⟩ y) (hg : ErrT W) => told_any (by decide) (by decide) h hg
  have S1 := fun W (hg : ErrT W) => wsure_any W hg
  have HG : Hid (ErrT w) := hg
  clear hg hv
  rcases hQ with ⟨rfl, rfl⟩ | ⟨rfl, rfl⟩
  all_goals
    go_enter Tryd.func3, Tryd.ntmps3
    have B0 : Hid (Below w.heap.size w w) := Below.refl _ _
    go_wp2_with fail
    refine (P1 _ HG.out).mono ?_
    rintro e w1 ⟨v1, rfl, hh, bb⟩
    have B1 : Hid (Below w.heap.size w w1) := B0.out.trans (bb.mono B0.out.size)
    have Kv1 : Hid (ErV w1 (E : Int) ⟨#[66, 111, 117, 110, 100, 115]⟩ ⟨#[]⟩ v1) := hh
    clear hh bb
    go_wp2_with fail
    refine (R1 _).mono ?_
    rintro e w1 ⟨rfl, rfl⟩
    go_wp2_with fail
    refine (P2 _ (HG.out.below B1.out HG.out.pos)).mono ?_
    rintro e w2 ⟨v2, rfl, hh, bb⟩
    have B2 : Hid (Below w.heap.size w w2) := B1.out.trans (bb.mono B1.out.size)
    have Kv1n : Hid (ErV w2 (E : Int) ⟨#[66, 111, 117, 110, 100, 115]⟩ ⟨#[]⟩ v1) := Kv1.out.below bb (Nat.le_refl _)
    clear Kv1
    have Kv1 := Kv1n
    clear Kv1n
    have Kv2 : Hid (ErV w2 (D : Int) ⟨#[67, 117, 116]⟩ ⟨#[]⟩ v2) := hh
    clear hh bb
    go_wp2_with fail
    refine (R2 _).mono ?_
    rintro e w2 ⟨rfl, rfl⟩
    go_wp2_with fail
    refine (P3 _ (HG.out.below B2.out HG.out.pos)).mono ?_
    rintro e w3 ⟨v3, rfl, hh, bb⟩
    have B3 : Hid (Below w.heap.size w w3) := B2.out.trans (bb.mono B2.out.size)
    have Kv1n : Hid (ErV w3 (E : Int) ⟨#[66, 111, 117, 110, 100, 115]⟩ ⟨#[]⟩ v1) := Kv1.out.below bb (Nat.le_refl _)
    clear Kv1
    have Kv1 := Kv1n
    clear Kv1n
    have Kv2n : Hid (ErV w3 (D : Int) ⟨#[67, 117, 116]⟩ ⟨#[]⟩ v2) := Kv2.out.below bb (Nat.le_refl _)
    clear Kv2
    have Kv2 := Kv2n
    clear Kv2n
    have Kv3 : Hid (ErV w3 (F : Int) ⟨#[67, 108, 97, 109, 112]⟩ ⟨#[]⟩ v3) := hh
    clear hh bb
    go_wp2_with fail
    refine (R3 _).mono ?_
    rintro e w3 ⟨rfl, rfl⟩
    go_wp2_with fail
    refine (R4 _).mono ?_
    rintro e w3 ⟨rfl, rfl⟩
    go_wp2_with fail
    refine (T1 _ _ Kv1.out (HG.out.below B3.out HG.out.pos)).mono ?_
    rintro e w4 ⟨rfl, bb⟩
    clear Kv1
    have B4 : Hid (Below w.heap.size w w4) := B3.out.trans (bb.mono B3.out.size)
    have Kv2n : Hid (ErV w4 (D : Int) ⟨#[67, 117, 116]⟩ ⟨#[]⟩ v2) := Kv2.out.below bb (Nat.le_refl _)
    clear Kv2
    have Kv2 := Kv2n
    clear Kv2n
    have Kv3n : Hid (ErV w4 (F : Int) ⟨#[67, 108, 97, 109, 112]⟩ ⟨#[]⟩ v3) := Kv3.out.below bb (Nat.le_refl _)
    clear Kv3
    have Kv3 := Kv3n
    clear Kv3n
    clear bb
    go_wp2_with fail
    refine (T2 _ _ Kv2.out (HG.out.below B4.out HG.out.pos)).mono ?_
    rintro e w5 ⟨rfl, bb⟩
    clear Kv2
    have B5 : Hid (Below w.heap.size w w5) := B4.out.trans (bb.mono B4.out.size)
    have Kv3n : Hid (ErV w5 (F : Int) ⟨#[67, 108, 97, 109, 112]⟩ ⟨#[]⟩ v3) := Kv3.out.below bb (Nat.le_refl _)
    clear Kv3
    have Kv3 := Kv3n
    clear Kv3n
    clear bb
    go_wp2_with fail
    refine (T3 _ _ Kv3.out (HG.out.below B5.out HG.out.pos)).mono ?_
    rintro e w6 ⟨rfl, bb⟩
    clear Kv3
    have B6 : Hid (Below w.heap.size w w6) := B5.out.trans (bb.mono B5.out.size)
    clear bb
    go_wp2_with fail
    refine (P4 _).mono ?_
    rintro e w7 ⟨v4, rfl, hh, bb⟩
    have B7 : Hid (Below w.heap.size w w7) := B6.out.trans (bb.mono B6.out.size)
    have Kv4 : Hid (ErV w7 _ ⟨#[86, 97, 108, 105, 100]⟩ ⟨#[]⟩ v4) := hh
    clear hh bb
    go_wp2_with fail
    refine (T4 _ _ Kv4.out (HG.out.below B7.out HG.out.pos)).mono ?_
    rintro e w8 ⟨rfl, bb⟩
    clear Kv4
    have B8 : Hid (Below w.heap.size w w8) := B7.out.trans (bb.mono B7.out.size)
    clear bb
    go_wp2_with fail
    refine (S1 _ (HG.out.below B8.out HG.out.pos)).mono ?_
    rintro e w9 ⟨rfl, bb⟩
    have B9 : Hid (Below w.heap.size w w9) := B8.out.trans (bb.mono B8.out.size)
    clear bb
    go_wp2
    go_ret
    exact ⟨rfl, B9.out⟩
end Go.Proofs.YtoabdoognadijaaDoor
