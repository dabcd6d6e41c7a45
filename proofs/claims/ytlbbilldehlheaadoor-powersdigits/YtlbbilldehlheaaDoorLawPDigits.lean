/-
  The statement PowersDigits answers true for every exponent.
-/
import Derived.Test.YtlbbilldehlheaaDoorPwE
import Derived.Test.YtlbbilldehlheaaDoorLawPOf
namespace Go.Proofs.YtlbbilldehlheaaDoor
open Go.RowKit

set_option maxRecDepth 100000 in
set_option maxHeartbeats 4000000 in
theorem law_digits_all (n : Int) (w : World) (hg : ErrT w) (hT : Tab w) : Calls Tryd.prog 4 #[.int .i64 n] w fun e w' => e = .returned (.bool true) ∧ Below w.heap.size w w' := by
  have C1 := fun W => digits_call n W
  have C2 := fun W => rdigits_any n W
  have C3 := fun W => bits_call n W
  have C4 := fun W => rtens_any n W
  have C5 := fun W => ten_call n W
  have C6 := fun W => times_any13 10 19 n (by omega) (by omega) (by decide) W
  have C7 := fun W => five_call n W
  have C8 := fun W => times_any13 5 27 n (by omega) (by omega) (by decide) W
  simp only [Int.cast_ofNat_Int] at C6 C8
  have N1 := fun W h => lnum_any (lgE n) W h
  have N2 := fun W h => lnum_any (wpE 19 n) W h
  have N3 := fun W h => lnum_any (wpE 27 n) W h
  have HG : Hid (Tab w ∧ ErrT w) := ⟨hT, hg⟩
  clear hT hg
  generalize lgD n = a at *
  generalize lgB n = b at *
  generalize wpX 10 19 n = c at *
  generalize wpX 5 27 n = d at *
  generalize hr1 : errV (lgE n) = e1 at *
  generalize hr2 : errV (wpE 19 n) = e2 at *
  generalize hr3 : errV (wpE 27 n) = e3 at *
  clear hr1 hr2 hr3
  generalize lgE n = k1 at *
  generalize wpE 19 n = k2 at *
  generalize wpE 27 n = k3 at *
  go_enter Tryd.func4, Tryd.ntmps4
  go_wp2_with fail
  refine (C1 _).mono ?_
  rintro e w ⟨rfl, rfl⟩
  go_wp2_with fail
  refine (C2 _).mono ?_
  rintro e w1 ⟨rfl, h1⟩
  have B1 : Hid (Below w.heap.size w w1) := h1
  clear h1 C1 C2
  go_wp2_with fail
  refine (C3 _).mono ?_
  rintro e w1 ⟨rfl, rfl⟩
  go_wp2_with fail
  refine (C4 _).mono ?_
  rintro e w2 ⟨rfl, h2⟩
  have B2 : Hid (Below w.heap.size w w2) := B1.out.trans (h2.mono B1.out.size)
  clear h2 C3 C4 B1
  go_wp2_with fail
  refine (C5 _).mono ?_
  rintro e w2 ⟨rfl, rfl⟩
  go_wp2_with fail
  refine (C6 _).mono ?_
  rintro e w2 ⟨rfl, rfl⟩
  go_wp2_with fail
  refine (C7 _).mono ?_
  rintro e w2 ⟨rfl, rfl⟩
  go_wp2_with fail
  refine (C8 _).mono ?_
  rintro e w2 ⟨rfl, rfl⟩
  clear C5 C6 C7 C8
  go_wp2_with fail
  refine (N1 _ (HG.out.2.below B2.out HG.out.2.pos)).mono ?_
  rintro e w3 ⟨rfl, h3⟩
  have B3 : Hid (Below w.heap.size w w3) := B2.out.trans (h3.mono B2.out.size)
  clear h3 B2
  go_wp2_with fail
  refine (N1 _ (HG.out.2.below B3.out HG.out.2.pos)).mono ?_
  rintro e w4 ⟨rfl, h4⟩
  have B4 : Hid (Below w.heap.size w w4) := B3.out.trans (h4.mono B3.out.size)
  clear h4 B3
  go_wp2_with fail
  refine (N2 _ (HG.out.2.below B4.out HG.out.2.pos)).mono ?_
  rintro e w5 ⟨rfl, h5⟩
  have B5 : Hid (Below w.heap.size w w5) := B4.out.trans (h5.mono B4.out.size)
  clear h5 B4
  go_wp2_with fail
  refine (N3 _ (HG.out.2.below B5.out HG.out.2.pos)).mono ?_
  rintro e w6 ⟨rfl, h6⟩
  have B6 : Hid (Below w.heap.size w w6) := B5.out.trans (h6.mono B5.out.size)
  clear h6 B5 N1 N2 N3
  have S := sure13 w6 (HG.out.1.below B6.out HG.out.1.pos)
  go_wp2_with fail
  refine S.mono ?_
  rintro e w7 ⟨rfl, h7⟩
  have B7 : Hid (Below w.heap.size w w7) := B6.out.trans (h7.mono B6.out.size)
  clear h7 S B6
  go_wp2
  go_ret
  exact ⟨rfl, B7.out⟩

end Go.Proofs.YtlbbilldehlheaaDoor
