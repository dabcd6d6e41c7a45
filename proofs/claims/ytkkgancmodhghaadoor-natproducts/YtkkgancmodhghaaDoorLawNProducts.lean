/-
  The statement NatProducts: for all slices of words (of at most 2^47 bytes) the call of NatProducts returns true, where math/bits' table lies as the program's text lays it.
-/
import Derived.Test.YtkkgancmodhghaaDoorNatPf
namespace Go.Proofs.YtkkgancmodhghaaDoor
open Go.RowKit

set_option maxRecDepth 100000 in
set_option maxHeartbeats 4000000 in
theorem law_nproducts {w : World} (hT : Tab w) {ao : Option Addr} {n ca ba oa : Nat} {f : Nat → Nat} (S : Sl w ao n ca ba oa f) (hn : n * 8 ≤ 140737488355328) {bo : Option Addr} {m cb bb ob : Nat} {g : Nat → Nat} (S' : Sl w bo m cb bb ob g) (hm : m * 8 ≤ 140737488355328) :
    Calls Tryd.prog 4 #[.slice ao n ca, .slice bo m cb] w fun e w' => e = .returned (.bool true) ∧ Below w.heap.size w w' := by
  obtain ⟨E1, HE1⟩ : ∃ E, Hid (err2 (verr2 f n g m) (wE (V f n * V g m)) = E) := ⟨_, (rfl : _ = _)⟩
  obtain ⟨E2, HE2⟩ : ∃ E, Hid (dE (verr2 f n g m) (V g m) = E) := ⟨_, (rfl : _ = _)⟩
  go_enter Tryd.func4, Tryd.ntmps4
  have T := twin_any S hn
  go_wp2_with fail
  refine T.mono ?_
  rintro e w1 ⟨ao1, c1, b1, rfl, Sx, _, B1⟩
  clear T
  have T := twin_any (S'.below B1) hm
  go_wp2_with fail
  refine T.mono ?_
  rintro e w2 ⟨bo2, c2, b2, rfl, Sy, _, hb⟩
  clear T
  have B2 : Below w.heap.size w w2 := B1.trans (hb.mono B1.size)
  replace Sx := Sx.below hb
  clear hb B1
  have T := mulN_any Sx Sy
  rw [HE1.out] at T
  go_wp2_with fail
  refine T.mono ?_
  rintro e w3 ⟨vs, rfl, ns, hb⟩
  clear T
  have B3 : Below w.heap.size w w3 := B2.trans (hb.mono B2.size)
  replace Sx := Sx.below hb
  replace Sy := Sy.below hb
  clear hb B2
  have T := rmul_any (S.below B3) (S'.below B3)
  rw [HE1.out] at T
  go_wp2_with fail
  refine T.mono ?_
  rintro e w4 ⟨vt, rfl, nt, hb⟩
  clear T
  have B4 : Below w.heap.size w w4 := B3.trans (hb.mono B3.size)
  replace Sx := Sx.below hb
  replace Sy := Sy.below hb
  replace ns := ns.below hb
  clear hb B3
  have T := divN_any (hT.next B4) Sx Sy
  rw [HE2.out] at T
  go_wp2_with fail
  refine T.mono ?_
  rintro e w5 ⟨vd, ve, rfl, nd, ne, hb⟩
  clear T
  have B5 : Below w.heap.size w w5 := B4.trans (hb.mono B4.size)
  replace Sx := Sx.below hb
  replace Sy := Sy.below hb
  replace ns := ns.below hb
  replace nt := nt.below hb
  clear hb B4
  have T := rdiv_any (S.below B5) (S'.below B5)
  rw [HE2.out] at T
  go_wp2_with fail
  refine T.mono ?_
  rintro e w6 ⟨vu, vv, rfl, nu, nv, hb⟩
  clear T
  have B6 : Below w.heap.size w w6 := B5.trans (hb.mono B5.size)
  replace Sx := Sx.below hb
  replace Sy := Sy.below hb
  replace ns := ns.below hb
  replace nt := nt.below hb
  replace nd := nd.below hb
  replace ne := ne.below hb
  clear hb B5
  have T := same_natv ns nt
  go_wp2_with fail
  refine T.mono ?_
  rintro e w7 ⟨rfl, hb⟩
  clear T
  have B7 : Below w.heap.size w w7 := B6.trans (hb.mono B6.size)
  replace Sx := Sx.below hb
  replace Sy := Sy.below hb
  replace nd := nd.below hb
  replace ne := ne.below hb
  replace nu := nu.below hb
  replace nv := nv.below hb
  clear hb B6
  have T := num_any E1 w7
  go_wp2_with fail
  refine T.mono ?_
  rintro e w7 ⟨rfl, rfl⟩
  clear T
  have T := same_natv nd nu
  go_wp2_with fail
  refine T.mono ?_
  rintro e w8 ⟨rfl, hb⟩
  clear T
  have B8 : Below w.heap.size w w8 := B7.trans (hb.mono B7.size)
  replace Sx := Sx.below hb
  replace Sy := Sy.below hb
  replace ne := ne.below hb
  replace nv := nv.below hb
  clear hb B7
  have T := same_natv ne nv
  go_wp2_with fail
  refine T.mono ?_
  rintro e w9 ⟨rfl, hb⟩
  clear T
  have B9 : Below w.heap.size w w9 := B8.trans (hb.mono B8.size)
  replace Sx := Sx.below hb
  replace Sy := Sy.below hb
  clear hb B8
  have T := num_any E2 w9
  go_wp2_with fail
  refine T.mono ?_
  rintro e w9 ⟨rfl, rfl⟩
  clear T
  have T := same_yes Sx (S.below B9) (fun _ _ => rfl)
  go_wp2_with fail
  refine T.mono ?_
  rintro e w10 ⟨rfl, hb⟩
  clear T
  have B10 : Below w.heap.size w w10 := B9.trans (hb.mono B9.size)
  replace Sy := Sy.below hb
  clear hb B9
  have T := same_yes Sy (S'.below B10) (fun _ _ => rfl)
  go_wp2_with fail
  refine T.mono ?_
  rintro e w11 ⟨rfl, hb⟩
  clear T
  have B11 : Below w.heap.size w w11 := B10.trans (hb.mono B10.size)
  clear hb B10
  have T := works_any _ (hT.next B11)
  go_wp2_with fail
  refine T.mono ?_
  rintro e w12 ⟨rfl, hb⟩
  clear T
  have B12 : Below w.heap.size w w12 := B11.trans (hb.mono B11.size)
  go_wp2
  go_ret
  exact ⟨rfl, B12⟩

end Go.Proofs.YtkkgancmodhghaaDoor
