/-
  The statement NatSums: for all slices of words (of at most 2^47 bytes) the call of NatSums returns true, where math/bits' table lies as the program's text lays it.
-/
import Derived.Test.YtkkgancmodhghaaDoorNatFl
namespace Go.Proofs.YtkkgancmodhghaaDoor
open Go.RowKit

set_option maxRecDepth 100000 in
set_option maxHeartbeats 4000000 in
theorem law_nsums_bad {w : World} (hT : Tab w) {ao : Option Addr} {n ca ba oa : Nat} {f : Nat → Nat} (S : Sl w ao n ca ba oa f) (hn : n * 8 ≤ 140737488355328) {bo : Option Addr} {m cb bb ob : Nat} {g : Nat → Nat} (S' : Sl w bo m cb bb ob g) (hm : m * 8 ≤ 140737488355328) (h : verr f n ≠ 0) :
    Calls Tryd.prog 3 #[.slice ao n ca, .slice bo m cb] w fun e w' => e = .returned (.bool true) ∧ Below w.heap.size w w' := by
    obtain ⟨E1, HE1⟩ : ∃ E, Hid (err2 (verr2 f n g m) (wE (V f n + V g m)) = E) := ⟨_, (rfl : _ = _)⟩
    obtain ⟨E2, HE2⟩ : ∃ E, Hid (err2 (verr2 f n g m) (if V f n < V g m then 21 else 0) = E) := ⟨_, (rfl : _ = _)⟩
    obtain ⟨E3, HE3⟩ : ∃ E, Hid (ord2 (verr2 f n g m) (ord (V f n) (V g m)) = E) := ⟨_, (rfl : _ = _)⟩
    obtain ⟨E4, HE4⟩ : ∃ E, Hid (verr2 f n g m = E) := ⟨_, (rfl : _ = _)⟩
    obtain ⟨kv, HKV⟩ : ∃ E, Hid (verr f n = E) := ⟨_, (rfl : _ = _)⟩
    have h' : ((kv : Int) == 0) = false := by rw [← HKV.out]; exact beq_eq_false_iff_ne.mpr (by omega)
    go_enter Tryd.func3, Tryd.ntmps3
    have T := twin_any S hn
    go_wp2_with fail
    refine T.mono ?_
    rintro e w1 ⟨ao1, c1, b1, rfl, Sx, _, B1⟩
    clear T
    have T := twin_any (S'.below B1) hm
    go_wp2_with fail
    refine T.mono ?_
    rintro e w2 ⟨bo2, c2, b2, rfl, Sy, _, hb⟩
    clear T
    have B2 : Below w.heap.size w w2 := B1.trans (hb.mono B1.size)
    replace Sx := Sx.below hb
    clear hb B1
    have T := addN_any Sx Sy
    rw [HE1.out] at T
    go_wp2_with fail
    refine T.mono ?_
    rintro e w3 ⟨vs, rfl, ns, hb⟩
    clear T
    have B3 : Below w.heap.size w w3 := B2.trans (hb.mono B2.size)
    replace Sx := Sx.below hb
    replace Sy := Sy.below hb
    clear hb B2
    have T := radd_any (S.below B3) (S'.below B3)
    rw [HE1.out] at T
    go_wp2_with fail
    refine T.mono ?_
    rintro e w4 ⟨vt, rfl, nt, hb⟩
    clear T
    have B4 : Below w.heap.size w w4 := B3.trans (hb.mono B3.size)
    replace Sx := Sx.below hb
    replace Sy := Sy.below hb
    replace ns := ns.below hb
    clear hb B3
    have T := subN_any Sx Sy
    rw [HE2.out] at T
    go_wp2_with fail
    refine T.mono ?_
    rintro e w5 ⟨vd, rfl, nd, hb⟩
    clear T
    have B5 : Below w.heap.size w w5 := B4.trans (hb.mono B4.size)
    replace Sx := Sx.below hb
    replace Sy := Sy.below hb
    replace ns := ns.below hb
    replace nt := nt.below hb
    clear hb B4
    have T := rsub_any (S.below B5) (S'.below B5)
    rw [HE2.out] at T
    go_wp2_with fail
    refine T.mono ?_
    rintro e w6 ⟨vu, rfl, nu, hb⟩
    clear T
    have B6 : Below w.heap.size w w6 := B5.trans (hb.mono B5.size)
    replace Sx := Sx.below hb
    replace Sy := Sy.below hb
    replace ns := ns.below hb
    replace nt := nt.below hb
    replace nd := nd.below hb
    clear hb B5
    have T := cmpN_any Sx Sy
    rw [HE3.out, HE4.out] at T
    go_wp2_with fail
    refine T.mono ?_
    rintro e w7 ⟨rfl, hb⟩
    clear T
    have B7 : Below w.heap.size w w7 := B6.trans (hb.mono B6.size)
    replace Sx := Sx.below hb
    replace Sy := Sy.below hb
    replace ns := ns.below hb
    replace nt := nt.below hb
    replace nd := nd.below hb
    replace nu := nu.below hb
    clear hb B6
    have T := rcmp_any (S.below B7) (S'.below B7)
    rw [HE3.out, HE4.out] at T
    go_wp2_with fail
    refine T.mono ?_
    rintro e w8 ⟨rfl, hb⟩
    clear T
    have B8 : Below w.heap.size w w8 := B7.trans (hb.mono B7.size)
    replace Sx := Sx.below hb
    replace Sy := Sy.below hb
    replace ns := ns.below hb
    replace nt := nt.below hb
    replace nd := nd.below hb
    replace nu := nu.below hb
    clear hb B7
    have T := word_bad Sx h
    go_wp2_with fail
    refine T.mono ?_
    rintro e w9 ⟨rfl, hb⟩
    clear T
    have B9 : Below w.heap.size w w9 := B8.trans (hb.mono B8.size)
    replace Sx := Sx.below hb
    replace Sy := Sy.below hb
    replace ns := ns.below hb
    replace nt := nt.below hb
    replace nd := nd.below hb
    replace nu := nu.below hb
    clear hb B8
    have T := rvalid_any (S.below B9)
    rw [HKV.out] at T
    go_wp2_with fail
    refine T.mono ?_
    rintro e w9 ⟨rfl, rfl⟩
    clear T
    have T := same_natv ns nt
    go_wp2_with fail
    refine T.mono ?_
    rintro e w10 ⟨rfl, hb⟩
    clear T
    have B10 : Below w.heap.size w w10 := B9.trans (hb.mono B9.size)
    replace Sx := Sx.below hb
    replace Sy := Sy.below hb
    replace nd := nd.below hb
    replace nu := nu.below hb
    clear hb B9
    have T := num_any E1 w10
    go_wp2_with fail
    refine T.mono ?_
    rintro e w10 ⟨rfl, rfl⟩
    clear T
    have T := same_natv nd nu
    go_wp2_with fail
    refine T.mono ?_
    rintro e w11 ⟨rfl, hb⟩
    clear T
    have B11 : Below w.heap.size w w11 := B10.trans (hb.mono B10.size)
    replace Sx := Sx.below hb
    replace Sy := Sy.below hb
    clear hb B10
    have T := num_any E2 w11
    go_wp2_with fail
    refine T.mono ?_
    rintro e w11 ⟨rfl, rfl⟩
    clear T
    have T := num_any E4 w11
    go_wp2_with fail
    refine T.mono ?_
    rintro e w11 ⟨rfl, rfl⟩
    clear T
    have T := valid_any Sx
    rw [HKV.out] at T
    go_wp2_with fail
    refine T.mono ?_
    rintro e w12 ⟨rfl, hb⟩
    clear T
    have B12 : Below w.heap.size w w12 := B11.trans (hb.mono B11.size)
    replace Sx := Sx.below hb
    replace Sy := Sy.below hb
    clear hb B11
    have T := num_any kv w12
    go_wp2_with fail
    refine T.mono ?_
    rintro e w12 ⟨rfl, rfl⟩
    clear T
    have T := rvalid_any (S.below B12)
    rw [HKV.out] at T
    go_wp2_with fail
    refine T.mono ?_
    rintro e w12 ⟨rfl, rfl⟩
    clear T
    have T := same_yes Sx (S.below B12) (fun _ _ => rfl)
    go_wp2_with fail
    refine T.mono ?_
    rintro e w13 ⟨rfl, hb⟩
    clear T
    have B13 : Below w.heap.size w w13 := B12.trans (hb.mono B12.size)
    replace Sy := Sy.below hb
    clear hb B12
    have T := same_yes Sy (S'.below B13) (fun _ _ => rfl)
    go_wp2_with fail
    refine T.mono ?_
    rintro e w14 ⟨rfl, hb⟩
    clear T
    have B14 : Below w.heap.size w w14 := B13.trans (hb.mono B13.size)
    clear hb B13
    have T := works_any _ (hT.next B14)
    go_wp2_with fail
    refine T.mono ?_
    rintro e w15 ⟨rfl, hb⟩
    clear T
    have B15 : Below w.heap.size w w15 := B14.trans (hb.mono B14.size)
    go_wp2
    go_ret
    exact ⟨rfl, B15⟩

set_option maxRecDepth 100000 in
set_option maxHeartbeats 4000000 in
theorem law_nsums_long {w : World} (hT : Tab w) {ao : Option Addr} {n ca ba oa : Nat} {f : Nat → Nat} (S : Sl w ao n ca ba oa f) (hn : n * 8 ≤ 140737488355328) {bo : Option Addr} {m cb bb ob : Nat} {g : Nat → Nat} (S' : Sl w bo m cb bb ob g) (hm : m * 8 ≤ 140737488355328) (h : verr f n = 0) (h1 : 1 < n) :
    Calls Tryd.prog 3 #[.slice ao n ca, .slice bo m cb] w fun e w' => e = .returned (.bool true) ∧ Below w.heap.size w w' := by
    obtain ⟨E1, HE1⟩ : ∃ E, Hid (err2 (verr2 f n g m) (wE (V f n + V g m)) = E) := ⟨_, (rfl : _ = _)⟩
    obtain ⟨E2, HE2⟩ : ∃ E, Hid (err2 (verr2 f n g m) (if V f n < V g m then 21 else 0) = E) := ⟨_, (rfl : _ = _)⟩
    obtain ⟨E3, HE3⟩ : ∃ E, Hid (ord2 (verr2 f n g m) (ord (V f n) (V g m)) = E) := ⟨_, (rfl : _ = _)⟩
    obtain ⟨E4, HE4⟩ : ∃ E, Hid (verr2 f n g m = E) := ⟨_, (rfl : _ = _)⟩
    obtain ⟨kv, HKV⟩ : ∃ E, Hid (verr f n = E) := ⟨_, (rfl : _ = _)⟩
    have h' : ¬ (n : Int) ≤ 1 := by omega
    go_enter Tryd.func3, Tryd.ntmps3
    have T := twin_any S hn
    go_wp2_with fail
    refine T.mono ?_
    rintro e w1 ⟨ao1, c1, b1, rfl, Sx, _, B1⟩
    clear T
    have T := twin_any (S'.below B1) hm
    go_wp2_with fail
    refine T.mono ?_
    rintro e w2 ⟨bo2, c2, b2, rfl, Sy, _, hb⟩
    clear T
    have B2 : Below w.heap.size w w2 := B1.trans (hb.mono B1.size)
    replace Sx := Sx.below hb
    clear hb B1
    have T := addN_any Sx Sy
    rw [HE1.out] at T
    go_wp2_with fail
    refine T.mono ?_
    rintro e w3 ⟨vs, rfl, ns, hb⟩
    clear T
    have B3 : Below w.heap.size w w3 := B2.trans (hb.mono B2.size)
    replace Sx := Sx.below hb
    replace Sy := Sy.below hb
    clear hb B2
    have T := radd_any (S.below B3) (S'.below B3)
    rw [HE1.out] at T
    go_wp2_with fail
    refine T.mono ?_
    rintro e w4 ⟨vt, rfl, nt, hb⟩
    clear T
    have B4 : Below w.heap.size w w4 := B3.trans (hb.mono B3.size)
    replace Sx := Sx.below hb
    replace Sy := Sy.below hb
    replace ns := ns.below hb
    clear hb B3
    have T := subN_any Sx Sy
    rw [HE2.out] at T
    go_wp2_with fail
    refine T.mono ?_
    rintro e w5 ⟨vd, rfl, nd, hb⟩
    clear T
    have B5 : Below w.heap.size w w5 := B4.trans (hb.mono B4.size)
    replace Sx := Sx.below hb
    replace Sy := Sy.below hb
    replace ns := ns.below hb
    replace nt := nt.below hb
    clear hb B4
    have T := rsub_any (S.below B5) (S'.below B5)
    rw [HE2.out] at T
    go_wp2_with fail
    refine T.mono ?_
    rintro e w6 ⟨vu, rfl, nu, hb⟩
    clear T
    have B6 : Below w.heap.size w w6 := B5.trans (hb.mono B5.size)
    replace Sx := Sx.below hb
    replace Sy := Sy.below hb
    replace ns := ns.below hb
    replace nt := nt.below hb
    replace nd := nd.below hb
    clear hb B5
    have T := cmpN_any Sx Sy
    rw [HE3.out, HE4.out] at T
    go_wp2_with fail
    refine T.mono ?_
    rintro e w7 ⟨rfl, hb⟩
    clear T
    have B7 : Below w.heap.size w w7 := B6.trans (hb.mono B6.size)
    replace Sx := Sx.below hb
    replace Sy := Sy.below hb
    replace ns := ns.below hb
    replace nt := nt.below hb
    replace nd := nd.below hb
    replace nu := nu.below hb
    clear hb B6
    have T := rcmp_any (S.below B7) (S'.below B7)
    rw [HE3.out, HE4.out] at T
    go_wp2_with fail
    refine T.mono ?_
    rintro e w8 ⟨rfl, hb⟩
    clear T
    have B8 : Below w.heap.size w w8 := B7.trans (hb.mono B7.size)
    replace Sx := Sx.below hb
    replace Sy := Sy.below hb
    replace ns := ns.below hb
    replace nt := nt.below hb
    replace nd := nd.below hb
    replace nu := nu.below hb
    clear hb B7
    have T := word_long Sx h h1
    go_wp2_with fail
    refine T.mono ?_
    rintro e w9 ⟨rfl, hb⟩
    clear T
    have B9 : Below w.heap.size w w9 := B8.trans (hb.mono B8.size)
    replace Sx := Sx.below hb
    replace Sy := Sy.below hb
    replace ns := ns.below hb
    replace nt := nt.below hb
    replace nd := nd.below hb
    replace nu := nu.below hb
    clear hb B8
    have T := rvalid_any (S.below B9)
    rw [h] at T
    go_wp2_with fail
    refine T.mono ?_
    rintro e w9 ⟨rfl, rfl⟩
    clear T
    have T := same_natv ns nt
    go_wp2_with fail
    refine T.mono ?_
    rintro e w10 ⟨rfl, hb⟩
    clear T
    have B10 : Below w.heap.size w w10 := B9.trans (hb.mono B9.size)
    replace Sx := Sx.below hb
    replace Sy := Sy.below hb
    replace nd := nd.below hb
    replace nu := nu.below hb
    clear hb B9
    have T := num_any E1 w10
    go_wp2_with fail
    refine T.mono ?_
    rintro e w10 ⟨rfl, rfl⟩
    clear T
    have T := same_natv nd nu
    go_wp2_with fail
    refine T.mono ?_
    rintro e w11 ⟨rfl, hb⟩
    clear T
    have B11 : Below w.heap.size w w11 := B10.trans (hb.mono B10.size)
    replace Sx := Sx.below hb
    replace Sy := Sy.below hb
    clear hb B10
    have T := num_any E2 w11
    go_wp2_with fail
    refine T.mono ?_
    rintro e w11 ⟨rfl, rfl⟩
    clear T
    have T := num_any E4 w11
    go_wp2_with fail
    refine T.mono ?_
    rintro e w11 ⟨rfl, rfl⟩
    clear T
    have T := valid_any Sx
    rw [HKV.out] at T
    go_wp2_with fail
    refine T.mono ?_
    rintro e w12 ⟨rfl, hb⟩
    clear T
    have B12 : Below w.heap.size w w12 := B11.trans (hb.mono B11.size)
    replace Sx := Sx.below hb
    replace Sy := Sy.below hb
    clear hb B11
    have T := num_any kv w12
    go_wp2_with fail
    refine T.mono ?_
    rintro e w12 ⟨rfl, rfl⟩
    clear T
    have T := rvalid_any (S.below B12)
    rw [HKV.out] at T
    go_wp2_with fail
    refine T.mono ?_
    rintro e w12 ⟨rfl, rfl⟩
    clear T
    have T := same_yes Sx (S.below B12) (fun _ _ => rfl)
    go_wp2_with fail
    refine T.mono ?_
    rintro e w13 ⟨rfl, hb⟩
    clear T
    have B13 : Below w.heap.size w w13 := B12.trans (hb.mono B12.size)
    replace Sy := Sy.below hb
    clear hb B12
    have T := same_yes Sy (S'.below B13) (fun _ _ => rfl)
    go_wp2_with fail
    refine T.mono ?_
    rintro e w14 ⟨rfl, hb⟩
    clear T
    have B14 : Below w.heap.size w w14 := B13.trans (hb.mono B13.size)
    clear hb B13
    have T := works_any _ (hT.next B14)
    go_wp2_with fail
    refine T.mono ?_
    rintro e w15 ⟨rfl, hb⟩
    clear T
    have B15 : Below w.heap.size w w15 := B14.trans (hb.mono B14.size)
    go_wp2
    go_ret
    exact ⟨rfl, B15⟩

set_option maxRecDepth 100000 in
set_option maxHeartbeats 4000000 in
theorem law_nsums_none {w : World} (hT : Tab w) {ao : Option Addr} {n ca ba oa : Nat} {f : Nat → Nat} (S : Sl w ao n ca ba oa f) (hn : n * 8 ≤ 140737488355328) {bo : Option Addr} {m cb bb ob : Nat} {g : Nat → Nat} (S' : Sl w bo m cb bb ob g) (hm : m * 8 ≤ 140737488355328) (h : verr f 0 = 0) (h0 : n = 0) :
    Calls Tryd.prog 3 #[.slice ao n ca, .slice bo m cb] w fun e w' => e = .returned (.bool true) ∧ Below w.heap.size w w' := by
    obtain ⟨E1, HE1⟩ : ∃ E, Hid (err2 (verr2 f n g m) (wE (V f n + V g m)) = E) := ⟨_, (rfl : _ = _)⟩
    obtain ⟨E2, HE2⟩ : ∃ E, Hid (err2 (verr2 f n g m) (if V f n < V g m then 21 else 0) = E) := ⟨_, (rfl : _ = _)⟩
    obtain ⟨E3, HE3⟩ : ∃ E, Hid (ord2 (verr2 f n g m) (ord (V f n) (V g m)) = E) := ⟨_, (rfl : _ = _)⟩
    obtain ⟨E4, HE4⟩ : ∃ E, Hid (verr2 f n g m = E) := ⟨_, (rfl : _ = _)⟩
    obtain ⟨kv, HKV⟩ : ∃ E, Hid (verr f n = E) := ⟨_, (rfl : _ = _)⟩
    subst h0
    go_enter Tryd.func3, Tryd.ntmps3
    have T := twin_any S hn
    go_wp2_with fail
    refine T.mono ?_
    rintro e w1 ⟨ao1, c1, b1, rfl, Sx, _, B1⟩
    clear T
    have T := twin_any (S'.below B1) hm
    go_wp2_with fail
    refine T.mono ?_
    rintro e w2 ⟨bo2, c2, b2, rfl, Sy, _, hb⟩
    clear T
    have B2 : Below w.heap.size w w2 := B1.trans (hb.mono B1.size)
    replace Sx := Sx.below hb
    clear hb B1
    have T := addN_any Sx Sy
    rw [HE1.out] at T
    go_wp2_with fail
    refine T.mono ?_
    rintro e w3 ⟨vs, rfl, ns, hb⟩
    clear T
    have B3 : Below w.heap.size w w3 := B2.trans (hb.mono B2.size)
    replace Sx := Sx.below hb
    replace Sy := Sy.below hb
    clear hb B2
    have T := radd_any (S.below B3) (S'.below B3)
    rw [HE1.out] at T
    go_wp2_with fail
    refine T.mono ?_
    rintro e w4 ⟨vt, rfl, nt, hb⟩
    clear T
    have B4 : Below w.heap.size w w4 := B3.trans (hb.mono B3.size)
    replace Sx := Sx.below hb
    replace Sy := Sy.below hb
    replace ns := ns.below hb
    clear hb B3
    have T := subN_any Sx Sy
    rw [HE2.out] at T
    go_wp2_with fail
    refine T.mono ?_
    rintro e w5 ⟨vd, rfl, nd, hb⟩
    clear T
    have B5 : Below w.heap.size w w5 := B4.trans (hb.mono B4.size)
    replace Sx := Sx.below hb
    replace Sy := Sy.below hb
    replace ns := ns.below hb
    replace nt := nt.below hb
    clear hb B4
    have T := rsub_any (S.below B5) (S'.below B5)
    rw [HE2.out] at T
    go_wp2_with fail
    refine T.mono ?_
    rintro e w6 ⟨vu, rfl, nu, hb⟩
    clear T
    have B6 : Below w.heap.size w w6 := B5.trans (hb.mono B5.size)
    replace Sx := Sx.below hb
    replace Sy := Sy.below hb
    replace ns := ns.below hb
    replace nt := nt.below hb
    replace nd := nd.below hb
    clear hb B5
    have T := cmpN_any Sx Sy
    rw [HE3.out, HE4.out] at T
    go_wp2_with fail
    refine T.mono ?_
    rintro e w7 ⟨rfl, hb⟩
    clear T
    have B7 : Below w.heap.size w w7 := B6.trans (hb.mono B6.size)
    replace Sx := Sx.below hb
    replace Sy := Sy.below hb
    replace ns := ns.below hb
    replace nt := nt.below hb
    replace nd := nd.below hb
    replace nu := nu.below hb
    clear hb B6
    have T := rcmp_any (S.below B7) (S'.below B7)
    rw [HE3.out, HE4.out] at T
    go_wp2_with fail
    refine T.mono ?_
    rintro e w8 ⟨rfl, hb⟩
    clear T
    have B8 : Below w.heap.size w w8 := B7.trans (hb.mono B7.size)
    replace Sx := Sx.below hb
    replace Sy := Sy.below hb
    replace ns := ns.below hb
    replace nt := nt.below hb
    replace nd := nd.below hb
    replace nu := nu.below hb
    clear hb B7
    have T := word_none Sx h
    go_wp2_with fail
    refine T.mono ?_
    rintro e w9 ⟨rfl, hb⟩
    clear T
    have B9 : Below w.heap.size w w9 := B8.trans (hb.mono B8.size)
    replace Sx := Sx.below hb
    replace Sy := Sy.below hb
    replace ns := ns.below hb
    replace nt := nt.below hb
    replace nd := nd.below hb
    replace nu := nu.below hb
    clear hb B8
    have T := rvalid_any (S.below B9)
    rw [h] at T
    go_wp2_with fail
    refine T.mono ?_
    rintro e w9 ⟨rfl, rfl⟩
    clear T
    have T := same_natv ns nt
    go_wp2_with fail
    refine T.mono ?_
    rintro e w10 ⟨rfl, hb⟩
    clear T
    have B10 : Below w.heap.size w w10 := B9.trans (hb.mono B9.size)
    replace Sx := Sx.below hb
    replace Sy := Sy.below hb
    replace nd := nd.below hb
    replace nu := nu.below hb
    clear hb B9
    have T := num_any E1 w10
    go_wp2_with fail
    refine T.mono ?_
    rintro e w10 ⟨rfl, rfl⟩
    clear T
    have T := same_natv nd nu
    go_wp2_with fail
    refine T.mono ?_
    rintro e w11 ⟨rfl, hb⟩
    clear T
    have B11 : Below w.heap.size w w11 := B10.trans (hb.mono B10.size)
    replace Sx := Sx.below hb
    replace Sy := Sy.below hb
    clear hb B10
    have T := num_any E2 w11
    go_wp2_with fail
    refine T.mono ?_
    rintro e w11 ⟨rfl, rfl⟩
    clear T
    have T := num_any E4 w11
    go_wp2_with fail
    refine T.mono ?_
    rintro e w11 ⟨rfl, rfl⟩
    clear T
    have T := valid_any Sx
    rw [HKV.out] at T
    go_wp2_with fail
    refine T.mono ?_
    rintro e w12 ⟨rfl, hb⟩
    clear T
    have B12 : Below w.heap.size w w12 := B11.trans (hb.mono B11.size)
    replace Sx := Sx.below hb
    replace Sy := Sy.below hb
    clear hb B11
    have T := num_any kv w12
    go_wp2_with fail
    refine T.mono ?_
    rintro e w12 ⟨rfl, rfl⟩
    clear T
    have T := rvalid_any (S.below B12)
    rw [HKV.out] at T
    go_wp2_with fail
    refine T.mono ?_
    rintro e w12 ⟨rfl, rfl⟩
    clear T
    have T := same_yes Sx (S.below B12) (fun _ _ => rfl)
    go_wp2_with fail
    refine T.mono ?_
    rintro e w13 ⟨rfl, hb⟩
    clear T
    have B13 : Below w.heap.size w w13 := B12.trans (hb.mono B12.size)
    replace Sy := Sy.below hb
    clear hb B12
    have T := same_yes Sy (S'.below B13) (fun _ _ => rfl)
    go_wp2_with fail
    refine T.mono ?_
    rintro e w14 ⟨rfl, hb⟩
    clear T
    have B14 : Below w.heap.size w w14 := B13.trans (hb.mono B13.size)
    clear hb B13
    have T := works_any _ (hT.next B14)
    go_wp2_with fail
    refine T.mono ?_
    rintro e w15 ⟨rfl, hb⟩
    clear T
    have B15 : Below w.heap.size w w15 := B14.trans (hb.mono B14.size)
    go_wp2
    go_ret
    exact ⟨rfl, B15⟩

set_option maxRecDepth 100000 in
set_option maxHeartbeats 4000000 in
theorem law_nsums_one {w : World} (hT : Tab w) {ao : Option Addr} {n ca ba oa : Nat} {f : Nat → Nat} (S : Sl w ao n ca ba oa f) (hn : n * 8 ≤ 140737488355328) {bo : Option Addr} {m cb bb ob : Nat} {g : Nat → Nat} (S' : Sl w bo m cb bb ob g) (hm : m * 8 ≤ 140737488355328) (h : verr f 1 = 0) (h0 : n = 1) :
    Calls Tryd.prog 3 #[.slice ao n ca, .slice bo m cb] w fun e w' => e = .returned (.bool true) ∧ Below w.heap.size w w' := by
    obtain ⟨E1, HE1⟩ : ∃ E, Hid (err2 (verr2 f n g m) (wE (V f n + V g m)) = E) := ⟨_, (rfl : _ = _)⟩
    obtain ⟨E2, HE2⟩ : ∃ E, Hid (err2 (verr2 f n g m) (if V f n < V g m then 21 else 0) = E) := ⟨_, (rfl : _ = _)⟩
    obtain ⟨E3, HE3⟩ : ∃ E, Hid (ord2 (verr2 f n g m) (ord (V f n) (V g m)) = E) := ⟨_, (rfl : _ = _)⟩
    obtain ⟨E4, HE4⟩ : ∃ E, Hid (verr2 f n g m = E) := ⟨_, (rfl : _ = _)⟩
    obtain ⟨kv, HKV⟩ : ∃ E, Hid (verr f n = E) := ⟨_, (rfl : _ = _)⟩
    subst h0
    obtain rfl := S.addr (by omega)
    go_enter Tryd.func3, Tryd.ntmps3
    have T := twin_any S hn
    go_wp2_with fail
    refine T.mono ?_
    rintro e w1 ⟨ao1, c1, b1, rfl, Sx, _, B1⟩
    clear T
    have T := twin_any (S'.below B1) hm
    go_wp2_with fail
    refine T.mono ?_
    rintro e w2 ⟨bo2, c2, b2, rfl, Sy, _, hb⟩
    clear T
    have B2 : Below w.heap.size w w2 := B1.trans (hb.mono B1.size)
    replace Sx := Sx.below hb
    clear hb B1
    have T := addN_any Sx Sy
    rw [HE1.out] at T
    go_wp2_with fail
    refine T.mono ?_
    rintro e w3 ⟨vs, rfl, ns, hb⟩
    clear T
    have B3 : Below w.heap.size w w3 := B2.trans (hb.mono B2.size)
    replace Sx := Sx.below hb
    replace Sy := Sy.below hb
    clear hb B2
    have T := radd_any (S.below B3) (S'.below B3)
    rw [HE1.out] at T
    go_wp2_with fail
    refine T.mono ?_
    rintro e w4 ⟨vt, rfl, nt, hb⟩
    clear T
    have B4 : Below w.heap.size w w4 := B3.trans (hb.mono B3.size)
    replace Sx := Sx.below hb
    replace Sy := Sy.below hb
    replace ns := ns.below hb
    clear hb B3
    have T := subN_any Sx Sy
    rw [HE2.out] at T
    go_wp2_with fail
    refine T.mono ?_
    rintro e w5 ⟨vd, rfl, nd, hb⟩
    clear T
    have B5 : Below w.heap.size w w5 := B4.trans (hb.mono B4.size)
    replace Sx := Sx.below hb
    replace Sy := Sy.below hb
    replace ns := ns.below hb
    replace nt := nt.below hb
    clear hb B4
    have T := rsub_any (S.below B5) (S'.below B5)
    rw [HE2.out] at T
    go_wp2_with fail
    refine T.mono ?_
    rintro e w6 ⟨vu, rfl, nu, hb⟩
    clear T
    have B6 : Below w.heap.size w w6 := B5.trans (hb.mono B5.size)
    replace Sx := Sx.below hb
    replace Sy := Sy.below hb
    replace ns := ns.below hb
    replace nt := nt.below hb
    replace nd := nd.below hb
    clear hb B5
    have T := cmpN_any Sx Sy
    rw [HE3.out, HE4.out] at T
    go_wp2_with fail
    refine T.mono ?_
    rintro e w7 ⟨rfl, hb⟩
    clear T
    have B7 : Below w.heap.size w w7 := B6.trans (hb.mono B6.size)
    replace Sx := Sx.below hb
    replace Sy := Sy.below hb
    replace ns := ns.below hb
    replace nt := nt.below hb
    replace nd := nd.below hb
    replace nu := nu.below hb
    clear hb B6
    have T := rcmp_any (S.below B7) (S'.below B7)
    rw [HE3.out, HE4.out] at T
    go_wp2_with fail
    refine T.mono ?_
    rintro e w8 ⟨rfl, hb⟩
    clear T
    have B8 : Below w.heap.size w w8 := B7.trans (hb.mono B7.size)
    replace Sx := Sx.below hb
    replace Sy := Sy.below hb
    replace ns := ns.below hb
    replace nt := nt.below hb
    replace nd := nd.below hb
    replace nu := nu.below hb
    clear hb B7
    have T := word_one Sx h
    go_wp2_with fail
    refine T.mono ?_
    rintro e w9 ⟨rfl, hb⟩
    clear T
    have B9 : Below w.heap.size w w9 := B8.trans (hb.mono B8.size)
    replace Sx := Sx.below hb
    replace Sy := Sy.below hb
    replace ns := ns.below hb
    replace nt := nt.below hb
    replace nd := nd.below hb
    replace nu := nu.below hb
    clear hb B8
    have T := rvalid_any (S.below B9)
    rw [h] at T
    have hc := (S.below B9).cell 0 (by omega)
    rw [Nat.add_zero] at hc
    go_wp2_with fail
    refine T.mono ?_
    rintro e w9 ⟨rfl, rfl⟩
    clear T
    have T := same_natv ns nt
    go_wp2_with fail
    refine T.mono ?_
    rintro e w10 ⟨rfl, hb⟩
    clear T
    have B10 : Below w.heap.size w w10 := B9.trans (hb.mono B9.size)
    replace Sx := Sx.below hb
    replace Sy := Sy.below hb
    replace nd := nd.below hb
    replace nu := nu.below hb
    clear hb B9
    have T := num_any E1 w10
    go_wp2_with fail
    refine T.mono ?_
    rintro e w10 ⟨rfl, rfl⟩
    clear T
    have T := same_natv nd nu
    go_wp2_with fail
    refine T.mono ?_
    rintro e w11 ⟨rfl, hb⟩
    clear T
    have B11 : Below w.heap.size w w11 := B10.trans (hb.mono B10.size)
    replace Sx := Sx.below hb
    replace Sy := Sy.below hb
    clear hb B10
    have T := num_any E2 w11
    go_wp2_with fail
    refine T.mono ?_
    rintro e w11 ⟨rfl, rfl⟩
    clear T
    have T := num_any E4 w11
    go_wp2_with fail
    refine T.mono ?_
    rintro e w11 ⟨rfl, rfl⟩
    clear T
    have T := valid_any Sx
    rw [HKV.out] at T
    go_wp2_with fail
    refine T.mono ?_
    rintro e w12 ⟨rfl, hb⟩
    clear T
    have B12 : Below w.heap.size w w12 := B11.trans (hb.mono B11.size)
    replace Sx := Sx.below hb
    replace Sy := Sy.below hb
    clear hb B11
    have T := num_any kv w12
    go_wp2_with fail
    refine T.mono ?_
    rintro e w12 ⟨rfl, rfl⟩
    clear T
    have T := rvalid_any (S.below B12)
    rw [HKV.out] at T
    go_wp2_with fail
    refine T.mono ?_
    rintro e w12 ⟨rfl, rfl⟩
    clear T
    have T := same_yes Sx (S.below B12) (fun _ _ => rfl)
    go_wp2_with fail
    refine T.mono ?_
    rintro e w13 ⟨rfl, hb⟩
    clear T
    have B13 : Below w.heap.size w w13 := B12.trans (hb.mono B12.size)
    replace Sy := Sy.below hb
    clear hb B12
    have T := same_yes Sy (S'.below B13) (fun _ _ => rfl)
    go_wp2_with fail
    refine T.mono ?_
    rintro e w14 ⟨rfl, hb⟩
    clear T
    have B14 : Below w.heap.size w w14 := B13.trans (hb.mono B13.size)
    clear hb B13
    have T := works_any _ (hT.next B14)
    go_wp2_with fail
    refine T.mono ?_
    rintro e w15 ⟨rfl, hb⟩
    clear T
    have B15 : Below w.heap.size w w15 := B14.trans (hb.mono B14.size)
    go_wp2
    go_ret
    exact ⟨rfl, B15⟩

theorem law_nsums {w : World} (hT : Tab w) {ao : Option Addr} {n ca ba oa : Nat} {f : Nat → Nat} (S : Sl w ao n ca ba oa f) (hn : n * 8 ≤ 140737488355328) {bo : Option Addr} {m cb bb ob : Nat} {g : Nat → Nat} (S' : Sl w bo m cb bb ob g) (hm : m * 8 ≤ 140737488355328) :
    Calls Tryd.prog 3 #[.slice ao n ca, .slice bo m cb] w fun e w' => e = .returned (.bool true) ∧ Below w.heap.size w w' := by
  by_cases h : verr f n = 0
  · by_cases h1 : 1 < n
    · exact law_nsums_long hT S hn S' hm h h1
    · by_cases h0 : n = 0
      · exact law_nsums_none hT S hn S' hm (by rw [h0] at h; exact h) h0
      · have h2 : n = 1 := by omega
        exact law_nsums_one hT S hn S' hm (by rw [h2] at h; exact h) h2
  · exact law_nsums_bad hT S hn S' hm h

end Go.Proofs.YtkkgancmodhghaaDoor
