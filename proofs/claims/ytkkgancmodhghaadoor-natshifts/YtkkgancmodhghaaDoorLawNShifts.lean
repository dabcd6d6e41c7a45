/-
  The statement NatShifts: for every slice of words (of at most 2^47 bytes) and every distance the call of NatShifts returns true, where math/bits' table lies as the program's text lays it.
-/
import Derived.Test.YtkkgancmodhghaaDoorNatSf
namespace Go.Proofs.YtkkgancmodhghaaDoor
open Go.RowKit

set_option maxRecDepth 100000 in
set_option maxHeartbeats 4000000 in
theorem law_nshifts {w : World} (hT : Tab w) {ao : Option Addr} {n ca ba oa : Nat} {f : Nat → Nat} (S : Sl w ao n ca ba oa f) (hn : n * 8 ≤ 140737488355328) (s : Int) (hwf : (Lit.int .i64 s).wf = true) :
    Calls Tryd.prog 6 #[.slice ao n ca, .int .i64 s] w fun e w' => e = .returned (.bool true) ∧ Below w.heap.size w w' := by
  have HW : Hid (s < 9223372036854775808) := by
    have h := hwf
    simp [Lit.wf, IntKind.min, IntKind.max, IntKind.signed, IntKind.bits] at h
    exact (by omega : s < 9223372036854775808)
  clear hwf
  obtain ⟨E1, HE1⟩ : ∃ E, Hid (err2 (bad (verr f n) s) (wE (V f n * 2 ^ s.toNat)) = E) := ⟨_, (rfl : _ = _)⟩
  obtain ⟨E2, HE2⟩ : ∃ E, Hid (cutQ (bad (verr f n) s) (V f n) s = E) := ⟨_, (rfl : _ = _)⟩
  obtain ⟨E3, HE3⟩ : ∃ E, Hid (bad (verr f n) s = E) := ⟨_, (rfl : _ = _)⟩
  obtain ⟨E4, HE4⟩ : ∃ E, Hid (num2 (verr f n) (bl (V f n)) = E) := ⟨_, (rfl : _ = _)⟩
  obtain ⟨kv, HKV⟩ : ∃ E, Hid (verr f n = E) := ⟨_, (rfl : _ = _)⟩
  go_enter Tryd.func6, Tryd.ntmps6
  have T := twin_any S hn
  go_wp2_with fail
  refine T.mono ?_
  rintro e w1 ⟨ao1, c1, b1, rfl, Sx, _, B1⟩
  clear T
  have T := shlN_any Sx s HW.out
  rw [HE1.out] at T
  go_wp2_with fail
  refine T.mono ?_
  rintro e w2 ⟨vl, rfl, nl, hb⟩
  clear T
  have B2 : Below w.heap.size w w2 := B1.trans (hb.mono B1.size)
  clear hb B1
  have T := rshl_any (S.below B2) s HW.out
  rw [HE1.out] at T
  go_wp2_with fail
  refine T.mono ?_
  rintro e w3 ⟨vm, rfl, nm, hb⟩
  clear T
  have B3 : Below w.heap.size w w3 := B2.trans (hb.mono B2.size)
  replace nl := nl.below hb
  clear hb B2
  have T := twin_any (S.below B3) hn
  go_wp2_with fail
  refine T.mono ?_
  rintro e w4 ⟨ao4, c4, b4, rfl, Sy, _, hb⟩
  clear T
  have B4 : Below w.heap.size w w4 := B3.trans (hb.mono B3.size)
  replace nl := nl.below hb
  replace nm := nm.below hb
  clear hb B3
  have T := shrN_any (hT.next B4) Sy s HW.out
  rw [HE2.out, HE3.out] at T
  go_wp2_with fail
  refine T.mono ?_
  rintro e w5 ⟨vr, rfl, nr, hb⟩
  clear T
  have B5 : Below w.heap.size w w5 := B4.trans (hb.mono B4.size)
  replace nl := nl.below hb
  replace nm := nm.below hb
  clear hb B4
  have T := rshr_any (S.below B5) s HW.out
  rw [HE2.out, HE3.out] at T
  go_wp2_with fail
  refine T.mono ?_
  rintro e w6 ⟨vs, rfl, ns, hb⟩
  clear T
  have B6 : Below w.heap.size w w6 := B5.trans (hb.mono B5.size)
  replace nl := nl.below hb
  replace nm := nm.below hb
  replace nr := nr.below hb
  clear hb B5
  have T := twin_any (S.below B6) hn
  go_wp2_with fail
  refine T.mono ?_
  rintro e w7 ⟨ao7, c7, b7, rfl, Sz, _, hb⟩
  clear T
  have B7 : Below w.heap.size w w7 := B6.trans (hb.mono B6.size)
  replace nl := nl.below hb
  replace nm := nm.below hb
  replace nr := nr.below hb
  replace ns := ns.below hb
  clear hb B6
  have T := bitsN_any Sz
  rw [HE4.out, HKV.out] at T
  go_wp2_with fail
  refine T.mono ?_
  rintro e w8 ⟨rfl, hb⟩
  clear T
  have B8 : Below w.heap.size w w8 := B7.trans (hb.mono B7.size)
  replace nl := nl.below hb
  replace nm := nm.below hb
  replace nr := nr.below hb
  replace ns := ns.below hb
  clear hb B7
  have T := rbits_any (S.below B8)
  rw [HE4.out, HKV.out] at T
  go_wp2_with fail
  refine T.mono ?_
  rintro e w9 ⟨rfl, hb⟩
  clear T
  have B9 : Below w.heap.size w w9 := B8.trans (hb.mono B8.size)
  replace nl := nl.below hb
  replace nm := nm.below hb
  replace nr := nr.below hb
  replace ns := ns.below hb
  clear hb B8
  have T := twin_any (S.below B9) hn
  go_wp2_with fail
  refine T.mono ?_
  rintro e w10 ⟨ao10, c10, b10, rfl, Sw, _, hb⟩
  clear T
  have B10 : Below w.heap.size w w10 := B9.trans (hb.mono B9.size)
  replace nl := nl.below hb
  replace nm := nm.below hb
  replace nr := nr.below hb
  replace ns := ns.below hb
  clear hb B9
  have T := zerosN_any (hT.next B10) Sw
  rw [HKV.out] at T
  go_wp2_with fail
  refine T.mono ?_
  rintro e w11 ⟨z1, rfl, hz1, hb⟩
  clear T
  have B11 : Below w.heap.size w w11 := B10.trans (hb.mono B10.size)
  replace nl := nl.below hb
  replace nm := nm.below hb
  replace nr := nr.below hb
  replace ns := ns.below hb
  clear hb B10
  have HZ1 := (show Hid _ from hz1)
  clear hz1
  have T := rzeros_any (S.below B11)
  rw [HKV.out] at T
  go_wp2_with fail
  refine T.mono ?_
  rintro e w12 ⟨z2, rfl, hz2, hb⟩
  clear T
  have B12 : Below w.heap.size w w12 := B11.trans (hb.mono B11.size)
  replace nl := nl.below hb
  replace nm := nm.below hb
  replace nr := nr.below hb
  replace ns := ns.below hb
  clear hb B11
  obtain rfl : z1 = z2 := Zz_uniq HZ1.out hz2
  clear hz2
  have T := same_natv nl nm
  go_wp2_with fail
  refine T.mono ?_
  rintro e w13 ⟨rfl, hb⟩
  clear T
  have B13 : Below w.heap.size w w13 := B12.trans (hb.mono B12.size)
  replace nr := nr.below hb
  replace ns := ns.below hb
  clear hb B12
  have T := num_any E1 w13
  go_wp2_with fail
  refine T.mono ?_
  rintro e w13 ⟨rfl, rfl⟩
  clear T
  have T := same_natv nr ns
  go_wp2_with fail
  refine T.mono ?_
  rintro e w14 ⟨rfl, hb⟩
  clear T
  have B14 : Below w.heap.size w w14 := B13.trans (hb.mono B13.size)
  clear hb B13
  have T := num_any E3 w14
  go_wp2_with fail
  refine T.mono ?_
  rintro e w14 ⟨rfl, rfl⟩
  clear T
  have T := num_any kv w14
  go_wp2_with fail
  refine T.mono ?_
  rintro e w14 ⟨rfl, rfl⟩
  clear T
  have T := num_any kv w14
  go_wp2_with fail
  refine T.mono ?_
  rintro e w14 ⟨rfl, rfl⟩
  clear T
  have T := works_any _ (hT.next B14)
  go_wp2_with fail
  refine T.mono ?_
  rintro e w15 ⟨rfl, hb⟩
  clear T
  have B15 : Below w.heap.size w w15 := B14.trans (hb.mono B14.size)
  go_wp2
  go_ret
  exact ⟨rfl, B15⟩

end Go.Proofs.YtkkgancmodhghaaDoor
