/-
  The statement NatTexts: for every slice of words (of at most 2^47 bytes), every text and every base the call of NatTexts returns true, where math/bits' table lies as the program's text lays it.
-/
import Derived.Test.YtkkgancmodhghaaDoorBigF
import Derived.Test.YtkkgancmodhghaaDoorBigG
namespace Go.Proofs.YtkkgancmodhghaaDoor
open Go.RowKit

set_option maxRecDepth 100000 in
set_option maxHeartbeats 4000000 in
theorem law_ntexts {w : World} (hT : Tab w) {ao : Option Addr} {n ca ba oa : Nat} {f : Nat → Nat} (S : Sl w ao n ca ba oa f) (hn : n * 8 ≤ 140737488355328) (s : ByteArray) (hs : s.size ≤ maxLen) (b : Int) :
    Calls Tryd.prog 7 #[.slice ao n ca, .string s, .int .i64 b] w fun e w' => e = .returned (.bool true) ∧ Below w.heap.size w w' := by
  have HL : Hid (s.size ≤ 9223372036854775807) := by unfold maxLen at hs; exact (by omega : s.size ≤ 9223372036854775807)
  obtain ⟨E1, HE1⟩ : ∃ E, Hid (dgE (verr f n) b = E) := ⟨_, (rfl : _ = _)⟩
  obtain ⟨E2, HE2⟩ : ∃ E, Hid (rdE s b = E) := ⟨_, (rfl : _ = _)⟩
  clear hs
  go_enter Tryd.func7, Tryd.ntmps7
  have T := twin_any S hn
  go_wp2_with fail
  refine T.mono ?_
  rintro e w1 ⟨ao1, c1, b1, rfl, Sx, _, B1⟩
  clear T
  have T := digitsN_any Sx b
  rw [HE1.out] at T
  go_wp2_with fail
  refine T.mono ?_
  rintro e w2 ⟨t1, rfl, ht1, hb⟩
  clear T
  have B2 : Below w.heap.size w w2 := B1.trans (hb.mono B1.size)
  clear hb B1
  have HT1 := (show Hid _ from ht1)
  clear ht1
  have T := rdigits_any (S.below B2) b
  rw [HE1.out] at T
  go_wp2_with fail
  refine T.mono ?_
  rintro e w3 ⟨t2, rfl, ht2, hb⟩
  clear T
  have B3 : Below w.heap.size w w3 := B2.trans (hb.mono B2.size)
  clear hb B2
  obtain rfl : t1 = t2 := IsTx.uniq HT1.out ht2
  clear ht2 HT1
  have T := readN_any s HL.out b w3
  rw [HE2.out] at T
  go_wp2_with fail
  refine T.mono ?_
  rintro e w4 ⟨vx, rfl, vnx, hb⟩
  clear T
  have B4 : Below w.heap.size w w4 := B3.trans (hb.mono B3.size)
  clear hb B3
  have T := rread_any s HL.out b w4
  rw [HE2.out] at T
  go_wp2_with fail
  refine T.mono ?_
  rintro e w5 ⟨vy, rfl, vny, hb⟩
  clear T
  have B5 : Below w.heap.size w w5 := B4.trans (hb.mono B4.size)
  replace vnx := vnx.below hb
  clear hb B4
  have T := num_any E1 w5
  go_wp2_with fail
  refine T.mono ?_
  rintro e w5 ⟨rfl, rfl⟩
  clear T
  have T := same_natv vnx vny
  go_wp2_with fail
  refine T.mono ?_
  rintro e w6 ⟨rfl, hb⟩
  clear T
  have B6 : Below w.heap.size w w6 := B5.trans (hb.mono B5.size)
  clear hb B5
  have T := num_any E2 w6
  go_wp2_with fail
  refine T.mono ?_
  rintro e w6 ⟨rfl, rfl⟩
  clear T
  have T := works_any _ (hT.next B6)
  go_wp2_with fail
  refine T.mono ?_
  rintro e w7 ⟨rfl, hb⟩
  clear T
  have B7 : Below w.heap.size w w7 := B6.trans (hb.mono B6.size)
  go_wp2
  go_ret
  exact ⟨rfl, B7⟩

end Go.Proofs.YtkkgancmodhghaaDoor
