/-
  The statement NatWords: for every slice of words (of at most 2^47 bytes), every word and every exponent the call of NatWords returns true, where math/bits' table lies as the program's text lays it.
-/
import Derived.Test.YtkkgancmodhghaaDoorNatWf
namespace Go.Proofs.YtkkgancmodhghaaDoor
open Go.RowKit

set_option maxRecDepth 100000 in
set_option maxHeartbeats 4000000 in
theorem law_nwords_zero {w : World} (hT : Tab w) {ao : Option Addr} {n ca ba oa : Nat} {f : Nat → Nat} (S : Sl w ao n ca ba oa f) (hn : n * 8 ≤ 140737488355328) (d : Nat) (hd : d < B) (s : Int) (hs : s < 9223372036854775808) (h0 : d = 0) :
    Calls Tryd.prog 5 #[.slice ao n ca, .int .u64 (d : Int), .int .i64 s] w fun e w' => e = .returned (.bool true) ∧ Below w.heap.size w w' := by
  have HW : Hid (s < 9223372036854775808 ∧ d < B) := ⟨hs, hd⟩
  obtain ⟨E1, HE1⟩ : ∃ E, Hid (dM (verr f n) (V f n) d = E) := ⟨_, (rfl : _ = _)⟩
  obtain ⟨E2, HE2⟩ : ∃ E, Hid (dE (verr f n) d = E) := ⟨_, (rfl : _ = _)⟩
  obtain ⟨E3, HE3⟩ : ∃ E, Hid (err2 (sgn s) (wE (d ^ s.toNat)) = E) := ⟨_, (rfl : _ = _)⟩
  subst h0
  clear hs hd
  go_enter Tryd.func5, Tryd.ntmps5
  have T := twin_any S hn
  go_wp2_with fail
  refine T.mono ?_
  rintro e w1 ⟨ao1, c1, b1, rfl, Sx, _, B1⟩
  clear T
  have T := divwordN_any Sx 0 HW.out.2
  rw [HE1.out, HE2.out] at T
  go_wp2_with fail
  refine T.mono ?_
  rintro e w2 ⟨vq, rfl, nq, hb⟩
  clear T
  have B2 : Below w.heap.size w w2 := B1.trans (hb.mono B1.size)
  clear hb B1
  have T := rdivword_any (S.below B2) 0 HW.out.2
  rw [HE1.out, HE2.out] at T
  go_wp2_with fail
  refine T.mono ?_
  rintro e w3 ⟨vu, rfl, nu, hb⟩
  clear T
  have B3 : Below w.heap.size w w3 := B2.trans (hb.mono B2.size)
  replace nq := nq.below hb
  clear hb B2
  have T := powerN_any 0 HW.out.2 s HW.out.1 w3
  rw [HE3.out] at T
  go_wp2_with fail
  refine T.mono ?_
  rintro e w4 ⟨vp, rfl, np, hb⟩
  clear T
  have B4 : Below w.heap.size w w4 := B3.trans (hb.mono B3.size)
  replace nq := nq.below hb
  replace nu := nu.below hb
  clear hb B3
  have T := rpower_any 0 HW.out.2 s HW.out.1 w4
  rw [HE3.out] at T
  go_wp2_with fail
  refine T.mono ?_
  rintro e w5 ⟨vw, rfl, nw, hb⟩
  clear T
  have B5 : Below w.heap.size w w5 := B4.trans (hb.mono B4.size)
  replace nq := nq.below hb
  replace nu := nu.below hb
  replace np := np.below hb
  clear hb B4
  have n1 := natv_nil w5
  obtain ⟨w6, hw6⟩ : ∃ w6, w6 = w5 := ⟨_, rfl⟩
  have B6 : Below w.heap.size w w6 := by rw [hw6]; exact B5
  subst hw6
  clear B5
  have T := same_natv nq nu
  go_wp2_with fail
  refine T.mono ?_
  rintro e w7 ⟨rfl, hb⟩
  clear T
  have B7 : Below w.heap.size w w7 := B6.trans (hb.mono B6.size)
  replace np := np.below hb
  replace nw := nw.below hb
  replace n1 := n1.below hb
  clear hb B6
  have T := num_any E2 w7
  go_wp2_with fail
  refine T.mono ?_
  rintro e w7 ⟨rfl, rfl⟩
  clear T
  have T := same_natv np nw
  go_wp2_with fail
  refine T.mono ?_
  rintro e w8 ⟨rfl, hb⟩
  clear T
  have B8 : Below w.heap.size w w8 := B7.trans (hb.mono B7.size)
  replace n1 := n1.below hb
  clear hb B7
  have T := num_any E3 w8
  go_wp2_with fail
  refine T.mono ?_
  rintro e w8 ⟨rfl, rfl⟩
  clear T
  have T := of_any 0 HW.out.2 w8
  go_wp2_with fail
  refine T.mono ?_
  rintro e w9 ⟨vo, rfl, no, hb⟩
  clear T
  have B9 : Below w.heap.size w w9 := B8.trans (hb.mono B8.size)
  replace n1 := n1.below hb
  clear hb B8
  have T := same_natv no n1
  go_wp2_with fail
  refine T.mono ?_
  rintro e w10 ⟨rfl, hb⟩
  clear T
  have B10 : Below w.heap.size w w10 := B9.trans (hb.mono B9.size)
  clear hb B9
  have T := works_any _ (hT.next B10)
  go_wp2_with fail
  refine T.mono ?_
  rintro e w11 ⟨rfl, hb⟩
  clear T
  have B11 : Below w.heap.size w w11 := B10.trans (hb.mono B10.size)
  go_wp2
  go_ret
  exact ⟨rfl, B11⟩

set_option maxRecDepth 100000 in
set_option maxHeartbeats 4000000 in
theorem law_nwords_more {w : World} (hT : Tab w) {ao : Option Addr} {n ca ba oa : Nat} {f : Nat → Nat} (S : Sl w ao n ca ba oa f) (hn : n * 8 ≤ 140737488355328) (d : Nat) (hd : d < B) (s : Int) (hs : s < 9223372036854775808) (h0 : d ≠ 0) :
    Calls Tryd.prog 5 #[.slice ao n ca, .int .u64 (d : Int), .int .i64 s] w fun e w' => e = .returned (.bool true) ∧ Below w.heap.size w w' := by
  have HW : Hid (s < 9223372036854775808 ∧ d < B) := ⟨hs, hd⟩
  obtain ⟨E1, HE1⟩ : ∃ E, Hid (dM (verr f n) (V f n) d = E) := ⟨_, (rfl : _ = _)⟩
  obtain ⟨E2, HE2⟩ : ∃ E, Hid (dE (verr f n) d = E) := ⟨_, (rfl : _ = _)⟩
  obtain ⟨E3, HE3⟩ : ∃ E, Hid (err2 (sgn s) (wE (d ^ s.toNat)) = E) := ⟨_, (rfl : _ = _)⟩
  have hd0 : (0 : Int) < (d : Int) := by omega
  obtain ⟨i0, hi, hz0, hz1, hz2⟩ := info_parts info_u64
  clear hs hd
  go_enter Tryd.func5, Tryd.ntmps5
  have T := twin_any S hn
  go_wp2_with fail
  refine T.mono ?_
  rintro e w1 ⟨ao1, c1, b1, rfl, Sx, _, B1⟩
  clear T
  have T := divwordN_any Sx d HW.out.2
  rw [HE1.out, HE2.out] at T
  go_wp2_with fail
  refine T.mono ?_
  rintro e w2 ⟨vq, rfl, nq, hb⟩
  clear T
  have B2 : Below w.heap.size w w2 := B1.trans (hb.mono B1.size)
  clear hb B1
  have T := rdivword_any (S.below B2) d HW.out.2
  rw [HE1.out, HE2.out] at T
  go_wp2_with fail
  refine T.mono ?_
  rintro e w3 ⟨vu, rfl, nu, hb⟩
  clear T
  have B3 : Below w.heap.size w w3 := B2.trans (hb.mono B2.size)
  replace nq := nq.below hb
  clear hb B2
  have T := powerN_any d HW.out.2 s HW.out.1 w3
  rw [HE3.out] at T
  go_wp2_with fail
  refine T.mono ?_
  rintro e w4 ⟨vp, rfl, np, hb⟩
  clear T
  have B4 : Below w.heap.size w w4 := B3.trans (hb.mono B3.size)
  replace nq := nq.below hb
  replace nu := nu.below hb
  clear hb B3
  have T := rpower_any d HW.out.2 s HW.out.1 w4
  rw [HE3.out] at T
  go_wp2_with fail
  refine T.mono ?_
  rintro e w5 ⟨vw, rfl, nw, hb⟩
  clear T
  have B5 : Below w.heap.size w w5 := B4.trans (hb.mono B4.size)
  replace nq := nq.below hb
  replace nu := nu.below hb
  replace np := np.below hb
  clear hb B4
  go_wp2_with (first
    | (at_builtin; refine wpList_append_own _ rfl _ _ 22 rfl w.heap.size 35 i0 (.int .u64 0) 1 8 und_wordsB hi hz0 hz1 hz2 rfl (by decide) _ _ _ rfl ((World.ownsRow_nil _ _ _ _).alloc _) ⟨w5.heap.size, 0, none⟩ 1 1 [.int .u64 (d : Int)] rfl rfl (World.news_of_block (cs := #[.int .u64 (d : Int)]) (t := 35) (fr := (0, 0)) (heap_alloc_new w5 _)) (by simp [Value.oneCell']) (by unfold maxLen; omega) (by omega) (by rw [World.size_alloc]; have := B5.size; omega) ?_)
    | go_in)
  intro v' w6 hown' hgrow hnil
  have hb : Below w5.heap.size w5 w6 := ((Below.refl _ _).alloc (Nat.le_refl _) _).grown hgrow (by rw [World.size_alloc]; omega) (fun q hq => by cases hq)
  have hown2 : w6.ownsRow w.heap.size 35 1 v' 1 (dV .u64 (wordF d) 1) := hown'
  obtain ⟨ao', c', b', rfl, S3, _⟩ := own_sl hown2 (wordF_Ws HW.out.2)
  have n1 : NatV w6 (.slice ao' 1 c') d := ⟨_, _, _, _, _, _, rfl, S3, Or.inr (by unfold wordF; simpa using h0), wordF_V d, by omega⟩
  clear hown' hown2 hgrow hnil S3
  have B6 : Below w.heap.size w w6 := B5.trans (hb.mono B5.size)
  replace nq := nq.below hb
  replace nu := nu.below hb
  replace np := np.below hb
  replace nw := nw.below hb
  clear hb B5
  have T := same_natv nq nu
  go_wp2_with fail
  refine T.mono ?_
  rintro e w7 ⟨rfl, hb⟩
  clear T
  have B7 : Below w.heap.size w w7 := B6.trans (hb.mono B6.size)
  replace np := np.below hb
  replace nw := nw.below hb
  replace n1 := n1.below hb
  clear hb B6
  have T := num_any E2 w7
  go_wp2_with fail
  refine T.mono ?_
  rintro e w7 ⟨rfl, rfl⟩
  clear T
  have T := same_natv np nw
  go_wp2_with fail
  refine T.mono ?_
  rintro e w8 ⟨rfl, hb⟩
  clear T
  have B8 : Below w.heap.size w w8 := B7.trans (hb.mono B7.size)
  replace n1 := n1.below hb
  clear hb B7
  have T := num_any E3 w8
  go_wp2_with fail
  refine T.mono ?_
  rintro e w8 ⟨rfl, rfl⟩
  clear T
  have T := of_any d HW.out.2 w8
  go_wp2_with fail
  refine T.mono ?_
  rintro e w9 ⟨vo, rfl, no, hb⟩
  clear T
  have B9 : Below w.heap.size w w9 := B8.trans (hb.mono B8.size)
  replace n1 := n1.below hb
  clear hb B8
  have T := same_natv no n1
  go_wp2_with fail
  refine T.mono ?_
  rintro e w10 ⟨rfl, hb⟩
  clear T
  have B10 : Below w.heap.size w w10 := B9.trans (hb.mono B9.size)
  clear hb B9
  have T := works_any _ (hT.next B10)
  go_wp2_with fail
  refine T.mono ?_
  rintro e w11 ⟨rfl, hb⟩
  clear T
  have B11 : Below w.heap.size w w11 := B10.trans (hb.mono B10.size)
  go_wp2
  go_ret
  exact ⟨rfl, B11⟩

theorem law_nwords {w : World} (hT : Tab w) {ao : Option Addr} {n ca ba oa : Nat} {f : Nat → Nat} (S : Sl w ao n ca ba oa f) (hn : n * 8 ≤ 140737488355328) (x : Int) (wx : (Lit.int .u64 x).wf = true) (s : Int) (ws : (Lit.int .i64 s).wf = true) :
    Calls Tryd.prog 5 #[.slice ao n ca, .int .u64 x, .int .i64 s] w fun e w' => e = .returned (.bool true) ∧ Below w.heap.size w w' := by
  have hx : 0 ≤ x ∧ x < 18446744073709551616 := by
    simp [Lit.wf, IntKind.min, IntKind.max, IntKind.signed, IntKind.bits] at wx
    exact ⟨by omega, by omega⟩
  have hs : s < 9223372036854775808 := by
    simp [Lit.wf, IntKind.min, IntKind.max, IntKind.signed, IntKind.bits] at ws
    omega
  obtain ⟨d, rfl⟩ := Int.eq_ofNat_of_zero_le hx.1
  have hd : d < B := by unfold B; omega
  by_cases h0 : d = 0
  · exact law_nwords_zero hT S hn d hd s hs h0
  · exact law_nwords_more hT S hn d hd s hs h0

end Go.Proofs.YtkkgancmodhghaaDoor
