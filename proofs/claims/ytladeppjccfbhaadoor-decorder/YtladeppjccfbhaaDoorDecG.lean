/-
  Round, Down and Up of dec and of the document, by what the calls inside answer.
-/
import Derived.Test.YtladeppjccfbhaaDoorDecF
namespace Go.Proofs.YtladeppjccfbhaaDoor
open Go.RowKit

set_option maxRecDepth 100000 in
set_option maxHeartbeats 1000000 in
theorem ddown_bad {s : ByteArray} {p : Int} {c : Bool} {n : Int} (hs : s.size ≤ 9223372036854775807) (h : ¬ MR s p c n (s.size : Int)) (w : World) :
    Calls Tryd.prog 14 #[dcV s p c, .int .i64 n] w fun e w' => e = .returned (.tuple #[dcV ⟨#[]⟩ 0 false, .iface 68 (.int .i64 1)]) ∧ Below w.heap.size w w' := by
  have M := fun W => mayRound_no hs h W
  unfold dcV at *
  go_enter Tryd.func14, Tryd.ntmps14
  go_wp2_with fail
  refine (M _).mono ?_
  rintro e w1 ⟨rfl, hb1⟩
  have HT1 : Hid (OneR w w1 s p c) := (OneR.start w s p c).step hb1
  clear hb1
  obtain ⟨_, _, a01, a11, a21, r01, r11, r21, fr1⟩ := HT1.out
  go_wp2
  refine bodyPost_ret (v := .tuple #[.agg #[.string ⟨#[]⟩, .int .i64 0, .bool false], .iface 68 (.int .i64 1)]) (by simp [results, Tryd.results14, go_sem, *]) rfl ⟨rfl, ?_⟩
  exact (((HT1.out.bel.setCell (by simp) _).setCell (by simp) _).setCell (by simp) _)

set_option maxRecDepth 100000 in
set_option maxHeartbeats 1000000 in
theorem ddown_ok {s : ByteArray} {p : Int} {c : Bool} {n : Int} {s2 : ByteArray} {p2 : Int} (h : MR s p c n (s.size : Int)) (B : (∀ W, Calls Tryd.prog 50 #[dcV s p c, .int .i64 n] W fun e w' => e = .returned (dcV s2 p2 false) ∧ Below W.heap.size W w')) (w : World) :
    Calls Tryd.prog 14 #[dcV s p c, .int .i64 n] w fun e w' => e = .returned (.tuple #[dcV s2 p2 false, .nilIface]) ∧ Below w.heap.size w w' := by
  have M := fun W => mayRound_yes h W
  unfold dcV at *
  go_enter Tryd.func14, Tryd.ntmps14
  go_wp2_with fail
  refine (M _).mono ?_
  rintro e w1 ⟨rfl, hb1⟩
  have HT1 : Hid (OneR w w1 s p c) := (OneR.start w s p c).step hb1
  clear hb1
  obtain ⟨_, _, a01, a11, a21, r01, r11, r21, fr1⟩ := HT1.out
  go_wp2_with fail
  refine (B _).mono ?_
  rintro e w2 ⟨rfl, hb2⟩
  have HT2 : Hid (OneR w w2 s p c) := HT1.out.step hb2
  clear hb2
  obtain ⟨_, _, a02, a12, a22, r02, r12, r22, fr2⟩ := HT2.out
  clear a01 a11 a21 r01 r11 r21 fr1
  go_wp2
  refine bodyPost_ret (v := .tuple #[.agg #[.string s2, .int .i64 p2, .bool false], .nilIface]) (by simp [results, Tryd.results14, go_sem, *]) rfl ⟨rfl, ?_⟩
  exact (((HT2.out.bel.setCell (by simp) _).setCell (by simp) _).setCell (by simp) _)

set_option maxRecDepth 100000 in
set_option maxHeartbeats 1000000 in
theorem dup_bad {s : ByteArray} {p : Int} {c : Bool} {n : Int} (hs : s.size ≤ 9223372036854775807) (h : ¬ MR s p c n (s.size : Int)) (w : World) :
    Calls Tryd.prog 16 #[dcV s p c, .int .i64 n] w fun e w' => e = .returned (.tuple #[dcV ⟨#[]⟩ 0 false, .iface 68 (.int .i64 1)]) ∧ Below w.heap.size w w' := by
  have M := fun W => mayRound_no hs h W
  unfold dcV at *
  go_enter Tryd.func16, Tryd.ntmps16
  go_wp2_with fail
  refine (M _).mono ?_
  rintro e w1 ⟨rfl, hb1⟩
  have HT1 : Hid (OneR w w1 s p c) := (OneR.start w s p c).step hb1
  clear hb1
  obtain ⟨_, _, a01, a11, a21, r01, r11, r21, fr1⟩ := HT1.out
  go_wp2
  refine bodyPost_ret (v := .tuple #[.agg #[.string ⟨#[]⟩, .int .i64 0, .bool false], .iface 68 (.int .i64 1)]) (by simp [results, Tryd.results16, go_sem, *]) rfl ⟨rfl, ?_⟩
  exact (((HT1.out.bel.setCell (by simp) _).setCell (by simp) _).setCell (by simp) _)

set_option maxRecDepth 100000 in
set_option maxHeartbeats 1000000 in
theorem dup_off {s : ByteArray} {p : Int} {c : Bool} {n : Int} {s2 : ByteArray} {p2 : Int} (h : MR s p c n (s.size : Int)) (ho : onB s c n = false) (B : (∀ W, Calls Tryd.prog 50 #[dcV s p c, .int .i64 n] W fun e w' => e = .returned (dcV s2 p2 false) ∧ Below W.heap.size W w')) (w : World) :
    Calls Tryd.prog 16 #[dcV s p c, .int .i64 n] w fun e w' => e = .returned (.tuple #[dcV s2 p2 false, .nilIface]) ∧ Below w.heap.size w w' := by
  have M := fun W => mayRound_yes h W
  have GG := fun W => goesOn_any s p c n W
  rw [ho] at GG
  unfold dcV at *
  go_enter Tryd.func16, Tryd.ntmps16
  go_wp2_with fail
  refine (M _).mono ?_
  rintro e w1 ⟨rfl, hb1⟩
  have HT1 : Hid (OneR w w1 s p c) := (OneR.start w s p c).step hb1
  clear hb1
  obtain ⟨_, _, a01, a11, a21, r01, r11, r21, fr1⟩ := HT1.out
  go_wp2_with fail
  refine (GG _).mono ?_
  rintro e w2 ⟨rfl, hb2⟩
  have HT2 : Hid (OneR w w2 s p c) := HT1.out.step hb2
  clear hb2
  obtain ⟨_, _, a02, a12, a22, r02, r12, r22, fr2⟩ := HT2.out
  clear a01 a11 a21 r01 r11 r21 fr1
  go_wp2_with fail
  refine (B _).mono ?_
  rintro e w3 ⟨rfl, hb3⟩
  have HT3 : Hid (OneR w w3 s p c) := HT2.out.step hb3
  clear hb3
  obtain ⟨_, _, a03, a13, a23, r03, r13, r23, fr3⟩ := HT3.out
  clear a02 a12 a22 r02 r12 r22 fr2
  go_wp2
  refine bodyPost_ret (v := .tuple #[.agg #[.string s2, .int .i64 p2, .bool false], .nilIface]) (by simp [results, Tryd.results16, go_sem, *]) rfl ⟨rfl, ?_⟩
  exact (((HT3.out.bel.setCell (by simp) _).setCell (by simp) _).setCell (by simp) _)

set_option maxRecDepth 100000 in
set_option maxHeartbeats 1000000 in
theorem dup_on {s : ByteArray} {p : Int} {c : Bool} {n : Int} {s2 : ByteArray} {p2 : Int} {E : Value} (h : MR s p c n (s.size : Int)) (ho : onB s c n = true) (A : (∀ W, Calls Tryd.prog 49 #[dcV s p c, .int .i64 n] W fun e w' => e = .returned (.tuple #[dcV s2 p2 false, E]) ∧ Below W.heap.size W w')) (w : World) :
    Calls Tryd.prog 16 #[dcV s p c, .int .i64 n] w fun e w' => e = .returned (.tuple #[dcV s2 p2 false, E]) ∧ Below w.heap.size w w' := by
  have M := fun W => mayRound_yes h W
  have GG := fun W => goesOn_any s p c n W
  rw [ho] at GG
  unfold dcV at *
  go_enter Tryd.func16, Tryd.ntmps16
  go_wp2_with fail
  refine (M _).mono ?_
  rintro e w1 ⟨rfl, hb1⟩
  have HT1 : Hid (OneR w w1 s p c) := (OneR.start w s p c).step hb1
  clear hb1
  obtain ⟨_, _, a01, a11, a21, r01, r11, r21, fr1⟩ := HT1.out
  go_wp2_with fail
  refine (GG _).mono ?_
  rintro e w2 ⟨rfl, hb2⟩
  have HT2 : Hid (OneR w w2 s p c) := HT1.out.step hb2
  clear hb2
  obtain ⟨_, _, a02, a12, a22, r02, r12, r22, fr2⟩ := HT2.out
  clear a01 a11 a21 r01 r11 r21 fr1
  go_wp2_with fail
  refine (A _).mono ?_
  rintro e w3 ⟨rfl, hb3⟩
  have HT3 : Hid (OneR w w3 s p c) := HT2.out.step hb3
  clear hb3
  obtain ⟨_, _, a03, a13, a23, r03, r13, r23, fr3⟩ := HT3.out
  clear a02 a12 a22 r02 r12 r22 fr2
  go_wp2
  refine bodyPost_ret (v := .tuple #[.agg #[.string s2, .int .i64 p2, .bool false], E]) (by simp [results, Tryd.results16, go_sem, *]) rfl ⟨rfl, ?_⟩
  exact (((HT3.out.bel.setCell (by simp) _).setCell (by simp) _).setCell (by simp) _)

set_option maxRecDepth 100000 in
set_option maxHeartbeats 1000000 in
theorem dround_bad {s : ByteArray} {p : Int} {c : Bool} {n : Int} (hs : s.size ≤ 9223372036854775807) (h : ¬ MR s p c n ((s.size : Int) - 1)) (w : World) :
    Calls Tryd.prog 12 #[dcV s p c, .int .i64 n] w fun e w' => e = .returned (.tuple #[dcV ⟨#[]⟩ 0 false, .iface 68 (.int .i64 1)]) ∧ Below w.heap.size w w' := by
  have M := fun W => mayRound_no hs h W
  have wk : IntKind.i64.wrap ((s.size : Int) - 1) = (s.size : Int) - 1 := by
    unfold IntKind.wrap
    simp [IntKind.bits, IntKind.signed]
    omega
  clear h hs
  unfold dcV at *
  go_enter Tryd.func12, Tryd.ntmps12
  go_wp2_with fail
  refine (M _).mono ?_
  rintro e w1 ⟨rfl, hb1⟩
  have HT1 : Hid (OneR w w1 s p c) := (OneR.start w s p c).step hb1
  clear hb1
  obtain ⟨_, _, a01, a11, a21, r01, r11, r21, fr1⟩ := HT1.out
  go_wp2
  refine bodyPost_ret (v := .tuple #[.agg #[.string ⟨#[]⟩, .int .i64 0, .bool false], .iface 68 (.int .i64 1)]) (by simp [results, Tryd.results12, go_sem, *]) rfl ⟨rfl, ?_⟩
  exact (((HT1.out.bel.setCell (by simp) _).setCell (by simp) _).setCell (by simp) _)

set_option maxRecDepth 100000 in
set_option maxHeartbeats 1000000 in
theorem dround_off {s : ByteArray} {p : Int} {c : Bool} {n : Int} {s2 : ByteArray} {p2 : Int} (h : MR s p c n ((s.size : Int) - 1)) (ho : onB s c n = false) (B : (∀ W, Calls Tryd.prog 50 #[dcV s p c, .int .i64 n] W fun e w' => e = .returned (dcV s2 p2 false) ∧ Below W.heap.size W w')) (w : World) :
    Calls Tryd.prog 12 #[dcV s p c, .int .i64 n] w fun e w' => e = .returned (.tuple #[dcV s2 p2 false, .nilIface]) ∧ Below w.heap.size w w' := by
  have M := fun W => mayRound_yes h W
  have hs8 : s.size ≤ 800 := by
    rcases h.1 with g | g
    · have := g.1; omega
    · exact g.len
  have wk : IntKind.i64.wrap ((s.size : Int) - 1) = (s.size : Int) - 1 := by
    unfold IntKind.wrap
    simp [IntKind.bits, IntKind.signed]
    omega
  clear h hs8
  have GG := fun W => goesOn_any s p c n W
  rw [ho] at GG
  unfold dcV at *
  go_enter Tryd.func12, Tryd.ntmps12
  go_wp2_with fail
  refine (M _).mono ?_
  rintro e w1 ⟨rfl, hb1⟩
  have HT1 : Hid (OneR w w1 s p c) := (OneR.start w s p c).step hb1
  clear hb1
  obtain ⟨_, _, a01, a11, a21, r01, r11, r21, fr1⟩ := HT1.out
  go_wp2_with fail
  refine (GG _).mono ?_
  rintro e w2 ⟨rfl, hb2⟩
  have HT2 : Hid (OneR w w2 s p c) := HT1.out.step hb2
  clear hb2
  obtain ⟨_, _, a02, a12, a22, r02, r12, r22, fr2⟩ := HT2.out
  clear a01 a11 a21 r01 r11 r21 fr1
  go_wp2_with fail
  refine (B _).mono ?_
  rintro e w3 ⟨rfl, hb3⟩
  have HT3 : Hid (OneR w w3 s p c) := HT2.out.step hb3
  clear hb3
  obtain ⟨_, _, a03, a13, a23, r03, r13, r23, fr3⟩ := HT3.out
  clear a02 a12 a22 r02 r12 r22 fr2
  go_wp2
  refine bodyPost_ret (v := .tuple #[.agg #[.string s2, .int .i64 p2, .bool false], .nilIface]) (by simp [results, Tryd.results12, go_sem, *]) rfl ⟨rfl, ?_⟩
  exact (((HT3.out.bel.setCell (by simp) _).setCell (by simp) _).setCell (by simp) _)

set_option maxRecDepth 100000 in
set_option maxHeartbeats 1000000 in
theorem dround_up {s : ByteArray} {p : Int} {c : Bool} {n : Int} {s2 : ByteArray} {p2 : Int} {E : Value} (h : MR s p c n ((s.size : Int) - 1)) (ho : onB s c n = true) (U : (∀ W, Calls Tryd.prog 48 #[dcV s p c, .int .i64 n] W fun e w' => e = .returned (.bool true) ∧ Below W.heap.size W w')) (A : (∀ W, Calls Tryd.prog 49 #[dcV s p c, .int .i64 n] W fun e w' => e = .returned (.tuple #[dcV s2 p2 false, E]) ∧ Below W.heap.size W w')) (w : World) :
    Calls Tryd.prog 12 #[dcV s p c, .int .i64 n] w fun e w' => e = .returned (.tuple #[dcV s2 p2 false, E]) ∧ Below w.heap.size w w' := by
  have M := fun W => mayRound_yes h W
  have hs8 : s.size ≤ 800 := by
    rcases h.1 with g | g
    · have := g.1; omega
    · exact g.len
  have wk : IntKind.i64.wrap ((s.size : Int) - 1) = (s.size : Int) - 1 := by
    unfold IntKind.wrap
    simp [IntKind.bits, IntKind.signed]
    omega
  clear h hs8
  have GG := fun W => goesOn_any s p c n W
  rw [ho] at GG
  unfold dcV at *
  go_enter Tryd.func12, Tryd.ntmps12
  go_wp2_with fail
  refine (M _).mono ?_
  rintro e w1 ⟨rfl, hb1⟩
  have HT1 : Hid (OneR w w1 s p c) := (OneR.start w s p c).step hb1
  clear hb1
  obtain ⟨_, _, a01, a11, a21, r01, r11, r21, fr1⟩ := HT1.out
  go_wp2_with fail
  refine (GG _).mono ?_
  rintro e w2 ⟨rfl, hb2⟩
  have HT2 : Hid (OneR w w2 s p c) := HT1.out.step hb2
  clear hb2
  obtain ⟨_, _, a02, a12, a22, r02, r12, r22, fr2⟩ := HT2.out
  clear a01 a11 a21 r01 r11 r21 fr1
  go_wp2_with fail
  refine (U _).mono ?_
  rintro e w3 ⟨rfl, hb3⟩
  have HT3 : Hid (OneR w w3 s p c) := HT2.out.step hb3
  clear hb3
  obtain ⟨_, _, a03, a13, a23, r03, r13, r23, fr3⟩ := HT3.out
  clear a02 a12 a22 r02 r12 r22 fr2
  go_wp2_with fail
  refine (A _).mono ?_
  rintro e w4 ⟨rfl, hb4⟩
  have HT4 : Hid (OneR w w4 s p c) := HT3.out.step hb4
  clear hb4
  obtain ⟨_, _, a04, a14, a24, r04, r14, r24, fr4⟩ := HT4.out
  clear a03 a13 a23 r03 r13 r23 fr3
  go_wp2
  refine bodyPost_ret (v := .tuple #[.agg #[.string s2, .int .i64 p2, .bool false], E]) (by simp [results, Tryd.results12, go_sem, *]) rfl ⟨rfl, ?_⟩
  exact (((HT4.out.bel.setCell (by simp) _).setCell (by simp) _).setCell (by simp) _)

set_option maxRecDepth 100000 in
set_option maxHeartbeats 1000000 in
theorem dround_dn {s : ByteArray} {p : Int} {c : Bool} {n : Int} {s2 : ByteArray} {p2 : Int} (h : MR s p c n ((s.size : Int) - 1)) (ho : onB s c n = true) (U : (∀ W, Calls Tryd.prog 48 #[dcV s p c, .int .i64 n] W fun e w' => e = .returned (.bool false) ∧ Below W.heap.size W w')) (B : (∀ W, Calls Tryd.prog 50 #[dcV s p c, .int .i64 n] W fun e w' => e = .returned (dcV s2 p2 false) ∧ Below W.heap.size W w')) (w : World) :
    Calls Tryd.prog 12 #[dcV s p c, .int .i64 n] w fun e w' => e = .returned (.tuple #[dcV s2 p2 false, .nilIface]) ∧ Below w.heap.size w w' := by
  have M := fun W => mayRound_yes h W
  have hs8 : s.size ≤ 800 := by
    rcases h.1 with g | g
    · have := g.1; omega
    · exact g.len
  have wk : IntKind.i64.wrap ((s.size : Int) - 1) = (s.size : Int) - 1 := by
    unfold IntKind.wrap
    simp [IntKind.bits, IntKind.signed]
    omega
  clear h hs8
  have GG := fun W => goesOn_any s p c n W
  rw [ho] at GG
  unfold dcV at *
  go_enter Tryd.func12, Tryd.ntmps12
  go_wp2_with fail
  refine (M _).mono ?_
  rintro e w1 ⟨rfl, hb1⟩
  have HT1 : Hid (OneR w w1 s p c) := (OneR.start w s p c).step hb1
  clear hb1
  obtain ⟨_, _, a01, a11, a21, r01, r11, r21, fr1⟩ := HT1.out
  go_wp2_with fail
  refine (GG _).mono ?_
  rintro e w2 ⟨rfl, hb2⟩
  have HT2 : Hid (OneR w w2 s p c) := HT1.out.step hb2
  clear hb2
  obtain ⟨_, _, a02, a12, a22, r02, r12, r22, fr2⟩ := HT2.out
  clear a01 a11 a21 r01 r11 r21 fr1
  go_wp2_with fail
  refine (U _).mono ?_
  rintro e w3 ⟨rfl, hb3⟩
  have HT3 : Hid (OneR w w3 s p c) := HT2.out.step hb3
  clear hb3
  obtain ⟨_, _, a03, a13, a23, r03, r13, r23, fr3⟩ := HT3.out
  clear a02 a12 a22 r02 r12 r22 fr2
  go_wp2_with fail
  refine (B _).mono ?_
  rintro e w4 ⟨rfl, hb4⟩
  have HT4 : Hid (OneR w w4 s p c) := HT3.out.step hb4
  clear hb4
  obtain ⟨_, _, a04, a14, a24, r04, r14, r24, fr4⟩ := HT4.out
  clear a03 a13 a23 r03 r13 r23 fr3
  go_wp2
  refine bodyPost_ret (v := .tuple #[.agg #[.string s2, .int .i64 p2, .bool false], .nilIface]) (by simp [results, Tryd.results12, go_sem, *]) rfl ⟨rfl, ?_⟩
  exact (((HT4.out.bel.setCell (by simp) _).setCell (by simp) _).setCell (by simp) _)

end Go.Proofs.YtladeppjccfbhaaDoor
