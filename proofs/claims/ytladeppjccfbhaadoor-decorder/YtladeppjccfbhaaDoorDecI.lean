/-
  Round, Down and Up of the document, by what made answers.
-/
import Derived.Test.YtladeppjccfbhaaDoorDecH
namespace Go.Proofs.YtladeppjccfbhaaDoor
open Go.RowKit

set_option maxRecDepth 100000 in
set_option maxHeartbeats 1000000 in
theorem rdown_bad {s : ByteArray} {p : Int} {c : Bool} {n : Int} (hs : s.size ≤ 9223372036854775807) (h : ¬ VD s p c) (w : World) :
    Calls Tryd.prog 15 #[dcV s p c, .int .i64 n] w fun e w' => e = .returned (.tuple #[dcV ⟨#[]⟩ 0 false, .int .i64 1]) ∧ Below w.heap.size w w' := by
  have VV := fun W => rvald_no hs h W
  unfold dcV at *
  go_enter Tryd.func15, Tryd.ntmps15
  go_wp2_with fail
  refine (VV _).mono ?_
  rintro e w1 ⟨rfl, hb1⟩
  have HT1 : Hid (OneR w w1 s p c) := (OneR.start w s p c).step hb1
  clear hb1
  obtain ⟨_, _, a01, a11, a21, r01, r11, r21, fr1⟩ := HT1.out
  go_wp2
  refine bodyPost_ret (v := .tuple #[.agg #[.string ⟨#[]⟩, .int .i64 0, .bool false], .int .i64 1]) (by simp [results, Tryd.results15, go_sem, *]) rfl ⟨rfl, ?_⟩
  exact (((HT1.out.bel.setCell (by simp) _).setCell (by simp) _).setCell (by simp) _)

set_option maxRecDepth 100000 in
set_option maxHeartbeats 1000000 in
theorem rdown_neg {s : ByteArray} {p : Int} {c : Bool} {n : Int} (h : VD s p c) (hn : n < 0) (w : World) :
    Calls Tryd.prog 15 #[dcV s p c, .int .i64 n] w fun e w' => e = .returned (.tuple #[dcV ⟨#[]⟩ 0 false, .int .i64 1]) ∧ Below w.heap.size w w' := by
  have VV := fun W => rvald_yes h W
  clear h
  unfold dcV at *
  go_enter Tryd.func15, Tryd.ntmps15
  go_wp2_with fail
  refine (VV _).mono ?_
  rintro e w1 ⟨rfl, hb1⟩
  have HT1 : Hid (OneR w w1 s p c) := (OneR.start w s p c).step hb1
  clear hb1
  obtain ⟨_, _, a01, a11, a21, r01, r11, r21, fr1⟩ := HT1.out
  go_wp2
  refine bodyPost_ret (v := .tuple #[.agg #[.string ⟨#[]⟩, .int .i64 0, .bool false], .int .i64 1]) (by simp [results, Tryd.results15, go_sem, *]) rfl ⟨rfl, ?_⟩
  exact (((HT1.out.bel.setCell (by simp) _).setCell (by simp) _).setCell (by simp) _)

set_option maxRecDepth 100000 in
set_option maxHeartbeats 1000000 in
theorem rdown_many {s : ByteArray} {p : Int} {c : Bool} {n : Int} (h : VD s p c) (hn : 800 < n) (w : World) :
    Calls Tryd.prog 15 #[dcV s p c, .int .i64 n] w fun e w' => e = .returned (.tuple #[dcV ⟨#[]⟩ 0 false, .int .i64 1]) ∧ Below w.heap.size w w' := by
  have n0 : ¬ n < 0 := by omega
  have VV := fun W => rvald_yes h W
  clear h
  unfold dcV at *
  go_enter Tryd.func15, Tryd.ntmps15
  go_wp2_with fail
  refine (VV _).mono ?_
  rintro e w1 ⟨rfl, hb1⟩
  have HT1 : Hid (OneR w w1 s p c) := (OneR.start w s p c).step hb1
  clear hb1
  obtain ⟨_, _, a01, a11, a21, r01, r11, r21, fr1⟩ := HT1.out
  go_wp2
  refine bodyPost_ret (v := .tuple #[.agg #[.string ⟨#[]⟩, .int .i64 0, .bool false], .int .i64 1]) (by simp [results, Tryd.results15, go_sem, *]) rfl ⟨rfl, ?_⟩
  exact (((HT1.out.bel.setCell (by simp) _).setCell (by simp) _).setCell (by simp) _)

set_option maxRecDepth 100000 in
set_option maxHeartbeats 1000000 in
theorem rdown_cut {s : ByteArray} {p : Int} {n : Int} (h : VD s p true) (n0 : ¬ n < 0) (n8 : ¬ 800 < n) (hn : (s.size : Int) < n) (w : World) :
    Calls Tryd.prog 15 #[dcV s p true, .int .i64 n] w fun e w' => e = .returned (.tuple #[dcV ⟨#[]⟩ 0 false, .int .i64 1]) ∧ Below w.heap.size w w' := by
  have VV := fun W => rvald_yes h W
  clear h
  unfold dcV at *
  go_enter Tryd.func15, Tryd.ntmps15
  go_wp2_with fail
  refine (VV _).mono ?_
  rintro e w1 ⟨rfl, hb1⟩
  have HT1 : Hid (OneR w w1 s p true) := (OneR.start w s p true).step hb1
  clear hb1
  obtain ⟨_, _, a01, a11, a21, r01, r11, r21, fr1⟩ := HT1.out
  go_wp2
  refine bodyPost_ret (v := .tuple #[.agg #[.string ⟨#[]⟩, .int .i64 0, .bool false], .int .i64 1]) (by simp [results, Tryd.results15, go_sem, *]) rfl ⟨rfl, ?_⟩
  exact (((HT1.out.bel.setCell (by simp) _).setCell (by simp) _).setCell (by simp) _)

set_option maxRecDepth 100000 in
set_option maxHeartbeats 1000000 in
theorem rdown_lof {s : ByteArray} {p : Int} {n : Int} {s2 : ByteArray} {p2 kk : Int} (h : VD s p false) (n0 : ¬ n < 0) (n8 : ¬ 800 < n) (hn : ¬ (s.size : Int) < n) (Mk : ∀ W, Calls Tryd.prog 51 #[dcV s p false, .int .i64 n, .bool false] W fun e w' => e = .returned (.tuple #[dcV s2 p2 false, .int .i64 kk]) ∧ Below W.heap.size W w') (w : World) :
    Calls Tryd.prog 15 #[dcV s p false, .int .i64 n] w fun e w' => e = .returned (.tuple #[dcV s2 p2 false, .int .i64 kk]) ∧ Below w.heap.size w w' := by
  have VV := fun W => rvald_yes h W
  clear h
  unfold dcV at *
  go_enter Tryd.func15, Tryd.ntmps15
  go_wp2_with fail
  refine (VV _).mono ?_
  rintro e w1 ⟨rfl, hb1⟩
  have HT1 : Hid (OneR w w1 s p false) := (OneR.start w s p false).step hb1
  clear hb1
  obtain ⟨_, _, a01, a11, a21, r01, r11, r21, fr1⟩ := HT1.out
  go_wp2_with fail
  refine (Mk _).mono ?_
  rintro e w2 ⟨rfl, hb2⟩
  have HT2 : Hid (OneR w w2 s p false) := HT1.out.step hb2
  clear hb2
  obtain ⟨_, _, a02, a12, a22, r02, r12, r22, fr2⟩ := HT2.out
  clear a01 a11 a21 r01 r11 r21 fr1
  go_wp2
  refine bodyPost_ret (v := .tuple #[.agg #[.string s2, .int .i64 p2, .bool false], .int .i64 kk]) (by simp [results, Tryd.results15, go_sem, *]) rfl ⟨rfl, ?_⟩
  exact (((HT2.out.bel.setCell (by simp) _).setCell (by simp) _).setCell (by simp) _)

set_option maxRecDepth 100000 in
set_option maxHeartbeats 1000000 in
theorem rdown_lot {s : ByteArray} {p : Int} {n : Int} {s2 : ByteArray} {p2 kk : Int} (h : VD s p true) (n0 : ¬ n < 0) (n8 : ¬ 800 < n) (hn : ¬ (s.size : Int) < n) (Mk : ∀ W, Calls Tryd.prog 51 #[dcV s p true, .int .i64 n, .bool false] W fun e w' => e = .returned (.tuple #[dcV s2 p2 false, .int .i64 kk]) ∧ Below W.heap.size W w') (w : World) :
    Calls Tryd.prog 15 #[dcV s p true, .int .i64 n] w fun e w' => e = .returned (.tuple #[dcV s2 p2 false, .int .i64 kk]) ∧ Below w.heap.size w w' := by
  have VV := fun W => rvald_yes h W
  clear h
  unfold dcV at *
  go_enter Tryd.func15, Tryd.ntmps15
  go_wp2_with fail
  refine (VV _).mono ?_
  rintro e w1 ⟨rfl, hb1⟩
  have HT1 : Hid (OneR w w1 s p true) := (OneR.start w s p true).step hb1
  clear hb1
  obtain ⟨_, _, a01, a11, a21, r01, r11, r21, fr1⟩ := HT1.out
  go_wp2_with fail
  refine (Mk _).mono ?_
  rintro e w2 ⟨rfl, hb2⟩
  have HT2 : Hid (OneR w w2 s p true) := HT1.out.step hb2
  clear hb2
  obtain ⟨_, _, a02, a12, a22, r02, r12, r22, fr2⟩ := HT2.out
  clear a01 a11 a21 r01 r11 r21 fr1
  go_wp2
  refine bodyPost_ret (v := .tuple #[.agg #[.string s2, .int .i64 p2, .bool false], .int .i64 kk]) (by simp [results, Tryd.results15, go_sem, *]) rfl ⟨rfl, ?_⟩
  exact (((HT2.out.bel.setCell (by simp) _).setCell (by simp) _).setCell (by simp) _)

set_option maxRecDepth 100000 in
set_option maxHeartbeats 1000000 in
theorem rdown_hi {s : ByteArray} {p : Int} {n : Int} {s2 : ByteArray} {p2 kk : Int} (h : VD s p false) (n0 : ¬ n < 0) (n8 : ¬ 800 < n) (hn : (s.size : Int) < n) (Mk : ∀ W, Calls Tryd.prog 51 #[dcV s p false, .int .i64 (s.size : Int), .bool false] W fun e w' => e = .returned (.tuple #[dcV s2 p2 false, .int .i64 kk]) ∧ Below W.heap.size W w') (w : World) :
    Calls Tryd.prog 15 #[dcV s p false, .int .i64 n] w fun e w' => e = .returned (.tuple #[dcV s2 p2 false, .int .i64 kk]) ∧ Below w.heap.size w w' := by
  have VV := fun W => rvald_yes h W
  clear h
  unfold dcV at *
  go_enter Tryd.func15, Tryd.ntmps15
  go_wp2_with fail
  refine (VV _).mono ?_
  rintro e w1 ⟨rfl, hb1⟩
  have HT1 : Hid (OneR w w1 s p false) := (OneR.start w s p false).step hb1
  clear hb1
  obtain ⟨_, _, a01, a11, a21, r01, r11, r21, fr1⟩ := HT1.out
  go_wp2_with fail
  refine (Mk _).mono ?_
  rintro e w2 ⟨rfl, hb2⟩
  have HT2 : Hid (OneR w w2 s p false) := HT1.out.step hb2
  clear hb2
  obtain ⟨_, _, a02, a12, a22, r02, r12, r22, fr2⟩ := HT2.out
  clear a01 a11 a21 r01 r11 r21 fr1
  go_wp2
  refine bodyPost_ret (v := .tuple #[.agg #[.string s2, .int .i64 p2, .bool false], .int .i64 kk]) (by simp [results, Tryd.results15, go_sem, *]) rfl ⟨rfl, ?_⟩
  exact (((HT2.out.bel.setCell (by simp) _).setCell (by simp) _).setCell (by simp) _)

set_option maxRecDepth 100000 in
set_option maxHeartbeats 1000000 in
theorem rup_bad {s : ByteArray} {p : Int} {c : Bool} {n : Int} (hs : s.size ≤ 9223372036854775807) (h : ¬ VD s p c) (w : World) :
    Calls Tryd.prog 17 #[dcV s p c, .int .i64 n] w fun e w' => e = .returned (.tuple #[dcV ⟨#[]⟩ 0 false, .int .i64 1]) ∧ Below w.heap.size w w' := by
  have VV := fun W => rvald_no hs h W
  unfold dcV at *
  go_enter Tryd.func17, Tryd.ntmps17
  go_wp2_with fail
  refine (VV _).mono ?_
  rintro e w1 ⟨rfl, hb1⟩
  have HT1 : Hid (OneR w w1 s p c) := (OneR.start w s p c).step hb1
  clear hb1
  obtain ⟨_, _, a01, a11, a21, r01, r11, r21, fr1⟩ := HT1.out
  go_wp2
  refine bodyPost_ret (v := .tuple #[.agg #[.string ⟨#[]⟩, .int .i64 0, .bool false], .int .i64 1]) (by simp [results, Tryd.results17, go_sem, *]) rfl ⟨rfl, ?_⟩
  exact (((HT1.out.bel.setCell (by simp) _).setCell (by simp) _).setCell (by simp) _)

set_option maxRecDepth 100000 in
set_option maxHeartbeats 1000000 in
theorem rup_neg {s : ByteArray} {p : Int} {c : Bool} {n : Int} (h : VD s p c) (hn : n < 0) (w : World) :
    Calls Tryd.prog 17 #[dcV s p c, .int .i64 n] w fun e w' => e = .returned (.tuple #[dcV ⟨#[]⟩ 0 false, .int .i64 1]) ∧ Below w.heap.size w w' := by
  have VV := fun W => rvald_yes h W
  clear h
  unfold dcV at *
  go_enter Tryd.func17, Tryd.ntmps17
  go_wp2_with fail
  refine (VV _).mono ?_
  rintro e w1 ⟨rfl, hb1⟩
  have HT1 : Hid (OneR w w1 s p c) := (OneR.start w s p c).step hb1
  clear hb1
  obtain ⟨_, _, a01, a11, a21, r01, r11, r21, fr1⟩ := HT1.out
  go_wp2
  refine bodyPost_ret (v := .tuple #[.agg #[.string ⟨#[]⟩, .int .i64 0, .bool false], .int .i64 1]) (by simp [results, Tryd.results17, go_sem, *]) rfl ⟨rfl, ?_⟩
  exact (((HT1.out.bel.setCell (by simp) _).setCell (by simp) _).setCell (by simp) _)

set_option maxRecDepth 100000 in
set_option maxHeartbeats 1000000 in
theorem rup_many {s : ByteArray} {p : Int} {c : Bool} {n : Int} (h : VD s p c) (hn : 800 < n) (w : World) :
    Calls Tryd.prog 17 #[dcV s p c, .int .i64 n] w fun e w' => e = .returned (.tuple #[dcV ⟨#[]⟩ 0 false, .int .i64 1]) ∧ Below w.heap.size w w' := by
  have n0 : ¬ n < 0 := by omega
  have VV := fun W => rvald_yes h W
  clear h
  unfold dcV at *
  go_enter Tryd.func17, Tryd.ntmps17
  go_wp2_with fail
  refine (VV _).mono ?_
  rintro e w1 ⟨rfl, hb1⟩
  have HT1 : Hid (OneR w w1 s p c) := (OneR.start w s p c).step hb1
  clear hb1
  obtain ⟨_, _, a01, a11, a21, r01, r11, r21, fr1⟩ := HT1.out
  go_wp2
  refine bodyPost_ret (v := .tuple #[.agg #[.string ⟨#[]⟩, .int .i64 0, .bool false], .int .i64 1]) (by simp [results, Tryd.results17, go_sem, *]) rfl ⟨rfl, ?_⟩
  exact (((HT1.out.bel.setCell (by simp) _).setCell (by simp) _).setCell (by simp) _)

set_option maxRecDepth 100000 in
set_option maxHeartbeats 1000000 in
theorem rup_cut {s : ByteArray} {p : Int} {n : Int} (h : VD s p true) (n0 : ¬ n < 0) (n8 : ¬ 800 < n) (hn : (s.size : Int) < n) (w : World) :
    Calls Tryd.prog 17 #[dcV s p true, .int .i64 n] w fun e w' => e = .returned (.tuple #[dcV ⟨#[]⟩ 0 false, .int .i64 1]) ∧ Below w.heap.size w w' := by
  have VV := fun W => rvald_yes h W
  clear h
  unfold dcV at *
  go_enter Tryd.func17, Tryd.ntmps17
  go_wp2_with fail
  refine (VV _).mono ?_
  rintro e w1 ⟨rfl, hb1⟩
  have HT1 : Hid (OneR w w1 s p true) := (OneR.start w s p true).step hb1
  clear hb1
  obtain ⟨_, _, a01, a11, a21, r01, r11, r21, fr1⟩ := HT1.out
  go_wp2
  refine bodyPost_ret (v := .tuple #[.agg #[.string ⟨#[]⟩, .int .i64 0, .bool false], .int .i64 1]) (by simp [results, Tryd.results17, go_sem, *]) rfl ⟨rfl, ?_⟩
  exact (((HT1.out.bel.setCell (by simp) _).setCell (by simp) _).setCell (by simp) _)

set_option maxRecDepth 100000 in
set_option maxHeartbeats 1000000 in
theorem rup_none {s : ByteArray} {p : Int} {n : Int} (h : VD s p false) (n0 : ¬ n < 0) (n8 : ¬ 800 < n) (hz : s.size = 0) (w : World) :
    Calls Tryd.prog 17 #[dcV s p false, .int .i64 n] w fun e w' => e = .returned (.tuple #[dcV s p false, .int .i64 0]) ∧ Below w.heap.size w w' := by
  have VV := fun W => rvald_yes h W
  clear h
  unfold dcV at *
  go_enter Tryd.func17, Tryd.ntmps17
  go_wp2_with fail
  refine (VV _).mono ?_
  rintro e w1 ⟨rfl, hb1⟩
  have HT1 : Hid (OneR w w1 s p false) := (OneR.start w s p false).step hb1
  clear hb1
  obtain ⟨_, _, a01, a11, a21, r01, r11, r21, fr1⟩ := HT1.out
  go_wp2
  refine bodyPost_ret (v := .tuple #[.agg #[.string s, .int .i64 p, .bool false], .int .i64 0]) (by simp [results, Tryd.results17, go_sem, *]) rfl ⟨rfl, ?_⟩
  exact (((HT1.out.bel.setCell (by simp) _).setCell (by simp) _).setCell (by simp) _)

set_option maxRecDepth 100000 in
set_option maxHeartbeats 1000000 in
theorem rup_lot {s : ByteArray} {p : Int} {n : Int} {s2 : ByteArray} {p2 kk : Int} (h : VD s p true) (n0 : ¬ n < 0) (n8 : ¬ 800 < n) (hz : ((s.size : Int) == 0) = false) (hn : ¬ (s.size : Int) < n) (Mk : ∀ W, Calls Tryd.prog 51 #[dcV s p true, .int .i64 n, .bool true] W fun e w' => e = .returned (.tuple #[dcV s2 p2 false, .int .i64 kk]) ∧ Below W.heap.size W w') (w : World) :
    Calls Tryd.prog 17 #[dcV s p true, .int .i64 n] w fun e w' => e = .returned (.tuple #[dcV s2 p2 false, .int .i64 kk]) ∧ Below w.heap.size w w' := by
  have VV := fun W => rvald_yes h W
  clear h
  unfold dcV at *
  go_enter Tryd.func17, Tryd.ntmps17
  go_wp2_with fail
  refine (VV _).mono ?_
  rintro e w1 ⟨rfl, hb1⟩
  have HT1 : Hid (OneR w w1 s p true) := (OneR.start w s p true).step hb1
  clear hb1
  obtain ⟨_, _, a01, a11, a21, r01, r11, r21, fr1⟩ := HT1.out
  go_wp2_with fail
  refine (Mk _).mono ?_
  rintro e w2 ⟨rfl, hb2⟩
  have HT2 : Hid (OneR w w2 s p true) := HT1.out.step hb2
  clear hb2
  obtain ⟨_, _, a02, a12, a22, r02, r12, r22, fr2⟩ := HT2.out
  clear a01 a11 a21 r01 r11 r21 fr1
  go_wp2
  refine bodyPost_ret (v := .tuple #[.agg #[.string s2, .int .i64 p2, .bool false], .int .i64 kk]) (by simp [results, Tryd.results17, go_sem, *]) rfl ⟨rfl, ?_⟩
  exact (((HT2.out.bel.setCell (by simp) _).setCell (by simp) _).setCell (by simp) _)

set_option maxRecDepth 100000 in
set_option maxHeartbeats 1000000 in
theorem rup_lof {s : ByteArray} {p : Int} {n : Int} {s2 : ByteArray} {p2 kk : Int} (h : VD s p false) (n0 : ¬ n < 0) (n8 : ¬ 800 < n) (hz : ((s.size : Int) == 0) = false) (hm : n < (s.size : Int)) (Mk : ∀ W, Calls Tryd.prog 51 #[dcV s p false, .int .i64 n, .bool true] W fun e w' => e = .returned (.tuple #[dcV s2 p2 false, .int .i64 kk]) ∧ Below W.heap.size W w') (w : World) :
    Calls Tryd.prog 17 #[dcV s p false, .int .i64 n] w fun e w' => e = .returned (.tuple #[dcV s2 p2 false, .int .i64 kk]) ∧ Below w.heap.size w w' := by
  have VV := fun W => rvald_yes h W
  clear h
  unfold dcV at *
  go_enter Tryd.func17, Tryd.ntmps17
  go_wp2_with fail
  refine (VV _).mono ?_
  rintro e w1 ⟨rfl, hb1⟩
  have HT1 : Hid (OneR w w1 s p false) := (OneR.start w s p false).step hb1
  clear hb1
  obtain ⟨_, _, a01, a11, a21, r01, r11, r21, fr1⟩ := HT1.out
  go_wp2_with fail
  refine (Mk _).mono ?_
  rintro e w2 ⟨rfl, hb2⟩
  have HT2 : Hid (OneR w w2 s p false) := HT1.out.step hb2
  clear hb2
  obtain ⟨_, _, a02, a12, a22, r02, r12, r22, fr2⟩ := HT2.out
  clear a01 a11 a21 r01 r11 r21 fr1
  go_wp2
  refine bodyPost_ret (v := .tuple #[.agg #[.string s2, .int .i64 p2, .bool false], .int .i64 kk]) (by simp [results, Tryd.results17, go_sem, *]) rfl ⟨rfl, ?_⟩
  exact (((HT2.out.bel.setCell (by simp) _).setCell (by simp) _).setCell (by simp) _)

set_option maxRecDepth 100000 in
set_option maxHeartbeats 1000000 in
theorem rup_eq {s : ByteArray} {p : Int} {s2 : ByteArray} {p2 kk : Int} (h : VD s p false) (n8 : ¬ (800 : Int) < (s.size : Int)) (hz : ((s.size : Int) == 0) = false) (Mk : ∀ W, Calls Tryd.prog 51 #[dcV s p false, .int .i64 (s.size : Int), .bool false] W fun e w' => e = .returned (.tuple #[dcV s2 p2 false, .int .i64 kk]) ∧ Below W.heap.size W w') (w : World) :
    Calls Tryd.prog 17 #[dcV s p false, .int .i64 (s.size : Int)] w fun e w' => e = .returned (.tuple #[dcV s2 p2 false, .int .i64 kk]) ∧ Below w.heap.size w w' := by
  have VV := fun W => rvald_yes h W
  clear h
  unfold dcV at *
  go_enter Tryd.func17, Tryd.ntmps17
  go_wp2_with fail
  refine (VV _).mono ?_
  rintro e w1 ⟨rfl, hb1⟩
  have HT1 : Hid (OneR w w1 s p false) := (OneR.start w s p false).step hb1
  clear hb1
  obtain ⟨_, _, a01, a11, a21, r01, r11, r21, fr1⟩ := HT1.out
  go_wp2_with fail
  refine (Mk _).mono ?_
  rintro e w2 ⟨rfl, hb2⟩
  have HT2 : Hid (OneR w w2 s p false) := HT1.out.step hb2
  clear hb2
  obtain ⟨_, _, a02, a12, a22, r02, r12, r22, fr2⟩ := HT2.out
  clear a01 a11 a21 r01 r11 r21 fr1
  go_wp2
  refine bodyPost_ret (v := .tuple #[.agg #[.string s2, .int .i64 p2, .bool false], .int .i64 kk]) (by simp [results, Tryd.results17, go_sem, *]) rfl ⟨rfl, ?_⟩
  exact (((HT2.out.bel.setCell (by simp) _).setCell (by simp) _).setCell (by simp) _)

set_option maxRecDepth 100000 in
set_option maxHeartbeats 1000000 in
theorem rup_hi {s : ByteArray} {p : Int} {n : Int} {s2 : ByteArray} {p2 kk : Int} (h : VD s p false) (n0 : ¬ n < 0) (n8 : ¬ 800 < n) (hz : ((s.size : Int) == 0) = false) (hn : (s.size : Int) < n) (Mk : ∀ W, Calls Tryd.prog 51 #[dcV s p false, .int .i64 (s.size : Int), .bool false] W fun e w' => e = .returned (.tuple #[dcV s2 p2 false, .int .i64 kk]) ∧ Below W.heap.size W w') (w : World) :
    Calls Tryd.prog 17 #[dcV s p false, .int .i64 n] w fun e w' => e = .returned (.tuple #[dcV s2 p2 false, .int .i64 kk]) ∧ Below w.heap.size w w' := by
  have VV := fun W => rvald_yes h W
  clear h
  unfold dcV at *
  go_enter Tryd.func17, Tryd.ntmps17
  go_wp2_with fail
  refine (VV _).mono ?_
  rintro e w1 ⟨rfl, hb1⟩
  have HT1 : Hid (OneR w w1 s p false) := (OneR.start w s p false).step hb1
  clear hb1
  obtain ⟨_, _, a01, a11, a21, r01, r11, r21, fr1⟩ := HT1.out
  go_wp2_with fail
  refine (Mk _).mono ?_
  rintro e w2 ⟨rfl, hb2⟩
  have HT2 : Hid (OneR w w2 s p false) := HT1.out.step hb2
  clear hb2
  obtain ⟨_, _, a02, a12, a22, r02, r12, r22, fr2⟩ := HT2.out
  clear a01 a11 a21 r01 r11 r21 fr1
  go_wp2
  refine bodyPost_ret (v := .tuple #[.agg #[.string s2, .int .i64 p2, .bool false], .int .i64 kk]) (by simp [results, Tryd.results17, go_sem, *]) rfl ⟨rfl, ?_⟩
  exact (((HT2.out.bel.setCell (by simp) _).setCell (by simp) _).setCell (by simp) _)

set_option maxRecDepth 100000 in
set_option maxHeartbeats 1000000 in
theorem rround_bad {s : ByteArray} {p : Int} {c : Bool} {n : Int} (hs : s.size ≤ 9223372036854775807) (h : ¬ VD s p c) (w : World) :
    Calls Tryd.prog 13 #[dcV s p c, .int .i64 n] w fun e w' => e = .returned (.tuple #[dcV ⟨#[]⟩ 0 false, .int .i64 1]) ∧ Below w.heap.size w w' := by
  have VV := fun W => rvald_no hs h W
  unfold dcV at *
  go_enter Tryd.func13, Tryd.ntmps13
  go_wp2_with fail
  refine (VV _).mono ?_
  rintro e w1 ⟨rfl, hb1⟩
  have HT1 : Hid (OneR w w1 s p c) := (OneR.start w s p c).step hb1
  clear hb1
  obtain ⟨_, _, a01, a11, a21, r01, r11, r21, fr1⟩ := HT1.out
  go_wp2
  refine bodyPost_ret (v := .tuple #[.agg #[.string ⟨#[]⟩, .int .i64 0, .bool false], .int .i64 1]) (by simp [results, Tryd.results13, go_sem, *]) rfl ⟨rfl, ?_⟩
  exact (((HT1.out.bel.setCell (by simp) _).setCell (by simp) _).setCell (by simp) _)

set_option maxRecDepth 100000 in
set_option maxHeartbeats 1000000 in
theorem rround_neg {s : ByteArray} {p : Int} {c : Bool} {n : Int} (h : VD s p c) (hn : n < 0) (w : World) :
    Calls Tryd.prog 13 #[dcV s p c, .int .i64 n] w fun e w' => e = .returned (.tuple #[dcV ⟨#[]⟩ 0 false, .int .i64 1]) ∧ Below w.heap.size w w' := by
  have VV := fun W => rvald_yes h W
  clear h
  unfold dcV at *
  go_enter Tryd.func13, Tryd.ntmps13
  go_wp2_with fail
  refine (VV _).mono ?_
  rintro e w1 ⟨rfl, hb1⟩
  have HT1 : Hid (OneR w w1 s p c) := (OneR.start w s p c).step hb1
  clear hb1
  obtain ⟨_, _, a01, a11, a21, r01, r11, r21, fr1⟩ := HT1.out
  go_wp2
  refine bodyPost_ret (v := .tuple #[.agg #[.string ⟨#[]⟩, .int .i64 0, .bool false], .int .i64 1]) (by simp [results, Tryd.results13, go_sem, *]) rfl ⟨rfl, ?_⟩
  exact (((HT1.out.bel.setCell (by simp) _).setCell (by simp) _).setCell (by simp) _)

set_option maxRecDepth 100000 in
set_option maxHeartbeats 1000000 in
theorem rround_many {s : ByteArray} {p : Int} {c : Bool} {n : Int} (h : VD s p c) (hn : 800 < n) (w : World) :
    Calls Tryd.prog 13 #[dcV s p c, .int .i64 n] w fun e w' => e = .returned (.tuple #[dcV ⟨#[]⟩ 0 false, .int .i64 1]) ∧ Below w.heap.size w w' := by
  have n0 : ¬ n < 0 := by omega
  have VV := fun W => rvald_yes h W
  clear h
  unfold dcV at *
  go_enter Tryd.func13, Tryd.ntmps13
  go_wp2_with fail
  refine (VV _).mono ?_
  rintro e w1 ⟨rfl, hb1⟩
  have HT1 : Hid (OneR w w1 s p c) := (OneR.start w s p c).step hb1
  clear hb1
  obtain ⟨_, _, a01, a11, a21, r01, r11, r21, fr1⟩ := HT1.out
  go_wp2
  refine bodyPost_ret (v := .tuple #[.agg #[.string ⟨#[]⟩, .int .i64 0, .bool false], .int .i64 1]) (by simp [results, Tryd.results13, go_sem, *]) rfl ⟨rfl, ?_⟩
  exact (((HT1.out.bel.setCell (by simp) _).setCell (by simp) _).setCell (by simp) _)

set_option maxRecDepth 100000 in
set_option maxHeartbeats 1000000 in
theorem rround_cut {s : ByteArray} {p : Int} {n : Int} (h : VD s p true) (n0 : ¬ n < 0) (n8 : ¬ 800 < n) (hn : (s.size : Int) ≤ n) (w : World) :
    Calls Tryd.prog 13 #[dcV s p true, .int .i64 n] w fun e w' => e = .returned (.tuple #[dcV ⟨#[]⟩ 0 false, .int .i64 1]) ∧ Below w.heap.size w w' := by
  have VV := fun W => rvald_yes h W
  clear h
  unfold dcV at *
  go_enter Tryd.func13, Tryd.ntmps13
  go_wp2_with fail
  refine (VV _).mono ?_
  rintro e w1 ⟨rfl, hb1⟩
  have HT1 : Hid (OneR w w1 s p true) := (OneR.start w s p true).step hb1
  clear hb1
  obtain ⟨_, _, a01, a11, a21, r01, r11, r21, fr1⟩ := HT1.out
  go_wp2
  refine bodyPost_ret (v := .tuple #[.agg #[.string ⟨#[]⟩, .int .i64 0, .bool false], .int .i64 1]) (by simp [results, Tryd.results13, go_sem, *]) rfl ⟨rfl, ?_⟩
  exact (((HT1.out.bel.setCell (by simp) _).setCell (by simp) _).setCell (by simp) _)

set_option maxRecDepth 100000 in
set_option maxHeartbeats 1000000 in
theorem rround_off {s : ByteArray} {p : Int} {n : Int} (h : VD s p false) (n0 : ¬ n < 0) (n8 : ¬ 800 < n) (hn : (s.size : Int) ≤ n) (w : World) :
    Calls Tryd.prog 13 #[dcV s p false, .int .i64 n] w fun e w' => e = .returned (.tuple #[dcV s p false, .int .i64 0]) ∧ Below w.heap.size w w' := by
  have VV := fun W => rvald_yes h W
  clear h
  unfold dcV at *
  go_enter Tryd.func13, Tryd.ntmps13
  go_wp2_with fail
  refine (VV _).mono ?_
  rintro e w1 ⟨rfl, hb1⟩
  have HT1 : Hid (OneR w w1 s p false) := (OneR.start w s p false).step hb1
  clear hb1
  obtain ⟨_, _, a01, a11, a21, r01, r11, r21, fr1⟩ := HT1.out
  go_wp2
  refine bodyPost_ret (v := .tuple #[.agg #[.string s, .int .i64 p, .bool false], .int .i64 0]) (by simp [results, Tryd.results13, go_sem, *]) rfl ⟨rfl, ?_⟩
  exact (((HT1.out.bel.setCell (by simp) _).setCell (by simp) _).setCell (by simp) _)

end Go.Proofs.YtladeppjccfbhaaDoor
