/-
  The document's Prefix, path by path: a plus ahead.
-/
import Derived.Test.YtjgdbphhhplifaaDoorScXh
namespace Go.Proofs.YtjgdbphhhplifaaDoor
open Go.RowKit

set_option maxRecDepth 100000 in
set_option maxHeartbeats 4000000 in
theorem rp_p_infty (s : ByteArray)  (w : World)
    (A0 : (∀ W, Calls Tryd.prog 26 #[.string s, .int .i64 0] W fun e w' => e = .returned (.int .u8 43) ∧ w' = W))
    (WIN : (∀ W, Calls Tryd.prog 27 #[.string s, .int .i64 1, .string ⟨#[105, 110, 102, 105, 110, 105, 116, 121]⟩] W fun e w' => e = .returned (.bool true) ∧ Below W.heap.size W w'))
    : Calls Tryd.prog 11 #[.string s] w fun e w' => e = .returned (.tuple #[agP false 3 ⟨#[]⟩ 0 false 0 0 false, .int .i64 9, .int .i64 0]) ∧ Below w.heap.size w w' := by
  have HQ0 : Hid (QW w ((w.alloc (.cells zeroP 26)).alloc (.cells (boxQ false 0) 26)) false 0) := QW.start w false
  unfold zeroP boxQ at HQ0
  go_enter Tryd.func11, Tryd.ntmps11
  go_wp2_with fail
  refine (A0 _).mono ?_
  rintro o wx ⟨rfl, rfl⟩
  go_wp2_with fail
  refine (A0 _).mono ?_
  rintro o wx ⟨rfl, rfl⟩
  go_wp2_with fail
  refine (WIN _).mono ?_
  rintro o w1 ⟨rfl, b1⟩
  have HQ1 : Hid (QW w w1 false 0) := HQ0.out.step b1
  clear b1
  obtain ⟨_, sz, pp, pf, rr, fr⟩ := HQ1.out
  have p0 := pp 0
  have p1 := pp 1
  have p2 := pp 2
  have p3 := pp 3
  have p4 := pp 4
  have p5 := pp 5
  have p6 := pp 6
  have p7 := pp 7
  have r0 := rr 0
  have r1 := rr 1
  have r2 := rr 2
  have r3 := rr 3
  have r4 := rr 4
  have r5 := rr 5
  have r6 := rr 6
  have r7 := rr 7
  simp only [zeroP, boxQ] at p0 p1 p2 p3 p4 p5 p6 p7 r0 r1 r2 r3 r4 r5 r6 r7
  clear pp rr
  go_wp2
  refine bodyPost_ret (v := .tuple #[agP false 3 ⟨#[]⟩ 0 false 0 0 false, .int .i64 9, .int .i64 0]) (by simp [results, Tryd.results11, go_sem, agP, *]) rfl ⟨rfl, ?_⟩
  iterate 8 (refine Below.setCell ?_ qw_le _)
  refine Below.setCell ?_ set_le _
  exact HQ1.out.bel
set_option maxRecDepth 100000 in
set_option maxHeartbeats 4000000 in
theorem rp_p_inf (s : ByteArray)  (w : World)
    (A0 : (∀ W, Calls Tryd.prog 26 #[.string s, .int .i64 0] W fun e w' => e = .returned (.int .u8 43) ∧ w' = W))
    (WIN : (∀ W, Calls Tryd.prog 27 #[.string s, .int .i64 1, .string ⟨#[105, 110, 102, 105, 110, 105, 116, 121]⟩] W fun e w' => e = .returned (.bool false) ∧ Below W.heap.size W w'))
    (WIF : (∀ W, Calls Tryd.prog 27 #[.string s, .int .i64 1, .string ⟨#[105, 110, 102]⟩] W fun e w' => e = .returned (.bool true) ∧ Below W.heap.size W w'))
    : Calls Tryd.prog 11 #[.string s] w fun e w' => e = .returned (.tuple #[agP false 3 ⟨#[]⟩ 0 false 0 0 false, .int .i64 4, .int .i64 0]) ∧ Below w.heap.size w w' := by
  have HQ0 : Hid (QW w ((w.alloc (.cells zeroP 26)).alloc (.cells (boxQ false 0) 26)) false 0) := QW.start w false
  unfold zeroP boxQ at HQ0
  go_enter Tryd.func11, Tryd.ntmps11
  go_wp2_with fail
  refine (A0 _).mono ?_
  rintro o wx ⟨rfl, rfl⟩
  go_wp2_with fail
  refine (A0 _).mono ?_
  rintro o wx ⟨rfl, rfl⟩
  go_wp2_with fail
  refine (WIN _).mono ?_
  rintro o w1 ⟨rfl, b1⟩
  have HQ1 : Hid (QW w w1 false 0) := HQ0.out.step b1
  clear b1
  go_wp2_with fail
  refine (WIF _).mono ?_
  rintro o w2 ⟨rfl, b2⟩
  have HQ2 : Hid (QW w w2 false 0) := HQ1.out.step b2
  clear b2
  obtain ⟨_, sz, pp, pf, rr, fr⟩ := HQ2.out
  have p0 := pp 0
  have p1 := pp 1
  have p2 := pp 2
  have p3 := pp 3
  have p4 := pp 4
  have p5 := pp 5
  have p6 := pp 6
  have p7 := pp 7
  have r0 := rr 0
  have r1 := rr 1
  have r2 := rr 2
  have r3 := rr 3
  have r4 := rr 4
  have r5 := rr 5
  have r6 := rr 6
  have r7 := rr 7
  simp only [zeroP, boxQ] at p0 p1 p2 p3 p4 p5 p6 p7 r0 r1 r2 r3 r4 r5 r6 r7
  clear pp rr
  go_wp2
  refine bodyPost_ret (v := .tuple #[agP false 3 ⟨#[]⟩ 0 false 0 0 false, .int .i64 4, .int .i64 0]) (by simp [results, Tryd.results11, go_sem, agP, *]) rfl ⟨rfl, ?_⟩
  iterate 8 (refine Below.setCell ?_ qw_le _)
  refine Below.setCell ?_ set_le _
  exact HQ2.out.bel
set_option maxRecDepth 100000 in
set_option maxHeartbeats 4000000 in
theorem rp_p_hexok (s : ByteArray) (x2 : Int) (eh : Nat) (hW hP : ByteArray) (x3 : Int) (X1 : Int) (e1 : Int) (v0 : Bool) (v1 : Int) (v2 : ByteArray) (v3 : Int) (v4 : Bool) (v5 v6 : Int) (v7 : Bool) (w : World)
    (_heh : eh ≤ 1048580)
    (A0 : (∀ W, Calls Tryd.prog 26 #[.string s, .int .i64 0] W fun e w' => e = .returned (.int .u8 43) ∧ w' = W))
    (WIN : (∀ W, Calls Tryd.prog 27 #[.string s, .int .i64 1, .string ⟨#[105, 110, 102, 105, 110, 105, 116, 121]⟩] W fun e w' => e = .returned (.bool false) ∧ Below W.heap.size W w'))
    (WIF : (∀ W, Calls Tryd.prog 27 #[.string s, .int .i64 1, .string ⟨#[105, 110, 102]⟩] W fun e w' => e = .returned (.bool false) ∧ Below W.heap.size W w'))
    (AT1 : (∀ W, Calls Tryd.prog 26 #[.string s, .int .i64 1] W fun e w' => e = .returned (.int .u8 48) ∧ w' = W))
    (AT2 : (∀ W, Calls Tryd.prog 26 #[.string s, .int .i64 2] W fun e w' => e = .returned (.int .u8 x2) ∧ w' = W))
    (SM2 : (∀ W, Calls Tryd.prog 28 #[.int .u8 x2] W fun e w' => e = .returned (.int .u8 120) ∧ w' = W))
    (MH : (∀ W, Calls Tryd.prog 29 #[.string s, .int .i64 3, .bool true] W fun e w' => e = .returned (.tuple #[.string hW, .string hP, .int .i64 (eh : Int), .bool true]) ∧ Below W.heap.size W w'))
    (AT3 : (∀ W, Calls Tryd.prog 26 #[.string s, .int .i64 (eh : Int)] W fun e w' => e = .returned (.int .u8 x3) ∧ w' = W))
    (SM3 : (∀ W, Calls Tryd.prog 28 #[.int .u8 x3] W fun e w' => e = .returned (.int .u8 112) ∧ w' = W))
    (EX1 : (∀ W, Calls Tryd.prog 30 #[.string s, .int .i64 ((eh : Int) + 1)] W fun e w' => e = .returned (.tuple #[.int .i64 X1, .int .i64 e1, .bool true]) ∧ Below W.heap.size W w'))
    (HX : (∀ W, Calls Tryd.prog 31 #[.string hW, .string hP, .int .i64 X1] W fun e w' => e = .returned (.agg #[.bool v0, .int .i64 v1, .string v2, .int .i64 v3, .bool v4, .int .u64 v5, .int .i64 v6, .bool v7]) ∧ Below W.heap.size W w'))
    : Calls Tryd.prog 11 #[.string s] w fun e w' => e = .returned (.tuple #[agP false v1 v2 v3 v4 v5 v6 v7, .int .i64 e1, .int .i64 0]) ∧ Below w.heap.size w w' := by
  have HQ0 : Hid (QW w ((w.alloc (.cells zeroP 26)).alloc (.cells (boxQ false 0) 26)) false 0) := QW.start w false
  unfold zeroP boxQ at HQ0
  go_enter Tryd.func11, Tryd.ntmps11
  go_wp2_with fail
  refine (A0 _).mono ?_
  rintro o wx ⟨rfl, rfl⟩
  go_wp2_with fail
  refine (A0 _).mono ?_
  rintro o wx ⟨rfl, rfl⟩
  go_wp2_with fail
  refine (WIN _).mono ?_
  rintro o w1 ⟨rfl, b1⟩
  have HQ1 : Hid (QW w w1 false 0) := HQ0.out.step b1
  clear b1
  go_wp2_with fail
  refine (WIF _).mono ?_
  rintro o w2 ⟨rfl, b2⟩
  have HQ2 : Hid (QW w w2 false 0) := HQ1.out.step b2
  clear b2
  go_wp2_with fail
  refine (AT1 _).mono ?_
  rintro o wx ⟨rfl, rfl⟩
  go_wp2_with fail
  refine (AT2 _).mono ?_
  rintro o wx ⟨rfl, rfl⟩
  go_wp2_with fail
  refine (SM2 _).mono ?_
  rintro o wx ⟨rfl, rfl⟩
  go_wp2_with fail
  refine (MH _).mono ?_
  rintro o w3 ⟨rfl, b3⟩
  have HQ3 : Hid (QW w w3 false 0) := HQ2.out.step b3
  clear b3
  go_wp2_with fail
  refine (AT3 _).mono ?_
  rintro o wx ⟨rfl, rfl⟩
  go_wp2_with fail
  refine (SM3 _).mono ?_
  rintro o wx ⟨rfl, rfl⟩
  go_wp2_with fail
  refine (EX1 _).mono ?_
  rintro o w4 ⟨rfl, b4⟩
  have HQ4 : Hid (QW w w4 false 0) := HQ3.out.step b4
  clear b4
  go_wp2_with fail
  refine (HX _).mono ?_
  rintro o w5 ⟨rfl, b5⟩
  have HQ5 : Hid (QW w w5 false 0) := HQ4.out.step b5
  clear b5
  obtain ⟨_, sz, pp, pf, rr, fr⟩ := HQ5.out
  have p0 := pp 0
  have p1 := pp 1
  have p2 := pp 2
  have p3 := pp 3
  have p4 := pp 4
  have p5 := pp 5
  have p6 := pp 6
  have p7 := pp 7
  have r0 := rr 0
  have r1 := rr 1
  have r2 := rr 2
  have r3 := rr 3
  have r4 := rr 4
  have r5 := rr 5
  have r6 := rr 6
  have r7 := rr 7
  simp only [zeroP, boxQ] at p0 p1 p2 p3 p4 p5 p6 p7 r0 r1 r2 r3 r4 r5 r6 r7
  clear pp rr
  have sz0 : w.heap.size < w5.heap.size := by omega
  go_wp2
  refine bodyPost_ret (v := .tuple #[agP false v1 v2 v3 v4 v5 v6 v7, .int .i64 e1, .int .i64 0]) (by simp [results, Tryd.results11, go_sem, agP, *]) rfl ⟨rfl, ?_⟩
  refine Below.alloc ?_ (by simp; omega) _
  iterate 8 (refine Below.setCell ?_ qw_le _)
  exact HQ5.out.bel
set_option maxRecDepth 100000 in
set_option maxHeartbeats 4000000 in
theorem rp_p_xa_noe (s : ByteArray) (x2 : Int) (eh : Nat) (hW hP : ByteArray) (ed : Nat) (dW dP : ByteArray) (x4 : Int) (y4 : Int) (dd : ByteArray) (dp : Int) (dc : Bool) (w : World)
    (_heh : eh ≤ 1048580)
    (_hed : ed ≤ 1048580)
    (hy4 : (y4 == 101) = false)
    (A0 : (∀ W, Calls Tryd.prog 26 #[.string s, .int .i64 0] W fun e w' => e = .returned (.int .u8 43) ∧ w' = W))
    (WIN : (∀ W, Calls Tryd.prog 27 #[.string s, .int .i64 1, .string ⟨#[105, 110, 102, 105, 110, 105, 116, 121]⟩] W fun e w' => e = .returned (.bool false) ∧ Below W.heap.size W w'))
    (WIF : (∀ W, Calls Tryd.prog 27 #[.string s, .int .i64 1, .string ⟨#[105, 110, 102]⟩] W fun e w' => e = .returned (.bool false) ∧ Below W.heap.size W w'))
    (AT1 : (∀ W, Calls Tryd.prog 26 #[.string s, .int .i64 1] W fun e w' => e = .returned (.int .u8 48) ∧ w' = W))
    (AT2 : (∀ W, Calls Tryd.prog 26 #[.string s, .int .i64 2] W fun e w' => e = .returned (.int .u8 x2) ∧ w' = W))
    (SM2 : (∀ W, Calls Tryd.prog 28 #[.int .u8 x2] W fun e w' => e = .returned (.int .u8 120) ∧ w' = W))
    (MH : (∀ W, Calls Tryd.prog 29 #[.string s, .int .i64 3, .bool true] W fun e w' => e = .returned (.tuple #[.string hW, .string hP, .int .i64 (eh : Int), .bool false]) ∧ Below W.heap.size W w'))
    (MD : (∀ W, Calls Tryd.prog 29 #[.string s, .int .i64 1, .bool false] W fun e w' => e = .returned (.tuple #[.string dW, .string dP, .int .i64 (ed : Int), .bool true]) ∧ Below W.heap.size W w'))
    (AT4 : (∀ W, Calls Tryd.prog 26 #[.string s, .int .i64 (ed : Int)] W fun e w' => e = .returned (.int .u8 x4) ∧ w' = W))
    (SM4 : (∀ W, Calls Tryd.prog 28 #[.int .u8 x4] W fun e w' => e = .returned (.int .u8 y4) ∧ w' = W))
    (DE : (∀ W, Calls Tryd.prog 16 #[.string dW, .string dP, .int .i64 0] W fun e w' => e = .returned (.agg #[.string dd, .int .i64 dp, .bool dc]) ∧ Below W.heap.size W w'))
    : Calls Tryd.prog 11 #[.string s] w fun e w' => e = .returned (.tuple #[agP false 1 dd dp dc 0 0 false, .int .i64 (ed : Int), .int .i64 0]) ∧ Below w.heap.size w w' := by
  have HQ0 : Hid (QW w ((w.alloc (.cells zeroP 26)).alloc (.cells (boxQ false 0) 26)) false 0) := QW.start w false
  unfold zeroP boxQ at HQ0
  go_enter Tryd.func11, Tryd.ntmps11
  go_wp2_with fail
  refine (A0 _).mono ?_
  rintro o wx ⟨rfl, rfl⟩
  go_wp2_with fail
  refine (A0 _).mono ?_
  rintro o wx ⟨rfl, rfl⟩
  go_wp2_with fail
  refine (WIN _).mono ?_
  rintro o w1 ⟨rfl, b1⟩
  have HQ1 : Hid (QW w w1 false 0) := HQ0.out.step b1
  clear b1
  go_wp2_with fail
  refine (WIF _).mono ?_
  rintro o w2 ⟨rfl, b2⟩
  have HQ2 : Hid (QW w w2 false 0) := HQ1.out.step b2
  clear b2
  go_wp2_with fail
  refine (AT1 _).mono ?_
  rintro o wx ⟨rfl, rfl⟩
  go_wp2_with fail
  refine (AT2 _).mono ?_
  rintro o wx ⟨rfl, rfl⟩
  go_wp2_with fail
  refine (SM2 _).mono ?_
  rintro o wx ⟨rfl, rfl⟩
  go_wp2_with fail
  refine (MH _).mono ?_
  rintro o w3 ⟨rfl, b3⟩
  have HQ3 : Hid (QW w w3 false 0) := HQ2.out.step b3
  clear b3
  go_wp2_with fail
  refine (MD _).mono ?_
  rintro o w4 ⟨rfl, b4⟩
  have HQ4 : Hid (QW w w4 false 0) := HQ3.out.step b4
  clear b4
  go_wp2_with fail
  refine (AT4 _).mono ?_
  rintro o wx ⟨rfl, rfl⟩
  go_wp2_with fail
  refine (SM4 _).mono ?_
  rintro o wx ⟨rfl, rfl⟩
  obtain ⟨_, sz, pp, pf, rr, fr⟩ := HQ4.out
  have p0 := pp 0
  have p1 := pp 1
  have p2 := pp 2
  have p3 := pp 3
  have p4 := pp 4
  have p5 := pp 5
  have p6 := pp 6
  have p7 := pp 7
  have r0 := rr 0
  have r1 := rr 1
  have r2 := rr 2
  have r3 := rr 3
  have r4 := rr 4
  have r5 := rr 5
  have r6 := rr 6
  have r7 := rr 7
  simp only [zeroP, boxQ] at p0 p1 p2 p3 p4 p5 p6 p7 r0 r1 r2 r3 r4 r5 r6 r7
  clear pp rr
  go_wp2_with fail
  refine (DE _).mono ?_
  rintro o w5 ⟨rfl, b5⟩
  have HQ5 : Hid (QW w w5 false 1) := (HQ4.out.kind 1).step b5
  clear b5
  clear sz pf fr p0 p1 p2 p3 p4 p5 p6 p7 r0 r1 r2 r3 r4 r5 r6 r7
  obtain ⟨_, sz, pp, pf, rr, fr⟩ := HQ5.out
  have p0 := pp 0
  have p1 := pp 1
  have p2 := pp 2
  have p3 := pp 3
  have p4 := pp 4
  have p5 := pp 5
  have p6 := pp 6
  have p7 := pp 7
  have r0 := rr 0
  have r1 := rr 1
  have r2 := rr 2
  have r3 := rr 3
  have r4 := rr 4
  have r5 := rr 5
  have r6 := rr 6
  have r7 := rr 7
  simp only [zeroP, boxQ] at p0 p1 p2 p3 p4 p5 p6 p7 r0 r1 r2 r3 r4 r5 r6 r7
  clear pp rr
  go_wp2
  refine bodyPost_ret (v := .tuple #[agP false 1 dd dp dc 0 0 false, .int .i64 (ed : Int), .int .i64 0]) (by simp [results, Tryd.results11, go_sem, agP, *]) rfl ⟨rfl, ?_⟩
  iterate 8 (refine Below.setCell ?_ qw_le _)
  iterate 3 (refine Below.setCell ?_ set_le _)
  exact HQ5.out.bel
set_option maxRecDepth 100000 in
set_option maxHeartbeats 4000000 in
theorem rp_p_xb_noe (s : ByteArray) (x2 : Int) (eh : Nat) (hW hP : ByteArray) (x3 : Int) (y3 : Int) (ed : Nat) (dW dP : ByteArray) (x4 : Int) (y4 : Int) (dd : ByteArray) (dp : Int) (dc : Bool) (w : World)
    (_heh : eh ≤ 1048580)
    (hy3 : (y3 == 112) = false)
    (_hed : ed ≤ 1048580)
    (hy4 : (y4 == 101) = false)
    (A0 : (∀ W, Calls Tryd.prog 26 #[.string s, .int .i64 0] W fun e w' => e = .returned (.int .u8 43) ∧ w' = W))
    (WIN : (∀ W, Calls Tryd.prog 27 #[.string s, .int .i64 1, .string ⟨#[105, 110, 102, 105, 110, 105, 116, 121]⟩] W fun e w' => e = .returned (.bool false) ∧ Below W.heap.size W w'))
    (WIF : (∀ W, Calls Tryd.prog 27 #[.string s, .int .i64 1, .string ⟨#[105, 110, 102]⟩] W fun e w' => e = .returned (.bool false) ∧ Below W.heap.size W w'))
    (AT1 : (∀ W, Calls Tryd.prog 26 #[.string s, .int .i64 1] W fun e w' => e = .returned (.int .u8 48) ∧ w' = W))
    (AT2 : (∀ W, Calls Tryd.prog 26 #[.string s, .int .i64 2] W fun e w' => e = .returned (.int .u8 x2) ∧ w' = W))
    (SM2 : (∀ W, Calls Tryd.prog 28 #[.int .u8 x2] W fun e w' => e = .returned (.int .u8 120) ∧ w' = W))
    (MH : (∀ W, Calls Tryd.prog 29 #[.string s, .int .i64 3, .bool true] W fun e w' => e = .returned (.tuple #[.string hW, .string hP, .int .i64 (eh : Int), .bool true]) ∧ Below W.heap.size W w'))
    (AT3 : (∀ W, Calls Tryd.prog 26 #[.string s, .int .i64 (eh : Int)] W fun e w' => e = .returned (.int .u8 x3) ∧ w' = W))
    (SM3 : (∀ W, Calls Tryd.prog 28 #[.int .u8 x3] W fun e w' => e = .returned (.int .u8 y3) ∧ w' = W))
    (MD : (∀ W, Calls Tryd.prog 29 #[.string s, .int .i64 1, .bool false] W fun e w' => e = .returned (.tuple #[.string dW, .string dP, .int .i64 (ed : Int), .bool true]) ∧ Below W.heap.size W w'))
    (AT4 : (∀ W, Calls Tryd.prog 26 #[.string s, .int .i64 (ed : Int)] W fun e w' => e = .returned (.int .u8 x4) ∧ w' = W))
    (SM4 : (∀ W, Calls Tryd.prog 28 #[.int .u8 x4] W fun e w' => e = .returned (.int .u8 y4) ∧ w' = W))
    (DE : (∀ W, Calls Tryd.prog 16 #[.string dW, .string dP, .int .i64 0] W fun e w' => e = .returned (.agg #[.string dd, .int .i64 dp, .bool dc]) ∧ Below W.heap.size W w'))
    : Calls Tryd.prog 11 #[.string s] w fun e w' => e = .returned (.tuple #[agP false 1 dd dp dc 0 0 false, .int .i64 (ed : Int), .int .i64 0]) ∧ Below w.heap.size w w' := by
  have HQ0 : Hid (QW w ((w.alloc (.cells zeroP 26)).alloc (.cells (boxQ false 0) 26)) false 0) := QW.start w false
  unfold zeroP boxQ at HQ0
  go_enter Tryd.func11, Tryd.ntmps11
  go_wp2_with fail
  refine (A0 _).mono ?_
  rintro o wx ⟨rfl, rfl⟩
  go_wp2_with fail
  refine (A0 _).mono ?_
  rintro o wx ⟨rfl, rfl⟩
  go_wp2_with fail
  refine (WIN _).mono ?_
  rintro o w1 ⟨rfl, b1⟩
  have HQ1 : Hid (QW w w1 false 0) := HQ0.out.step b1
  clear b1
  go_wp2_with fail
  refine (WIF _).mono ?_
  rintro o w2 ⟨rfl, b2⟩
  have HQ2 : Hid (QW w w2 false 0) := HQ1.out.step b2
  clear b2
  go_wp2_with fail
  refine (AT1 _).mono ?_
  rintro o wx ⟨rfl, rfl⟩
  go_wp2_with fail
  refine (AT2 _).mono ?_
  rintro o wx ⟨rfl, rfl⟩
  go_wp2_with fail
  refine (SM2 _).mono ?_
  rintro o wx ⟨rfl, rfl⟩
  go_wp2_with fail
  refine (MH _).mono ?_
  rintro o w3 ⟨rfl, b3⟩
  have HQ3 : Hid (QW w w3 false 0) := HQ2.out.step b3
  clear b3
  go_wp2_with fail
  refine (AT3 _).mono ?_
  rintro o wx ⟨rfl, rfl⟩
  go_wp2_with fail
  refine (SM3 _).mono ?_
  rintro o wx ⟨rfl, rfl⟩
  go_wp2_with fail
  refine (MD _).mono ?_
  rintro o w4 ⟨rfl, b4⟩
  have HQ4 : Hid (QW w w4 false 0) := HQ3.out.step b4
  clear b4
  go_wp2_with fail
  refine (AT4 _).mono ?_
  rintro o wx ⟨rfl, rfl⟩
  go_wp2_with fail
  refine (SM4 _).mono ?_
  rintro o wx ⟨rfl, rfl⟩
  obtain ⟨_, sz, pp, pf, rr, fr⟩ := HQ4.out
  have p0 := pp 0
  have p1 := pp 1
  have p2 := pp 2
  have p3 := pp 3
  have p4 := pp 4
  have p5 := pp 5
  have p6 := pp 6
  have p7 := pp 7
  have r0 := rr 0
  have r1 := rr 1
  have r2 := rr 2
  have r3 := rr 3
  have r4 := rr 4
  have r5 := rr 5
  have r6 := rr 6
  have r7 := rr 7
  simp only [zeroP, boxQ] at p0 p1 p2 p3 p4 p5 p6 p7 r0 r1 r2 r3 r4 r5 r6 r7
  clear pp rr
  go_wp2_with fail
  refine (DE _).mono ?_
  rintro o w5 ⟨rfl, b5⟩
  have HQ5 : Hid (QW w w5 false 1) := (HQ4.out.kind 1).step b5
  clear b5
  clear sz pf fr p0 p1 p2 p3 p4 p5 p6 p7 r0 r1 r2 r3 r4 r5 r6 r7
  obtain ⟨_, sz, pp, pf, rr, fr⟩ := HQ5.out
  have p0 := pp 0
  have p1 := pp 1
  have p2 := pp 2
  have p3 := pp 3
  have p4 := pp 4
  have p5 := pp 5
  have p6 := pp 6
  have p7 := pp 7
  have r0 := rr 0
  have r1 := rr 1
  have r2 := rr 2
  have r3 := rr 3
  have r4 := rr 4
  have r5 := rr 5
  have r6 := rr 6
  have r7 := rr 7
  simp only [zeroP, boxQ] at p0 p1 p2 p3 p4 p5 p6 p7 r0 r1 r2 r3 r4 r5 r6 r7
  clear pp rr
  go_wp2
  refine bodyPost_ret (v := .tuple #[agP false 1 dd dp dc 0 0 false, .int .i64 (ed : Int), .int .i64 0]) (by simp [results, Tryd.results11, go_sem, agP, *]) rfl ⟨rfl, ?_⟩
  iterate 8 (refine Below.setCell ?_ qw_le _)
  iterate 3 (refine Below.setCell ?_ set_le _)
  exact HQ5.out.bel
set_option maxRecDepth 100000 in
set_option maxHeartbeats 4000000 in
theorem rp_p_xc_noe (s : ByteArray) (x2 : Int) (eh : Nat) (hW hP : ByteArray) (x3 : Int) (X1 : Int) (e1 : Int) (ed : Nat) (dW dP : ByteArray) (x4 : Int) (y4 : Int) (dd : ByteArray) (dp : Int) (dc : Bool) (w : World)
    (_heh : eh ≤ 1048580)
    (_hed : ed ≤ 1048580)
    (hy4 : (y4 == 101) = false)
    (A0 : (∀ W, Calls Tryd.prog 26 #[.string s, .int .i64 0] W fun e w' => e = .returned (.int .u8 43) ∧ w' = W))
    (WIN : (∀ W, Calls Tryd.prog 27 #[.string s, .int .i64 1, .string ⟨#[105, 110, 102, 105, 110, 105, 116, 121]⟩] W fun e w' => e = .returned (.bool false) ∧ Below W.heap.size W w'))
    (WIF : (∀ W, Calls Tryd.prog 27 #[.string s, .int .i64 1, .string ⟨#[105, 110, 102]⟩] W fun e w' => e = .returned (.bool false) ∧ Below W.heap.size W w'))
    (AT1 : (∀ W, Calls Tryd.prog 26 #[.string s, .int .i64 1] W fun e w' => e = .returned (.int .u8 48) ∧ w' = W))
    (AT2 : (∀ W, Calls Tryd.prog 26 #[.string s, .int .i64 2] W fun e w' => e = .returned (.int .u8 x2) ∧ w' = W))
    (SM2 : (∀ W, Calls Tryd.prog 28 #[.int .u8 x2] W fun e w' => e = .returned (.int .u8 120) ∧ w' = W))
    (MH : (∀ W, Calls Tryd.prog 29 #[.string s, .int .i64 3, .bool true] W fun e w' => e = .returned (.tuple #[.string hW, .string hP, .int .i64 (eh : Int), .bool true]) ∧ Below W.heap.size W w'))
    (AT3 : (∀ W, Calls Tryd.prog 26 #[.string s, .int .i64 (eh : Int)] W fun e w' => e = .returned (.int .u8 x3) ∧ w' = W))
    (SM3 : (∀ W, Calls Tryd.prog 28 #[.int .u8 x3] W fun e w' => e = .returned (.int .u8 112) ∧ w' = W))
    (EX1 : (∀ W, Calls Tryd.prog 30 #[.string s, .int .i64 ((eh : Int) + 1)] W fun e w' => e = .returned (.tuple #[.int .i64 X1, .int .i64 e1, .bool false]) ∧ Below W.heap.size W w'))
    (MD : (∀ W, Calls Tryd.prog 29 #[.string s, .int .i64 1, .bool false] W fun e w' => e = .returned (.tuple #[.string dW, .string dP, .int .i64 (ed : Int), .bool true]) ∧ Below W.heap.size W w'))
    (AT4 : (∀ W, Calls Tryd.prog 26 #[.string s, .int .i64 (ed : Int)] W fun e w' => e = .returned (.int .u8 x4) ∧ w' = W))
    (SM4 : (∀ W, Calls Tryd.prog 28 #[.int .u8 x4] W fun e w' => e = .returned (.int .u8 y4) ∧ w' = W))
    (DE : (∀ W, Calls Tryd.prog 16 #[.string dW, .string dP, .int .i64 0] W fun e w' => e = .returned (.agg #[.string dd, .int .i64 dp, .bool dc]) ∧ Below W.heap.size W w'))
    : Calls Tryd.prog 11 #[.string s] w fun e w' => e = .returned (.tuple #[agP false 1 dd dp dc 0 0 false, .int .i64 (ed : Int), .int .i64 0]) ∧ Below w.heap.size w w' := by
  have HQ0 : Hid (QW w ((w.alloc (.cells zeroP 26)).alloc (.cells (boxQ false 0) 26)) false 0) := QW.start w false
  unfold zeroP boxQ at HQ0
  go_enter Tryd.func11, Tryd.ntmps11
  go_wp2_with fail
  refine (A0 _).mono ?_
  rintro o wx ⟨rfl, rfl⟩
  go_wp2_with fail
  refine (A0 _).mono ?_
  rintro o wx ⟨rfl, rfl⟩
  go_wp2_with fail
  refine (WIN _).mono ?_
  rintro o w1 ⟨rfl, b1⟩
  have HQ1 : Hid (QW w w1 false 0) := HQ0.out.step b1
  clear b1
  go_wp2_with fail
  refine (WIF _).mono ?_
  rintro o w2 ⟨rfl, b2⟩
  have HQ2 : Hid (QW w w2 false 0) := HQ1.out.step b2
  clear b2
  go_wp2_with fail
  refine (AT1 _).mono ?_
  rintro o wx ⟨rfl, rfl⟩
  go_wp2_with fail
  refine (AT2 _).mono ?_
  rintro o wx ⟨rfl, rfl⟩
  go_wp2_with fail
  refine (SM2 _).mono ?_
  rintro o wx ⟨rfl, rfl⟩
  go_wp2_with fail
  refine (MH _).mono ?_
  rintro o w3 ⟨rfl, b3⟩
  have HQ3 : Hid (QW w w3 false 0) := HQ2.out.step b3
  clear b3
  go_wp2_with fail
  refine (AT3 _).mono ?_
  rintro o wx ⟨rfl, rfl⟩
  go_wp2_with fail
  refine (SM3 _).mono ?_
  rintro o wx ⟨rfl, rfl⟩
  go_wp2_with fail
  refine (EX1 _).mono ?_
  rintro o w4 ⟨rfl, b4⟩
  have HQ4 : Hid (QW w w4 false 0) := HQ3.out.step b4
  clear b4
  go_wp2_with fail
  refine (MD _).mono ?_
  rintro o w5 ⟨rfl, b5⟩
  have HQ5 : Hid (QW w w5 false 0) := HQ4.out.step b5
  clear b5
  go_wp2_with fail
  refine (AT4 _).mono ?_
  rintro o wx ⟨rfl, rfl⟩
  go_wp2_with fail
  refine (SM4 _).mono ?_
  rintro o wx ⟨rfl, rfl⟩
  obtain ⟨_, sz, pp, pf, rr, fr⟩ := HQ5.out
  have p0 := pp 0
  have p1 := pp 1
  have p2 := pp 2
  have p3 := pp 3
  have p4 := pp 4
  have p5 := pp 5
  have p6 := pp 6
  have p7 := pp 7
  have r0 := rr 0
  have r1 := rr 1
  have r2 := rr 2
  have r3 := rr 3
  have r4 := rr 4
  have r5 := rr 5
  have r6 := rr 6
  have r7 := rr 7
  simp only [zeroP, boxQ] at p0 p1 p2 p3 p4 p5 p6 p7 r0 r1 r2 r3 r4 r5 r6 r7
  clear pp rr
  go_wp2_with fail
  refine (DE _).mono ?_
  rintro o w6 ⟨rfl, b6⟩
  have HQ6 : Hid (QW w w6 false 1) := (HQ5.out.kind 1).step b6
  clear b6
  clear sz pf fr p0 p1 p2 p3 p4 p5 p6 p7 r0 r1 r2 r3 r4 r5 r6 r7
  obtain ⟨_, sz, pp, pf, rr, fr⟩ := HQ6.out
  have p0 := pp 0
  have p1 := pp 1
  have p2 := pp 2
  have p3 := pp 3
  have p4 := pp 4
  have p5 := pp 5
  have p6 := pp 6
  have p7 := pp 7
  have r0 := rr 0
  have r1 := rr 1
  have r2 := rr 2
  have r3 := rr 3
  have r4 := rr 4
  have r5 := rr 5
  have r6 := rr 6
  have r7 := rr 7
  simp only [zeroP, boxQ] at p0 p1 p2 p3 p4 p5 p6 p7 r0 r1 r2 r3 r4 r5 r6 r7
  clear pp rr
  go_wp2
  refine bodyPost_ret (v := .tuple #[agP false 1 dd dp dc 0 0 false, .int .i64 (ed : Int), .int .i64 0]) (by simp [results, Tryd.results11, go_sem, agP, *]) rfl ⟨rfl, ?_⟩
  iterate 8 (refine Below.setCell ?_ qw_le _)
  iterate 3 (refine Below.setCell ?_ set_le _)
  exact HQ6.out.bel
set_option maxRecDepth 100000 in
set_option maxHeartbeats 4000000 in
theorem rp_p_na_none (s : ByteArray) (x1 : Int) (ed : Int) (dW dP : ByteArray) (w : World)
    (hx1 : (x1 == 48) = false)
    (A0 : (∀ W, Calls Tryd.prog 26 #[.string s, .int .i64 0] W fun e w' => e = .returned (.int .u8 43) ∧ w' = W))
    (WIN : (∀ W, Calls Tryd.prog 27 #[.string s, .int .i64 1, .string ⟨#[105, 110, 102, 105, 110, 105, 116, 121]⟩] W fun e w' => e = .returned (.bool false) ∧ Below W.heap.size W w'))
    (WIF : (∀ W, Calls Tryd.prog 27 #[.string s, .int .i64 1, .string ⟨#[105, 110, 102]⟩] W fun e w' => e = .returned (.bool false) ∧ Below W.heap.size W w'))
    (AT1 : (∀ W, Calls Tryd.prog 26 #[.string s, .int .i64 1] W fun e w' => e = .returned (.int .u8 x1) ∧ w' = W))
    (MD : (∀ W, Calls Tryd.prog 29 #[.string s, .int .i64 1, .bool false] W fun e w' => e = .returned (.tuple #[.string dW, .string dP, .int .i64 ed, .bool false]) ∧ Below W.heap.size W w'))
    : Calls Tryd.prog 11 #[.string s] w fun e w' => e = .returned (.tuple #[agP false 0 ⟨#[]⟩ 0 false 0 0 false, .int .i64 0, .int .i64 3]) ∧ Below w.heap.size w w' := by
  have HQ0 : Hid (QW w ((w.alloc (.cells zeroP 26)).alloc (.cells (boxQ false 0) 26)) false 0) := QW.start w false
  unfold zeroP boxQ at HQ0
  go_enter Tryd.func11, Tryd.ntmps11
  go_wp2_with fail
  refine (A0 _).mono ?_
  rintro o wx ⟨rfl, rfl⟩
  go_wp2_with fail
  refine (A0 _).mono ?_
  rintro o wx ⟨rfl, rfl⟩
  go_wp2_with fail
  refine (WIN _).mono ?_
  rintro o w1 ⟨rfl, b1⟩
  have HQ1 : Hid (QW w w1 false 0) := HQ0.out.step b1
  clear b1
  go_wp2_with fail
  refine (WIF _).mono ?_
  rintro o w2 ⟨rfl, b2⟩
  have HQ2 : Hid (QW w w2 false 0) := HQ1.out.step b2
  clear b2
  go_wp2_with fail
  refine (AT1 _).mono ?_
  rintro o wx ⟨rfl, rfl⟩
  go_wp2_with fail
  refine (MD _).mono ?_
  rintro o w3 ⟨rfl, b3⟩
  have HQ3 : Hid (QW w w3 false 0) := HQ2.out.step b3
  clear b3
  obtain ⟨_, sz, pp, pf, rr, fr⟩ := HQ3.out
  have p0 := pp 0
  have p1 := pp 1
  have p2 := pp 2
  have p3 := pp 3
  have p4 := pp 4
  have p5 := pp 5
  have p6 := pp 6
  have p7 := pp 7
  have r0 := rr 0
  have r1 := rr 1
  have r2 := rr 2
  have r3 := rr 3
  have r4 := rr 4
  have r5 := rr 5
  have r6 := rr 6
  have r7 := rr 7
  simp only [zeroP, boxQ] at p0 p1 p2 p3 p4 p5 p6 p7 r0 r1 r2 r3 r4 r5 r6 r7
  clear pp rr
  go_wp2
  refine bodyPost_ret (v := .tuple #[agP false 0 ⟨#[]⟩ 0 false 0 0 false, .int .i64 0, .int .i64 3]) (by simp [results, Tryd.results11, go_sem, agP, *]) rfl ⟨rfl, ?_⟩
  iterate 8 (refine Below.setCell ?_ qw_le _)
  exact HQ3.out.bel
set_option maxRecDepth 100000 in
set_option maxHeartbeats 4000000 in
theorem rp_p_na_noe (s : ByteArray) (x1 : Int) (ed : Nat) (dW dP : ByteArray) (x4 : Int) (y4 : Int) (dd : ByteArray) (dp : Int) (dc : Bool) (w : World)
    (hx1 : (x1 == 48) = false)
    (_hed : ed ≤ 1048580)
    (hy4 : (y4 == 101) = false)
    (A0 : (∀ W, Calls Tryd.prog 26 #[.string s, .int .i64 0] W fun e w' => e = .returned (.int .u8 43) ∧ w' = W))
    (WIN : (∀ W, Calls Tryd.prog 27 #[.string s, .int .i64 1, .string ⟨#[105, 110, 102, 105, 110, 105, 116, 121]⟩] W fun e w' => e = .returned (.bool false) ∧ Below W.heap.size W w'))
    (WIF : (∀ W, Calls Tryd.prog 27 #[.string s, .int .i64 1, .string ⟨#[105, 110, 102]⟩] W fun e w' => e = .returned (.bool false) ∧ Below W.heap.size W w'))
    (AT1 : (∀ W, Calls Tryd.prog 26 #[.string s, .int .i64 1] W fun e w' => e = .returned (.int .u8 x1) ∧ w' = W))
    (MD : (∀ W, Calls Tryd.prog 29 #[.string s, .int .i64 1, .bool false] W fun e w' => e = .returned (.tuple #[.string dW, .string dP, .int .i64 (ed : Int), .bool true]) ∧ Below W.heap.size W w'))
    (AT4 : (∀ W, Calls Tryd.prog 26 #[.string s, .int .i64 (ed : Int)] W fun e w' => e = .returned (.int .u8 x4) ∧ w' = W))
    (SM4 : (∀ W, Calls Tryd.prog 28 #[.int .u8 x4] W fun e w' => e = .returned (.int .u8 y4) ∧ w' = W))
    (DE : (∀ W, Calls Tryd.prog 16 #[.string dW, .string dP, .int .i64 0] W fun e w' => e = .returned (.agg #[.string dd, .int .i64 dp, .bool dc]) ∧ Below W.heap.size W w'))
    : Calls Tryd.prog 11 #[.string s] w fun e w' => e = .returned (.tuple #[agP false 1 dd dp dc 0 0 false, .int .i64 (ed : Int), .int .i64 0]) ∧ Below w.heap.size w w' := by
  have HQ0 : Hid (QW w ((w.alloc (.cells zeroP 26)).alloc (.cells (boxQ false 0) 26)) false 0) := QW.start w false
  unfold zeroP boxQ at HQ0
  go_enter Tryd.func11, Tryd.ntmps11
  go_wp2_with fail
  refine (A0 _).mono ?_
  rintro o wx ⟨rfl, rfl⟩
  go_wp2_with fail
  refine (A0 _).mono ?_
  rintro o wx ⟨rfl, rfl⟩
  go_wp2_with fail
  refine (WIN _).mono ?_
  rintro o w1 ⟨rfl, b1⟩
  have HQ1 : Hid (QW w w1 false 0) := HQ0.out.step b1
  clear b1
  go_wp2_with fail
  refine (WIF _).mono ?_
  rintro o w2 ⟨rfl, b2⟩
  have HQ2 : Hid (QW w w2 false 0) := HQ1.out.step b2
  clear b2
  go_wp2_with fail
  refine (AT1 _).mono ?_
  rintro o wx ⟨rfl, rfl⟩
  go_wp2_with fail
  refine (MD _).mono ?_
  rintro o w3 ⟨rfl, b3⟩
  have HQ3 : Hid (QW w w3 false 0) := HQ2.out.step b3
  clear b3
  go_wp2_with fail
  refine (AT4 _).mono ?_
  rintro o wx ⟨rfl, rfl⟩
  go_wp2_with fail
  refine (SM4 _).mono ?_
  rintro o wx ⟨rfl, rfl⟩
  obtain ⟨_, sz, pp, pf, rr, fr⟩ := HQ3.out
  have p0 := pp 0
  have p1 := pp 1
  have p2 := pp 2
  have p3 := pp 3
  have p4 := pp 4
  have p5 := pp 5
  have p6 := pp 6
  have p7 := pp 7
  have r0 := rr 0
  have r1 := rr 1
  have r2 := rr 2
  have r3 := rr 3
  have r4 := rr 4
  have r5 := rr 5
  have r6 := rr 6
  have r7 := rr 7
  simp only [zeroP, boxQ] at p0 p1 p2 p3 p4 p5 p6 p7 r0 r1 r2 r3 r4 r5 r6 r7
  clear pp rr
  go_wp2_with fail
  refine (DE _).mono ?_
  rintro o w4 ⟨rfl, b4⟩
  have HQ4 : Hid (QW w w4 false 1) := (HQ3.out.kind 1).step b4
  clear b4
  clear sz pf fr p0 p1 p2 p3 p4 p5 p6 p7 r0 r1 r2 r3 r4 r5 r6 r7
  obtain ⟨_, sz, pp, pf, rr, fr⟩ := HQ4.out
  have p0 := pp 0
  have p1 := pp 1
  have p2 := pp 2
  have p3 := pp 3
  have p4 := pp 4
  have p5 := pp 5
  have p6 := pp 6
  have p7 := pp 7
  have r0 := rr 0
  have r1 := rr 1
  have r2 := rr 2
  have r3 := rr 3
  have r4 := rr 4
  have r5 := rr 5
  have r6 := rr 6
  have r7 := rr 7
  simp only [zeroP, boxQ] at p0 p1 p2 p3 p4 p5 p6 p7 r0 r1 r2 r3 r4 r5 r6 r7
  clear pp rr
  go_wp2
  refine bodyPost_ret (v := .tuple #[agP false 1 dd dp dc 0 0 false, .int .i64 (ed : Int), .int .i64 0]) (by simp [results, Tryd.results11, go_sem, agP, *]) rfl ⟨rfl, ?_⟩
  iterate 8 (refine Below.setCell ?_ qw_le _)
  iterate 3 (refine Below.setCell ?_ set_le _)
  exact HQ4.out.bel
set_option maxRecDepth 100000 in
set_option maxHeartbeats 4000000 in
theorem rp_p_na_efail (s : ByteArray) (x1 : Int) (ed : Nat) (dW dP : ByteArray) (x4 : Int) (X2 : Int) (e2 : Int) (dd : ByteArray) (dp : Int) (dc : Bool) (w : World)
    (hx1 : (x1 == 48) = false)
    (_hed : ed ≤ 1048580)
    (A0 : (∀ W, Calls Tryd.prog 26 #[.string s, .int .i64 0] W fun e w' => e = .returned (.int .u8 43) ∧ w' = W))
    (WIN : (∀ W, Calls Tryd.prog 27 #[.string s, .int .i64 1, .string ⟨#[105, 110, 102, 105, 110, 105, 116, 121]⟩] W fun e w' => e = .returned (.bool false) ∧ Below W.heap.size W w'))
    (WIF : (∀ W, Calls Tryd.prog 27 #[.string s, .int .i64 1, .string ⟨#[105, 110, 102]⟩] W fun e w' => e = .returned (.bool false) ∧ Below W.heap.size W w'))
    (AT1 : (∀ W, Calls Tryd.prog 26 #[.string s, .int .i64 1] W fun e w' => e = .returned (.int .u8 x1) ∧ w' = W))
    (MD : (∀ W, Calls Tryd.prog 29 #[.string s, .int .i64 1, .bool false] W fun e w' => e = .returned (.tuple #[.string dW, .string dP, .int .i64 (ed : Int), .bool true]) ∧ Below W.heap.size W w'))
    (AT4 : (∀ W, Calls Tryd.prog 26 #[.string s, .int .i64 (ed : Int)] W fun e w' => e = .returned (.int .u8 x4) ∧ w' = W))
    (SM4 : (∀ W, Calls Tryd.prog 28 #[.int .u8 x4] W fun e w' => e = .returned (.int .u8 101) ∧ w' = W))
    (EX2 : (∀ W, Calls Tryd.prog 30 #[.string s, .int .i64 ((ed : Int) + 1)] W fun e w' => e = .returned (.tuple #[.int .i64 X2, .int .i64 e2, .bool false]) ∧ Below W.heap.size W w'))
    (DE : (∀ W, Calls Tryd.prog 16 #[.string dW, .string dP, .int .i64 0] W fun e w' => e = .returned (.agg #[.string dd, .int .i64 dp, .bool dc]) ∧ Below W.heap.size W w'))
    : Calls Tryd.prog 11 #[.string s] w fun e w' => e = .returned (.tuple #[agP false 1 dd dp dc 0 0 false, .int .i64 (ed : Int), .int .i64 0]) ∧ Below w.heap.size w w' := by
  have HQ0 : Hid (QW w ((w.alloc (.cells zeroP 26)).alloc (.cells (boxQ false 0) 26)) false 0) := QW.start w false
  unfold zeroP boxQ at HQ0
  go_enter Tryd.func11, Tryd.ntmps11
  go_wp2_with fail
  refine (A0 _).mono ?_
  rintro o wx ⟨rfl, rfl⟩
  go_wp2_with fail
  refine (A0 _).mono ?_
  rintro o wx ⟨rfl, rfl⟩
  go_wp2_with fail
  refine (WIN _).mono ?_
  rintro o w1 ⟨rfl, b1⟩
  have HQ1 : Hid (QW w w1 false 0) := HQ0.out.step b1
  clear b1
  go_wp2_with fail
  refine (WIF _).mono ?_
  rintro o w2 ⟨rfl, b2⟩
  have HQ2 : Hid (QW w w2 false 0) := HQ1.out.step b2
  clear b2
  go_wp2_with fail
  refine (AT1 _).mono ?_
  rintro o wx ⟨rfl, rfl⟩
  go_wp2_with fail
  refine (MD _).mono ?_
  rintro o w3 ⟨rfl, b3⟩
  have HQ3 : Hid (QW w w3 false 0) := HQ2.out.step b3
  clear b3
  go_wp2_with fail
  refine (AT4 _).mono ?_
  rintro o wx ⟨rfl, rfl⟩
  go_wp2_with fail
  refine (SM4 _).mono ?_
  rintro o wx ⟨rfl, rfl⟩
  go_wp2_with fail
  refine (EX2 _).mono ?_
  rintro o w4 ⟨rfl, b4⟩
  have HQ4 : Hid (QW w w4 false 0) := HQ3.out.step b4
  clear b4
  obtain ⟨_, sz, pp, pf, rr, fr⟩ := HQ4.out
  have p0 := pp 0
  have p1 := pp 1
  have p2 := pp 2
  have p3 := pp 3
  have p4 := pp 4
  have p5 := pp 5
  have p6 := pp 6
  have p7 := pp 7
  have r0 := rr 0
  have r1 := rr 1
  have r2 := rr 2
  have r3 := rr 3
  have r4 := rr 4
  have r5 := rr 5
  have r6 := rr 6
  have r7 := rr 7
  simp only [zeroP, boxQ] at p0 p1 p2 p3 p4 p5 p6 p7 r0 r1 r2 r3 r4 r5 r6 r7
  clear pp rr
  go_wp2_with fail
  refine (DE _).mono ?_
  rintro o w5 ⟨rfl, b5⟩
  have HQ5 : Hid (QW w w5 false 1) := (HQ4.out.kind 1).step b5
  clear b5
  clear sz pf fr p0 p1 p2 p3 p4 p5 p6 p7 r0 r1 r2 r3 r4 r5 r6 r7
  obtain ⟨_, sz, pp, pf, rr, fr⟩ := HQ5.out
  have p0 := pp 0
  have p1 := pp 1
  have p2 := pp 2
  have p3 := pp 3
  have p4 := pp 4
  have p5 := pp 5
  have p6 := pp 6
  have p7 := pp 7
  have r0 := rr 0
  have r1 := rr 1
  have r2 := rr 2
  have r3 := rr 3
  have r4 := rr 4
  have r5 := rr 5
  have r6 := rr 6
  have r7 := rr 7
  simp only [zeroP, boxQ] at p0 p1 p2 p3 p4 p5 p6 p7 r0 r1 r2 r3 r4 r5 r6 r7
  clear pp rr
  go_wp2
  refine bodyPost_ret (v := .tuple #[agP false 1 dd dp dc 0 0 false, .int .i64 (ed : Int), .int .i64 0]) (by simp [results, Tryd.results11, go_sem, agP, *]) rfl ⟨rfl, ?_⟩
  iterate 8 (refine Below.setCell ?_ qw_le _)
  iterate 3 (refine Below.setCell ?_ set_le _)
  exact HQ5.out.bel
set_option maxRecDepth 100000 in
set_option maxHeartbeats 4000000 in
theorem rp_p_na_eok (s : ByteArray) (x1 : Int) (ed : Nat) (dW dP : ByteArray) (x4 : Int) (X2 : Int) (e2 : Int) (dd : ByteArray) (dp : Int) (dc : Bool) (w : World)
    (hx1 : (x1 == 48) = false)
    (_hed : ed ≤ 1048580)
    (A0 : (∀ W, Calls Tryd.prog 26 #[.string s, .int .i64 0] W fun e w' => e = .returned (.int .u8 43) ∧ w' = W))
    (WIN : (∀ W, Calls Tryd.prog 27 #[.string s, .int .i64 1, .string ⟨#[105, 110, 102, 105, 110, 105, 116, 121]⟩] W fun e w' => e = .returned (.bool false) ∧ Below W.heap.size W w'))
    (WIF : (∀ W, Calls Tryd.prog 27 #[.string s, .int .i64 1, .string ⟨#[105, 110, 102]⟩] W fun e w' => e = .returned (.bool false) ∧ Below W.heap.size W w'))
    (AT1 : (∀ W, Calls Tryd.prog 26 #[.string s, .int .i64 1] W fun e w' => e = .returned (.int .u8 x1) ∧ w' = W))
    (MD : (∀ W, Calls Tryd.prog 29 #[.string s, .int .i64 1, .bool false] W fun e w' => e = .returned (.tuple #[.string dW, .string dP, .int .i64 (ed : Int), .bool true]) ∧ Below W.heap.size W w'))
    (AT4 : (∀ W, Calls Tryd.prog 26 #[.string s, .int .i64 (ed : Int)] W fun e w' => e = .returned (.int .u8 x4) ∧ w' = W))
    (SM4 : (∀ W, Calls Tryd.prog 28 #[.int .u8 x4] W fun e w' => e = .returned (.int .u8 101) ∧ w' = W))
    (EX2 : (∀ W, Calls Tryd.prog 30 #[.string s, .int .i64 ((ed : Int) + 1)] W fun e w' => e = .returned (.tuple #[.int .i64 X2, .int .i64 e2, .bool true]) ∧ Below W.heap.size W w'))
    (DE : (∀ W, Calls Tryd.prog 16 #[.string dW, .string dP, .int .i64 X2] W fun e w' => e = .returned (.agg #[.string dd, .int .i64 dp, .bool dc]) ∧ Below W.heap.size W w'))
    : Calls Tryd.prog 11 #[.string s] w fun e w' => e = .returned (.tuple #[agP false 1 dd dp dc 0 0 false, .int .i64 e2, .int .i64 0]) ∧ Below w.heap.size w w' := by
  have HQ0 : Hid (QW w ((w.alloc (.cells zeroP 26)).alloc (.cells (boxQ false 0) 26)) false 0) := QW.start w false
  unfold zeroP boxQ at HQ0
  go_enter Tryd.func11, Tryd.ntmps11
  go_wp2_with fail
  refine (A0 _).mono ?_
  rintro o wx ⟨rfl, rfl⟩
  go_wp2_with fail
  refine (A0 _).mono ?_
  rintro o wx ⟨rfl, rfl⟩
  go_wp2_with fail
  refine (WIN _).mono ?_
  rintro o w1 ⟨rfl, b1⟩
  have HQ1 : Hid (QW w w1 false 0) := HQ0.out.step b1
  clear b1
  go_wp2_with fail
  refine (WIF _).mono ?_
  rintro o w2 ⟨rfl, b2⟩
  have HQ2 : Hid (QW w w2 false 0) := HQ1.out.step b2
  clear b2
  go_wp2_with fail
  refine (AT1 _).mono ?_
  rintro o wx ⟨rfl, rfl⟩
  go_wp2_with fail
  refine (MD _).mono ?_
  rintro o w3 ⟨rfl, b3⟩
  have HQ3 : Hid (QW w w3 false 0) := HQ2.out.step b3
  clear b3
  go_wp2_with fail
  refine (AT4 _).mono ?_
  rintro o wx ⟨rfl, rfl⟩
  go_wp2_with fail
  refine (SM4 _).mono ?_
  rintro o wx ⟨rfl, rfl⟩
  go_wp2_with fail
  refine (EX2 _).mono ?_
  rintro o w4 ⟨rfl, b4⟩
  have HQ4 : Hid (QW w w4 false 0) := HQ3.out.step b4
  clear b4
  obtain ⟨_, sz, pp, pf, rr, fr⟩ := HQ4.out
  have p0 := pp 0
  have p1 := pp 1
  have p2 := pp 2
  have p3 := pp 3
  have p4 := pp 4
  have p5 := pp 5
  have p6 := pp 6
  have p7 := pp 7
  have r0 := rr 0
  have r1 := rr 1
  have r2 := rr 2
  have r3 := rr 3
  have r4 := rr 4
  have r5 := rr 5
  have r6 := rr 6
  have r7 := rr 7
  simp only [zeroP, boxQ] at p0 p1 p2 p3 p4 p5 p6 p7 r0 r1 r2 r3 r4 r5 r6 r7
  clear pp rr
  go_wp2_with fail
  refine (DE _).mono ?_
  rintro o w5 ⟨rfl, b5⟩
  have HQ5 : Hid (QW w w5 false 1) := (HQ4.out.kind 1).step b5
  clear b5
  clear sz pf fr p0 p1 p2 p3 p4 p5 p6 p7 r0 r1 r2 r3 r4 r5 r6 r7
  obtain ⟨_, sz, pp, pf, rr, fr⟩ := HQ5.out
  have p0 := pp 0
  have p1 := pp 1
  have p2 := pp 2
  have p3 := pp 3
  have p4 := pp 4
  have p5 := pp 5
  have p6 := pp 6
  have p7 := pp 7
  have r0 := rr 0
  have r1 := rr 1
  have r2 := rr 2
  have r3 := rr 3
  have r4 := rr 4
  have r5 := rr 5
  have r6 := rr 6
  have r7 := rr 7
  simp only [zeroP, boxQ] at p0 p1 p2 p3 p4 p5 p6 p7 r0 r1 r2 r3 r4 r5 r6 r7
  clear pp rr
  go_wp2
  refine bodyPost_ret (v := .tuple #[agP false 1 dd dp dc 0 0 false, .int .i64 e2, .int .i64 0]) (by simp [results, Tryd.results11, go_sem, agP, *]) rfl ⟨rfl, ?_⟩
  iterate 8 (refine Below.setCell ?_ qw_le _)
  iterate 3 (refine Below.setCell ?_ set_le _)
  exact HQ5.out.bel
set_option maxRecDepth 100000 in
set_option maxHeartbeats 4000000 in
theorem rp_p_nb_none (s : ByteArray) (x2 : Int) (y2 : Int) (ed : Int) (dW dP : ByteArray) (w : World)
    (hy2 : (y2 == 120) = false)
    (A0 : (∀ W, Calls Tryd.prog 26 #[.string s, .int .i64 0] W fun e w' => e = .returned (.int .u8 43) ∧ w' = W))
    (WIN : (∀ W, Calls Tryd.prog 27 #[.string s, .int .i64 1, .string ⟨#[105, 110, 102, 105, 110, 105, 116, 121]⟩] W fun e w' => e = .returned (.bool false) ∧ Below W.heap.size W w'))
    (WIF : (∀ W, Calls Tryd.prog 27 #[.string s, .int .i64 1, .string ⟨#[105, 110, 102]⟩] W fun e w' => e = .returned (.bool false) ∧ Below W.heap.size W w'))
    (AT1 : (∀ W, Calls Tryd.prog 26 #[.string s, .int .i64 1] W fun e w' => e = .returned (.int .u8 48) ∧ w' = W))
    (AT2 : (∀ W, Calls Tryd.prog 26 #[.string s, .int .i64 2] W fun e w' => e = .returned (.int .u8 x2) ∧ w' = W))
    (SM2 : (∀ W, Calls Tryd.prog 28 #[.int .u8 x2] W fun e w' => e = .returned (.int .u8 y2) ∧ w' = W))
    (MD : (∀ W, Calls Tryd.prog 29 #[.string s, .int .i64 1, .bool false] W fun e w' => e = .returned (.tuple #[.string dW, .string dP, .int .i64 ed, .bool false]) ∧ Below W.heap.size W w'))
    : Calls Tryd.prog 11 #[.string s] w fun e w' => e = .returned (.tuple #[agP false 0 ⟨#[]⟩ 0 false 0 0 false, .int .i64 0, .int .i64 3]) ∧ Below w.heap.size w w' := by
  have HQ0 : Hid (QW w ((w.alloc (.cells zeroP 26)).alloc (.cells (boxQ false 0) 26)) false 0) := QW.start w false
  unfold zeroP boxQ at HQ0
  go_enter Tryd.func11, Tryd.ntmps11
  go_wp2_with fail
  refine (A0 _).mono ?_
  rintro o wx ⟨rfl, rfl⟩
  go_wp2_with fail
  refine (A0 _).mono ?_
  rintro o wx ⟨rfl, rfl⟩
  go_wp2_with fail
  refine (WIN _).mono ?_
  rintro o w1 ⟨rfl, b1⟩
  have HQ1 : Hid (QW w w1 false 0) := HQ0.out.step b1
  clear b1
  go_wp2_with fail
  refine (WIF _).mono ?_
  rintro o w2 ⟨rfl, b2⟩
  have HQ2 : Hid (QW w w2 false 0) := HQ1.out.step b2
  clear b2
  go_wp2_with fail
  refine (AT1 _).mono ?_
  rintro o wx ⟨rfl, rfl⟩
  go_wp2_with fail
  refine (AT2 _).mono ?_
  rintro o wx ⟨rfl, rfl⟩
  go_wp2_with fail
  refine (SM2 _).mono ?_
  rintro o wx ⟨rfl, rfl⟩
  go_wp2_with fail
  refine (MD _).mono ?_
  rintro o w3 ⟨rfl, b3⟩
  have HQ3 : Hid (QW w w3 false 0) := HQ2.out.step b3
  clear b3
  obtain ⟨_, sz, pp, pf, rr, fr⟩ := HQ3.out
  have p0 := pp 0
  have p1 := pp 1
  have p2 := pp 2
  have p3 := pp 3
  have p4 := pp 4
  have p5 := pp 5
  have p6 := pp 6
  have p7 := pp 7
  have r0 := rr 0
  have r1 := rr 1
  have r2 := rr 2
  have r3 := rr 3
  have r4 := rr 4
  have r5 := rr 5
  have r6 := rr 6
  have r7 := rr 7
  simp only [zeroP, boxQ] at p0 p1 p2 p3 p4 p5 p6 p7 r0 r1 r2 r3 r4 r5 r6 r7
  clear pp rr
  go_wp2
  refine bodyPost_ret (v := .tuple #[agP false 0 ⟨#[]⟩ 0 false 0 0 false, .int .i64 0, .int .i64 3]) (by simp [results, Tryd.results11, go_sem, agP, *]) rfl ⟨rfl, ?_⟩
  iterate 8 (refine Below.setCell ?_ qw_le _)
  exact HQ3.out.bel
set_option maxRecDepth 100000 in
set_option maxHeartbeats 4000000 in
theorem rp_p_nb_noe (s : ByteArray) (x2 : Int) (y2 : Int) (ed : Nat) (dW dP : ByteArray) (x4 : Int) (y4 : Int) (dd : ByteArray) (dp : Int) (dc : Bool) (w : World)
    (hy2 : (y2 == 120) = false)
    (_hed : ed ≤ 1048580)
    (hy4 : (y4 == 101) = false)
    (A0 : (∀ W, Calls Tryd.prog 26 #[.string s, .int .i64 0] W fun e w' => e = .returned (.int .u8 43) ∧ w' = W))
    (WIN : (∀ W, Calls Tryd.prog 27 #[.string s, .int .i64 1, .string ⟨#[105, 110, 102, 105, 110, 105, 116, 121]⟩] W fun e w' => e = .returned (.bool false) ∧ Below W.heap.size W w'))
    (WIF : (∀ W, Calls Tryd.prog 27 #[.string s, .int .i64 1, .string ⟨#[105, 110, 102]⟩] W fun e w' => e = .returned (.bool false) ∧ Below W.heap.size W w'))
    (AT1 : (∀ W, Calls Tryd.prog 26 #[.string s, .int .i64 1] W fun e w' => e = .returned (.int .u8 48) ∧ w' = W))
    (AT2 : (∀ W, Calls Tryd.prog 26 #[.string s, .int .i64 2] W fun e w' => e = .returned (.int .u8 x2) ∧ w' = W))
    (SM2 : (∀ W, Calls Tryd.prog 28 #[.int .u8 x2] W fun e w' => e = .returned (.int .u8 y2) ∧ w' = W))
    (MD : (∀ W, Calls Tryd.prog 29 #[.string s, .int .i64 1, .bool false] W fun e w' => e = .returned (.tuple #[.string dW, .string dP, .int .i64 (ed : Int), .bool true]) ∧ Below W.heap.size W w'))
    (AT4 : (∀ W, Calls Tryd.prog 26 #[.string s, .int .i64 (ed : Int)] W fun e w' => e = .returned (.int .u8 x4) ∧ w' = W))
    (SM4 : (∀ W, Calls Tryd.prog 28 #[.int .u8 x4] W fun e w' => e = .returned (.int .u8 y4) ∧ w' = W))
    (DE : (∀ W, Calls Tryd.prog 16 #[.string dW, .string dP, .int .i64 0] W fun e w' => e = .returned (.agg #[.string dd, .int .i64 dp, .bool dc]) ∧ Below W.heap.size W w'))
    : Calls Tryd.prog 11 #[.string s] w fun e w' => e = .returned (.tuple #[agP false 1 dd dp dc 0 0 false, .int .i64 (ed : Int), .int .i64 0]) ∧ Below w.heap.size w w' := by
  have HQ0 : Hid (QW w ((w.alloc (.cells zeroP 26)).alloc (.cells (boxQ false 0) 26)) false 0) := QW.start w false
  unfold zeroP boxQ at HQ0
  go_enter Tryd.func11, Tryd.ntmps11
  go_wp2_with fail
  refine (A0 _).mono ?_
  rintro o wx ⟨rfl, rfl⟩
  go_wp2_with fail
  refine (A0 _).mono ?_
  rintro o wx ⟨rfl, rfl⟩
  go_wp2_with fail
  refine (WIN _).mono ?_
  rintro o w1 ⟨rfl, b1⟩
  have HQ1 : Hid (QW w w1 false 0) := HQ0.out.step b1
  clear b1
  go_wp2_with fail
  refine (WIF _).mono ?_
  rintro o w2 ⟨rfl, b2⟩
  have HQ2 : Hid (QW w w2 false 0) := HQ1.out.step b2
  clear b2
  go_wp2_with fail
  refine (AT1 _).mono ?_
  rintro o wx ⟨rfl, rfl⟩
  go_wp2_with fail
  refine (AT2 _).mono ?_
  rintro o wx ⟨rfl, rfl⟩
  go_wp2_with fail
  refine (SM2 _).mono ?_
  rintro o wx ⟨rfl, rfl⟩
  go_wp2_with fail
  refine (MD _).mono ?_
  rintro o w3 ⟨rfl, b3⟩
  have HQ3 : Hid (QW w w3 false 0) := HQ2.out.step b3
  clear b3
  go_wp2_with fail
  refine (AT4 _).mono ?_
  rintro o wx ⟨rfl, rfl⟩
  go_wp2_with fail
  refine (SM4 _).mono ?_
  rintro o wx ⟨rfl, rfl⟩
  obtain ⟨_, sz, pp, pf, rr, fr⟩ := HQ3.out
  have p0 := pp 0
  have p1 := pp 1
  have p2 := pp 2
  have p3 := pp 3
  have p4 := pp 4
  have p5 := pp 5
  have p6 := pp 6
  have p7 := pp 7
  have r0 := rr 0
  have r1 := rr 1
  have r2 := rr 2
  have r3 := rr 3
  have r4 := rr 4
  have r5 := rr 5
  have r6 := rr 6
  have r7 := rr 7
  simp only [zeroP, boxQ] at p0 p1 p2 p3 p4 p5 p6 p7 r0 r1 r2 r3 r4 r5 r6 r7
  clear pp rr
  go_wp2_with fail
  refine (DE _).mono ?_
  rintro o w4 ⟨rfl, b4⟩
  have HQ4 : Hid (QW w w4 false 1) := (HQ3.out.kind 1).step b4
  clear b4
  clear sz pf fr p0 p1 p2 p3 p4 p5 p6 p7 r0 r1 r2 r3 r4 r5 r6 r7
  obtain ⟨_, sz, pp, pf, rr, fr⟩ := HQ4.out
  have p0 := pp 0
  have p1 := pp 1
  have p2 := pp 2
  have p3 := pp 3
  have p4 := pp 4
  have p5 := pp 5
  have p6 := pp 6
  have p7 := pp 7
  have r0 := rr 0
  have r1 := rr 1
  have r2 := rr 2
  have r3 := rr 3
  have r4 := rr 4
  have r5 := rr 5
  have r6 := rr 6
  have r7 := rr 7
  simp only [zeroP, boxQ] at p0 p1 p2 p3 p4 p5 p6 p7 r0 r1 r2 r3 r4 r5 r6 r7
  clear pp rr
  go_wp2
  refine bodyPost_ret (v := .tuple #[agP false 1 dd dp dc 0 0 false, .int .i64 (ed : Int), .int .i64 0]) (by simp [results, Tryd.results11, go_sem, agP, *]) rfl ⟨rfl, ?_⟩
  iterate 8 (refine Below.setCell ?_ qw_le _)
  iterate 3 (refine Below.setCell ?_ set_le _)
  exact HQ4.out.bel
set_option maxRecDepth 100000 in
set_option maxHeartbeats 4000000 in
theorem rp_p_nb_efail (s : ByteArray) (x2 : Int) (y2 : Int) (ed : Nat) (dW dP : ByteArray) (x4 : Int) (X2 : Int) (e2 : Int) (dd : ByteArray) (dp : Int) (dc : Bool) (w : World)
    (hy2 : (y2 == 120) = false)
    (_hed : ed ≤ 1048580)
    (A0 : (∀ W, Calls Tryd.prog 26 #[.string s, .int .i64 0] W fun e w' => e = .returned (.int .u8 43) ∧ w' = W))
    (WIN : (∀ W, Calls Tryd.prog 27 #[.string s, .int .i64 1, .string ⟨#[105, 110, 102, 105, 110, 105, 116, 121]⟩] W fun e w' => e = .returned (.bool false) ∧ Below W.heap.size W w'))
    (WIF : (∀ W, Calls Tryd.prog 27 #[.string s, .int .i64 1, .string ⟨#[105, 110, 102]⟩] W fun e w' => e = .returned (.bool false) ∧ Below W.heap.size W w'))
    (AT1 : (∀ W, Calls Tryd.prog 26 #[.string s, .int .i64 1] W fun e w' => e = .returned (.int .u8 48) ∧ w' = W))
    (AT2 : (∀ W, Calls Tryd.prog 26 #[.string s, .int .i64 2] W fun e w' => e = .returned (.int .u8 x2) ∧ w' = W))
    (SM2 : (∀ W, Calls Tryd.prog 28 #[.int .u8 x2] W fun e w' => e = .returned (.int .u8 y2) ∧ w' = W))
    (MD : (∀ W, Calls Tryd.prog 29 #[.string s, .int .i64 1, .bool false] W fun e w' => e = .returned (.tuple #[.string dW, .string dP, .int .i64 (ed : Int), .bool true]) ∧ Below W.heap.size W w'))
    (AT4 : (∀ W, Calls Tryd.prog 26 #[.string s, .int .i64 (ed : Int)] W fun e w' => e = .returned (.int .u8 x4) ∧ w' = W))
    (SM4 : (∀ W, Calls Tryd.prog 28 #[.int .u8 x4] W fun e w' => e = .returned (.int .u8 101) ∧ w' = W))
    (EX2 : (∀ W, Calls Tryd.prog 30 #[.string s, .int .i64 ((ed : Int) + 1)] W fun e w' => e = .returned (.tuple #[.int .i64 X2, .int .i64 e2, .bool false]) ∧ Below W.heap.size W w'))
    (DE : (∀ W, Calls Tryd.prog 16 #[.string dW, .string dP, .int .i64 0] W fun e w' => e = .returned (.agg #[.string dd, .int .i64 dp, .bool dc]) ∧ Below W.heap.size W w'))
    : Calls Tryd.prog 11 #[.string s] w fun e w' => e = .returned (.tuple #[agP false 1 dd dp dc 0 0 false, .int .i64 (ed : Int), .int .i64 0]) ∧ Below w.heap.size w w' := by
  have HQ0 : Hid (QW w ((w.alloc (.cells zeroP 26)).alloc (.cells (boxQ false 0) 26)) false 0) := QW.start w false
  unfold zeroP boxQ at HQ0
  go_enter Tryd.func11, Tryd.ntmps11
  go_wp2_with fail
  refine (A0 _).mono ?_
  rintro o wx ⟨rfl, rfl⟩
  go_wp2_with fail
  refine (A0 _).mono ?_
  rintro o wx ⟨rfl, rfl⟩
  go_wp2_with fail
  refine (WIN _).mono ?_
  rintro o w1 ⟨rfl, b1⟩
  have HQ1 : Hid (QW w w1 false 0) := HQ0.out.step b1
  clear b1
  go_wp2_with fail
  refine (WIF _).mono ?_
  rintro o w2 ⟨rfl, b2⟩
  have HQ2 : Hid (QW w w2 false 0) := HQ1.out.step b2
  clear b2
  go_wp2_with fail
  refine (AT1 _).mono ?_
  rintro o wx ⟨rfl, rfl⟩
  go_wp2_with fail
  refine (AT2 _).mono ?_
  rintro o wx ⟨rfl, rfl⟩
  go_wp2_with fail
  refine (SM2 _).mono ?_
  rintro o wx ⟨rfl, rfl⟩
  go_wp2_with fail
  refine (MD _).mono ?_
  rintro o w3 ⟨rfl, b3⟩
  have HQ3 : Hid (QW w w3 false 0) := HQ2.out.step b3
  clear b3
  go_wp2_with fail
  refine (AT4 _).mono ?_
  rintro o wx ⟨rfl, rfl⟩
  go_wp2_with fail
  refine (SM4 _).mono ?_
  rintro o wx ⟨rfl, rfl⟩
  go_wp2_with fail
  refine (EX2 _).mono ?_
  rintro o w4 ⟨rfl, b4⟩
  have HQ4 : Hid (QW w w4 false 0) := HQ3.out.step b4
  clear b4
  obtain ⟨_, sz, pp, pf, rr, fr⟩ := HQ4.out
  have p0 := pp 0
  have p1 := pp 1
  have p2 := pp 2
  have p3 := pp 3
  have p4 := pp 4
  have p5 := pp 5
  have p6 := pp 6
  have p7 := pp 7
  have r0 := rr 0
  have r1 := rr 1
  have r2 := rr 2
  have r3 := rr 3
  have r4 := rr 4
  have r5 := rr 5
  have r6 := rr 6
  have r7 := rr 7
  simp only [zeroP, boxQ] at p0 p1 p2 p3 p4 p5 p6 p7 r0 r1 r2 r3 r4 r5 r6 r7
  clear pp rr
  go_wp2_with fail
  refine (DE _).mono ?_
  rintro o w5 ⟨rfl, b5⟩
  have HQ5 : Hid (QW w w5 false 1) := (HQ4.out.kind 1).step b5
  clear b5
  clear sz pf fr p0 p1 p2 p3 p4 p5 p6 p7 r0 r1 r2 r3 r4 r5 r6 r7
  obtain ⟨_, sz, pp, pf, rr, fr⟩ := HQ5.out
  have p0 := pp 0
  have p1 := pp 1
  have p2 := pp 2
  have p3 := pp 3
  have p4 := pp 4
  have p5 := pp 5
  have p6 := pp 6
  have p7 := pp 7
  have r0 := rr 0
  have r1 := rr 1
  have r2 := rr 2
  have r3 := rr 3
  have r4 := rr 4
  have r5 := rr 5
  have r6 := rr 6
  have r7 := rr 7
  simp only [zeroP, boxQ] at p0 p1 p2 p3 p4 p5 p6 p7 r0 r1 r2 r3 r4 r5 r6 r7
  clear pp rr
  go_wp2
  refine bodyPost_ret (v := .tuple #[agP false 1 dd dp dc 0 0 false, .int .i64 (ed : Int), .int .i64 0]) (by simp [results, Tryd.results11, go_sem, agP, *]) rfl ⟨rfl, ?_⟩
  iterate 8 (refine Below.setCell ?_ qw_le _)
  iterate 3 (refine Below.setCell ?_ set_le _)
  exact HQ5.out.bel
set_option maxRecDepth 100000 in
set_option maxHeartbeats 4000000 in
theorem rp_p_nb_eok (s : ByteArray) (x2 : Int) (y2 : Int) (ed : Nat) (dW dP : ByteArray) (x4 : Int) (X2 : Int) (e2 : Int) (dd : ByteArray) (dp : Int) (dc : Bool) (w : World)
    (hy2 : (y2 == 120) = false)
    (_hed : ed ≤ 1048580)
    (A0 : (∀ W, Calls Tryd.prog 26 #[.string s, .int .i64 0] W fun e w' => e = .returned (.int .u8 43) ∧ w' = W))
    (WIN : (∀ W, Calls Tryd.prog 27 #[.string s, .int .i64 1, .string ⟨#[105, 110, 102, 105, 110, 105, 116, 121]⟩] W fun e w' => e = .returned (.bool false) ∧ Below W.heap.size W w'))
    (WIF : (∀ W, Calls Tryd.prog 27 #[.string s, .int .i64 1, .string ⟨#[105, 110, 102]⟩] W fun e w' => e = .returned (.bool false) ∧ Below W.heap.size W w'))
    (AT1 : (∀ W, Calls Tryd.prog 26 #[.string s, .int .i64 1] W fun e w' => e = .returned (.int .u8 48) ∧ w' = W))
    (AT2 : (∀ W, Calls Tryd.prog 26 #[.string s, .int .i64 2] W fun e w' => e = .returned (.int .u8 x2) ∧ w' = W))
    (SM2 : (∀ W, Calls Tryd.prog 28 #[.int .u8 x2] W fun e w' => e = .returned (.int .u8 y2) ∧ w' = W))
    (MD : (∀ W, Calls Tryd.prog 29 #[.string s, .int .i64 1, .bool false] W fun e w' => e = .returned (.tuple #[.string dW, .string dP, .int .i64 (ed : Int), .bool true]) ∧ Below W.heap.size W w'))
    (AT4 : (∀ W, Calls Tryd.prog 26 #[.string s, .int .i64 (ed : Int)] W fun e w' => e = .returned (.int .u8 x4) ∧ w' = W))
    (SM4 : (∀ W, Calls Tryd.prog 28 #[.int .u8 x4] W fun e w' => e = .returned (.int .u8 101) ∧ w' = W))
    (EX2 : (∀ W, Calls Tryd.prog 30 #[.string s, .int .i64 ((ed : Int) + 1)] W fun e w' => e = .returned (.tuple #[.int .i64 X2, .int .i64 e2, .bool true]) ∧ Below W.heap.size W w'))
    (DE : (∀ W, Calls Tryd.prog 16 #[.string dW, .string dP, .int .i64 X2] W fun e w' => e = .returned (.agg #[.string dd, .int .i64 dp, .bool dc]) ∧ Below W.heap.size W w'))
    : Calls Tryd.prog 11 #[.string s] w fun e w' => e = .returned (.tuple #[agP false 1 dd dp dc 0 0 false, .int .i64 e2, .int .i64 0]) ∧ Below w.heap.size w w' := by
  have HQ0 : Hid (QW w ((w.alloc (.cells zeroP 26)).alloc (.cells (boxQ false 0) 26)) false 0) := QW.start w false
  unfold zeroP boxQ at HQ0
  go_enter Tryd.func11, Tryd.ntmps11
  go_wp2_with fail
  refine (A0 _).mono ?_
  rintro o wx ⟨rfl, rfl⟩
  go_wp2_with fail
  refine (A0 _).mono ?_
  rintro o wx ⟨rfl, rfl⟩
  go_wp2_with fail
  refine (WIN _).mono ?_
  rintro o w1 ⟨rfl, b1⟩
  have HQ1 : Hid (QW w w1 false 0) := HQ0.out.step b1
  clear b1
  go_wp2_with fail
  refine (WIF _).mono ?_
  rintro o w2 ⟨rfl, b2⟩
  have HQ2 : Hid (QW w w2 false 0) := HQ1.out.step b2
  clear b2
  go_wp2_with fail
  refine (AT1 _).mono ?_
  rintro o wx ⟨rfl, rfl⟩
  go_wp2_with fail
  refine (AT2 _).mono ?_
  rintro o wx ⟨rfl, rfl⟩
  go_wp2_with fail
  refine (SM2 _).mono ?_
  rintro o wx ⟨rfl, rfl⟩
  go_wp2_with fail
  refine (MD _).mono ?_
  rintro o w3 ⟨rfl, b3⟩
  have HQ3 : Hid (QW w w3 false 0) := HQ2.out.step b3
  clear b3
  go_wp2_with fail
  refine (AT4 _).mono ?_
  rintro o wx ⟨rfl, rfl⟩
  go_wp2_with fail
  refine (SM4 _).mono ?_
  rintro o wx ⟨rfl, rfl⟩
  go_wp2_with fail
  refine (EX2 _).mono ?_
  rintro o w4 ⟨rfl, b4⟩
  have HQ4 : Hid (QW w w4 false 0) := HQ3.out.step b4
  clear b4
  obtain ⟨_, sz, pp, pf, rr, fr⟩ := HQ4.out
  have p0 := pp 0
  have p1 := pp 1
  have p2 := pp 2
  have p3 := pp 3
  have p4 := pp 4
  have p5 := pp 5
  have p6 := pp 6
  have p7 := pp 7
  have r0 := rr 0
  have r1 := rr 1
  have r2 := rr 2
  have r3 := rr 3
  have r4 := rr 4
  have r5 := rr 5
  have r6 := rr 6
  have r7 := rr 7
  simp only [zeroP, boxQ] at p0 p1 p2 p3 p4 p5 p6 p7 r0 r1 r2 r3 r4 r5 r6 r7
  clear pp rr
  go_wp2_with fail
  refine (DE _).mono ?_
  rintro o w5 ⟨rfl, b5⟩
  have HQ5 : Hid (QW w w5 false 1) := (HQ4.out.kind 1).step b5
  clear b5
  clear sz pf fr p0 p1 p2 p3 p4 p5 p6 p7 r0 r1 r2 r3 r4 r5 r6 r7
  obtain ⟨_, sz, pp, pf, rr, fr⟩ := HQ5.out
  have p0 := pp 0
  have p1 := pp 1
  have p2 := pp 2
  have p3 := pp 3
  have p4 := pp 4
  have p5 := pp 5
  have p6 := pp 6
  have p7 := pp 7
  have r0 := rr 0
  have r1 := rr 1
  have r2 := rr 2
  have r3 := rr 3
  have r4 := rr 4
  have r5 := rr 5
  have r6 := rr 6
  have r7 := rr 7
  simp only [zeroP, boxQ] at p0 p1 p2 p3 p4 p5 p6 p7 r0 r1 r2 r3 r4 r5 r6 r7
  clear pp rr
  go_wp2
  refine bodyPost_ret (v := .tuple #[agP false 1 dd dp dc 0 0 false, .int .i64 e2, .int .i64 0]) (by simp [results, Tryd.results11, go_sem, agP, *]) rfl ⟨rfl, ?_⟩
  iterate 8 (refine Below.setCell ?_ qw_le _)
  iterate 3 (refine Below.setCell ?_ set_le _)
  exact HQ5.out.bel
end Go.Proofs.YtjgdbphhhplifaaDoor
