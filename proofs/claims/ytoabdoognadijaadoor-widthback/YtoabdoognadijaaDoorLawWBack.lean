/-
  The law WidthBack: what lies within a width is told, and read as it.
-/
import Derived.Test.YtoabdoognadijaaDoorWdW
import Derived.Test.YtoabdoognadijaaDoorItY
namespace Go.Proofs.YtoabdoognadijaaDoor
open Go.RowKit

theorem sgW_bounds {w M H L : Int} (h : Wd w M H L) {u : Int} (h0 : 0 ≤ u) (h1 : u ≤ M) : L ≤ sgW M H u ∧ sgW M H u ≤ H := by
  have a := h.low
  have b := h.most
  have c := h.ge
  unfold sgW; split <;> omega
theorem sg_low {w M H L : Int} (h : Wd w M H L) {u : Int} (h0 : 0 ≤ u) (h1 : u ≤ M) : bits BinOp.and IntKind.u64 (IntKind.u64.wrap (sgW M H u)) M = u := by
  obtain ⟨n, hn, hl⟩ : ∃ n : Nat, IntKind.u64.wrap (sgW M H u) = (n : Int) ∧ n < 18446744073709551616 := ⟨(sgW M H u % 18446744073709551616).toNat, by rw [IntKind.wrap_u64]; omega, by omega⟩
  have hm := mask_wd h n hl
  rw [hn, hm, ← hn, IntKind.wrap_u64]
  have b := h.most
  clear hm hn hl
  unfold sgW
  rcases h with ⟨_, rfl, rfl, _⟩ | ⟨_, rfl, rfl, _⟩ | ⟨_, rfl, rfl, _⟩ | ⟨_, rfl, rfl, _⟩
  all_goals
    split <;> omega
theorem fl_ps {b : Nat} (hb1 : 2 ≤ b) (hb2 : b ≤ 36) {U : Nat} (hU : U < 18446744073709551616) : psX b (fl b U) = U ∧ psE b (fl b U) = 0 := by
  have e := ps_digits hb1 (l := fl b U) (fun z => by have := fl_pos b U; rw [z] at this; simp at this) (fl_digit hb1 hb2 _) (by rw [av_fl hb1 hb2]; exact hU)
  rw [av_fl hb1 hb2] at e
  exact e
theorem back_tell {w M H L : Int} (h : Wd w M H L) {b : Nat} (hb1 : 2 ≤ b) (hb2 : b ≤ 36) {U : Nat} (hl : U < 18446744073709551616) (hU : (U : Int) ≤ M) (W : World) (hg : ErrT W) :
    Calls Tryd.prog 21 #[.int .u64 (U : Int), .int .i64 (b : Int), .int .i64 w] W fun e w' => e = .returned (.tuple #[.string ⟨(fl b U).toArray⟩, .nilIface]) ∧ Below W.heap.size W w' := by
  have T := wtell_of h (U : Int) (b : Int) (E := 0) (fun W => (format_yes U b hl hb1 hb2 W).mono (fun e w' ⟨a1, a2⟩ => ⟨_, a1, Or.inl ⟨rfl, rfl⟩, a2⟩)) W hg
  rw [decide_eq_true hU, (tl_in _).1, (tl_in ⟨#[]⟩).2] at T
  refine T.mono ?_
  rintro e w1 ⟨x, rfl, h1, b1⟩
  rw [h1.none rfl]
  exact ⟨rfl, b1⟩
theorem back_tells {w M H L : Int} (h : Wd w M H L) {b : Nat} (hb1 : 2 ≤ b) (hb2 : b ≤ 36) {T : Int} (h1 : L ≤ T) (h2 : T ≤ H) (W : World) (hg : ErrT W) :
    Calls Tryd.prog 23 #[.int .i64 T, .int .i64 (b : Int), .int .i64 w] W fun e w' => e = .returned (.tuple #[.string ⟨(mrk T false ++ fl b T.natAbs).toArray⟩, .nilIface]) ∧ Below W.heap.size W w' := by
  have a := h.low
  have c := h.le
  have T := wtellsigned_of h T (b : Int) (E := 0) (fun W _ => (iformat_yes T (by omega) (by omega) b hb1 hb2 W).mono (fun e w' ⟨a1, a2⟩ => ⟨_, a1, Or.inl ⟨rfl, rfl⟩, a2⟩)) W hg
  rw [nrW_in (by omega) (by omega), beq_self_eq_true, (tl_in _).1, (tl_in ⟨#[]⟩).2] at T
  refine T.mono ?_
  rintro e w1 ⟨x, rfl, h1, b1⟩
  rw [h1.none rfl]
  exact ⟨rfl, b1⟩
theorem back_uns {w M H L : Int} (h : Wd w M H L) {b : Nat} (hb1 : 2 ≤ b) (hb2 : b ≤ 36) {U : Nat} (hl : U < 18446744073709551616) (hU : (U : Int) ≤ M) (W : World) (hg : ErrT W) :
    Calls Tryd.prog 17 #[.string ⟨(fl b U).toArray⟩, .int .i64 (b : Int), .int .i64 w] W fun e w' => e = .returned (.tuple #[.int .u64 (U : Int), .nilIface]) ∧ Below W.heap.size W w' := by
  have hs : (⟨(fl b U).toArray⟩ : ByteArray).size ≤ 140737488355328 := by rw [str_size]; have := fl_le64 hb1 hl; omega
  have T := wunsigned_of h ⟨(fl b U).toArray⟩ hs (b : Int) (fun W => parse_yes ⟨(fl b U).toArray⟩ hs b (Or.inr ⟨hb1, hb2⟩) W) W hg
  rw [arr_list, (fl_ps hb1 hb2 hl).1, (fl_ps hb1 hb2 hl).2, (uw_in (by omega) 0).1, (uw_in (by omega) 0).2] at T
  refine T.mono ?_
  rintro e w1 ⟨x, rfl, h1, b1⟩
  rw [h1.none rfl]
  exact ⟨rfl, b1⟩
theorem back_sig {w M H L : Int} (h : Wd w M H L) {b : Nat} (hb1 : 2 ≤ b) (hb2 : b ≤ 36) {T : Int} (h1 : L ≤ T) (h2 : T ≤ H) (W : World) (hg : ErrT W) :
    Calls Tryd.prog 19 #[.string ⟨(mrk T false ++ fl b T.natAbs).toArray⟩, .int .i64 (b : Int), .int .i64 w] W fun e w' => e = .returned (.tuple #[.int .i64 T, .nilIface]) ∧ Below W.heap.size W w' := by
  have a := h.low
  have c := h.le
  have i1 : -9223372036854775808 ≤ T := by omega
  have i2 : T ≤ 9223372036854775807 := by omega
  have hs : (⟨(mrk T false ++ fl b T.natAbs).toArray⟩ : ByteArray).size ≤ 140737488355328 := by rw [str_size, List.length_append]; have := fl_le64 hb1 (abs_lt i1 i2); have := mrk_len T false; omega
  have T := wsigned_of h ⟨(mrk T false ++ fl b T.natAbs).toArray⟩ hs (b : Int) (fun W hg => iparse_yes ⟨(mrk T false ++ fl b T.natAbs).toArray⟩ hs b (Or.inr ⟨hb1, hb2⟩) W hg) W hg
  rw [arr_list, (ip_format hb1 hb2 i1 i2 false).1, (ip_format hb1 hb2 i1 i2 false).2, sw_in (nrW_in (by omega) (by omega)) 0, nrW_in (by omega) (by omega)] at T
  refine T.mono ?_
  rintro e w1 ⟨x, rfl, h1, b1⟩
  rw [h1.none rfl]
  exact ⟨rfl, b1⟩
set_option maxRecDepth 100000 in
set_option maxHeartbeats 1000000 in
theorem wback_no {k : Int} (h : Wn k) (v b : Int) (w : World) (hg : ErrT w) :
    Calls Tryd.prog 6 #[.int .u64 v, .int .i64 b, .int .i64 k] w fun e w' => e = .returned (.bool true) ∧ Below w.heap.size w w' := by
  have BN := fun W (hg : ErrT W) => wbounds_no h W hg
  have S1 := fun W (hg : ErrT W) => wsure_any W hg
  obtain ⟨h1, h2, h3, h4⟩ := h
  have p1 : (k != 8) = true := by simpa using h1
  have p2 : (k != 16) = true := by simpa using h2
  have p3 : (k != 32) = true := by simpa using h3
  have p4 : (k != 64) = true := by simpa using h4
  have HG : Hid (ErrT w) := hg
  clear hg h1 h2 h3 h4
  go_enter Tryd.func6, Tryd.ntmps6
  go_wp2_with fail
  refine (BN _ HG.out).mono ?_
  rintro e w1 ⟨x, rfl, h1, b1⟩
  have B1 : Hid (Below w.heap.size w w1) := b1
  obtain ⟨T, z, rfl⟩ := h1.iface
  clear h1 b1
  go_wp2_with fail
  refine (S1 _ (HG.out.below B1.out HG.out.pos)).mono ?_
  rintro e w2 ⟨rfl, b2⟩
  have B2 : Hid (Below w.heap.size w w2) := B1.out.trans (b2.mono B1.out.size)
  clear b2
  go_wp2
  go_ret
  exact ⟨rfl, B2.out⟩
set_option maxRecDepth 100000 in
set_option maxHeartbeats 1000000 in
theorem wback_base {k M H L : Int} (h : Wd k M H L) (v b : Int) (hb : b < 2 ∨ 36 < b) (w : World) (hg : ErrT w) :
    Calls Tryd.prog 6 #[.int .u64 v, .int .i64 b, .int .i64 k] w fun e w' => e = .returned (.bool true) ∧ Below w.heap.size w w' := by
  have BY := fun W => wbounds_yes h W
  have S1 := fun W (hg : ErrT W) => wsure_any W hg
  have cs : b < 2 ∨ (¬ b < 2 ∧ 36 < b) := by omega
  have HG : Hid (ErrT w) := hg
  clear hg hb
  rcases h with ⟨rfl, _⟩ | ⟨rfl, _⟩ | ⟨rfl, _⟩ | ⟨rfl, _⟩
  all_goals
    rcases cs with q | ⟨q, q2⟩
    all_goals
      go_enter Tryd.func6, Tryd.ntmps6
      go_wp2_with fail
      refine (BY _).mono ?_
      rintro e w ⟨rfl, rfl⟩
      go_wp2_with fail
      refine (S1 _ HG.out).mono ?_
      rintro e w2 ⟨rfl, b2⟩
      have B2 : Hid (Below w.heap.size w w2) := b2
      clear b2
      go_wp2
      go_ret
      exact ⟨rfl, B2.out⟩
set_option maxRecDepth 100000 in
set_option maxHeartbeats 1000000 in
theorem wback_low {k M H L v b U T C : Int} {D F : ByteArray}
    (BY : ∀ W, Calls Tryd.prog 7 #[.int .i64 k] W fun e w' => e = .returned (.tuple #[.int .i64 L, .int .i64 H, .int .u64 M, .nilIface]) ∧ w' = W)
    (CY : ∀ W, Calls Tryd.prog 9 #[.int .u64 v, .int .i64 k] W fun e w' => e = .returned (.tuple #[.int .u64 U, .int .i64 T, .nilIface]) ∧ Below W.heap.size W w')
    (NY : ∀ W, Calls Tryd.prog 11 #[.int .i64 (wrap64 v), .int .i64 k] W fun e w' => e = .returned (.tuple #[.int .i64 C, .nilIface]) ∧ w' = W)
    (T1 : ∀ W, ErrT W → Calls Tryd.prog 21 #[.int .u64 U, .int .i64 b, .int .i64 k] W fun e w' => e = .returned (.tuple #[.string D, .nilIface]) ∧ Below W.heap.size W w')
    (T2 : ∀ W, ErrT W → Calls Tryd.prog 23 #[.int .i64 T, .int .i64 b, .int .i64 k] W fun e w' => e = .returned (.tuple #[.string F, .nilIface]) ∧ Below W.heap.size W w')
    (U1 : ∀ W, ErrT W → Calls Tryd.prog 17 #[.string D, .int .i64 b, .int .i64 k] W fun e w' => e = .returned (.tuple #[.int .u64 U, .nilIface]) ∧ Below W.heap.size W w')
    (U2 : ∀ W, ErrT W → Calls Tryd.prog 19 #[.string F, .int .i64 b, .int .i64 k] W fun e w' => e = .returned (.tuple #[.int .i64 T, .nilIface]) ∧ Below W.heap.size W w')
    (b1 : ¬ b < 2) (b2 : ¬ 36 < b) (g1 : ¬ M < U) (g2 : ¬ T < L) (g3 : ¬ H < T) (g4 : ¬ C < L) (g5 : ¬ H < C) (HK : bits BinOp.and IntKind.u64 (IntKind.u64.wrap T) M = U)
    (q1 : wrap64 v < L) (w : World) (hg : ErrT w) :
    Calls Tryd.prog 6 #[.int .u64 v, .int .i64 b, .int .i64 k] w fun e w' => e = .returned (.bool true) ∧ Below w.heap.size w w' := by
  have S1 := fun W (hg : ErrT W) => wsure_any W hg
  have HG : Hid (ErrT w) := hg
  clear hg
  generalize hx : wrap64 v = V at *
  go_enter Tryd.func6, Tryd.ntmps6
  have B0 : Hid (Below w.heap.size w w) := Below.refl _ _
  go_wp2_with fail
  refine (BY _).mono ?_
  rintro e w ⟨rfl, rfl⟩
  go_wp2_with fail
  refine (CY _).mono ?_
  rintro e w1 ⟨rfl, bb⟩
  have B1 : Hid (Below w.heap.size w w1) := B0.out.trans (bb.mono B0.out.size)
  clear bb
  go_wp2_with fail
  refine (NY _).mono ?_
  rintro e w1 ⟨rfl, rfl⟩
  go_wp2_with fail
  refine (T1 _ (HG.out.below B1.out HG.out.pos)).mono ?_
  rintro e w2 ⟨rfl, bb⟩
  have B2 : Hid (Below w.heap.size w w2) := B1.out.trans (bb.mono B1.out.size)
  clear bb
  go_wp2_with fail
  refine (T2 _ (HG.out.below B2.out HG.out.pos)).mono ?_
  rintro e w3 ⟨rfl, bb⟩
  have B3 : Hid (Below w.heap.size w w3) := B2.out.trans (bb.mono B2.out.size)
  clear bb
  go_wp2_with fail
  refine (U1 _ (HG.out.below B3.out HG.out.pos)).mono ?_
  rintro e w4 ⟨rfl, bb⟩
  have B4 : Hid (Below w.heap.size w w4) := B3.out.trans (bb.mono B3.out.size)
  clear bb
  go_wp2_with fail
  refine (U2 _ (HG.out.below B4.out HG.out.pos)).mono ?_
  rintro e w5 ⟨rfl, bb⟩
  have B5 : Hid (Below w.heap.size w w5) := B4.out.trans (bb.mono B4.out.size)
  clear bb
  go_wp2_with fail
  refine (S1 _ (HG.out.below B5.out HG.out.pos)).mono ?_
  rintro e w6 ⟨rfl, bb⟩
  have B6 : Hid (Below w.heap.size w w6) := B5.out.trans (bb.mono B5.out.size)
  clear bb
  go_wp2
  go_ret
  exact ⟨rfl, B6.out⟩
set_option maxRecDepth 100000 in
set_option maxHeartbeats 1000000 in
theorem wback_high {k M H L v b U T C : Int} {D F : ByteArray}
    (BY : ∀ W, Calls Tryd.prog 7 #[.int .i64 k] W fun e w' => e = .returned (.tuple #[.int .i64 L, .int .i64 H, .int .u64 M, .nilIface]) ∧ w' = W)
    (CY : ∀ W, Calls Tryd.prog 9 #[.int .u64 v, .int .i64 k] W fun e w' => e = .returned (.tuple #[.int .u64 U, .int .i64 T, .nilIface]) ∧ Below W.heap.size W w')
    (NY : ∀ W, Calls Tryd.prog 11 #[.int .i64 (wrap64 v), .int .i64 k] W fun e w' => e = .returned (.tuple #[.int .i64 C, .nilIface]) ∧ w' = W)
    (T1 : ∀ W, ErrT W → Calls Tryd.prog 21 #[.int .u64 U, .int .i64 b, .int .i64 k] W fun e w' => e = .returned (.tuple #[.string D, .nilIface]) ∧ Below W.heap.size W w')
    (T2 : ∀ W, ErrT W → Calls Tryd.prog 23 #[.int .i64 T, .int .i64 b, .int .i64 k] W fun e w' => e = .returned (.tuple #[.string F, .nilIface]) ∧ Below W.heap.size W w')
    (U1 : ∀ W, ErrT W → Calls Tryd.prog 17 #[.string D, .int .i64 b, .int .i64 k] W fun e w' => e = .returned (.tuple #[.int .u64 U, .nilIface]) ∧ Below W.heap.size W w')
    (U2 : ∀ W, ErrT W → Calls Tryd.prog 19 #[.string F, .int .i64 b, .int .i64 k] W fun e w' => e = .returned (.tuple #[.int .i64 T, .nilIface]) ∧ Below W.heap.size W w')
    (b1 : ¬ b < 2) (b2 : ¬ 36 < b) (g1 : ¬ M < U) (g2 : ¬ T < L) (g3 : ¬ H < T) (g4 : ¬ C < L) (g5 : ¬ H < C) (HK : bits BinOp.and IntKind.u64 (IntKind.u64.wrap T) M = U)
    (q1 : ¬ wrap64 v < L) (q2 : H < wrap64 v) (w : World) (hg : ErrT w) :
    Calls Tryd.prog 6 #[.int .u64 v, .int .i64 b, .int .i64 k] w fun e w' => e = .returned (.bool true) ∧ Below w.heap.size w w' := by
  have S1 := fun W (hg : ErrT W) => wsure_any W hg
  have HG : Hid (ErrT w) := hg
  clear hg
  generalize hx : wrap64 v = V at *
  go_enter Tryd.func6, Tryd.ntmps6
  have B0 : Hid (Below w.heap.size w w) := Below.refl _ _
  go_wp2_with fail
  refine (BY _).mono ?_
  rintro e w ⟨rfl, rfl⟩
  go_wp2_with fail
  refine (CY _).mono ?_
  rintro e w1 ⟨rfl, bb⟩
  have B1 : Hid (Below w.heap.size w w1) := B0.out.trans (bb.mono B0.out.size)
  clear bb
  go_wp2_with fail
  refine (NY _).mono ?_
  rintro e w1 ⟨rfl, rfl⟩
  go_wp2_with fail
  refine (T1 _ (HG.out.below B1.out HG.out.pos)).mono ?_
  rintro e w2 ⟨rfl, bb⟩
  have B2 : Hid (Below w.heap.size w w2) := B1.out.trans (bb.mono B1.out.size)
  clear bb
  go_wp2_with fail
  refine (T2 _ (HG.out.below B2.out HG.out.pos)).mono ?_
  rintro e w3 ⟨rfl, bb⟩
  have B3 : Hid (Below w.heap.size w w3) := B2.out.trans (bb.mono B2.out.size)
  clear bb
  go_wp2_with fail
  refine (U1 _ (HG.out.below B3.out HG.out.pos)).mono ?_
  rintro e w4 ⟨rfl, bb⟩
  have B4 : Hid (Below w.heap.size w w4) := B3.out.trans (bb.mono B3.out.size)
  clear bb
  go_wp2_with fail
  refine (U2 _ (HG.out.below B4.out HG.out.pos)).mono ?_
  rintro e w5 ⟨rfl, bb⟩
  have B5 : Hid (Below w.heap.size w w5) := B4.out.trans (bb.mono B4.out.size)
  clear bb
  go_wp2_with fail
  refine (S1 _ (HG.out.below B5.out HG.out.pos)).mono ?_
  rintro e w6 ⟨rfl, bb⟩
  have B6 : Hid (Below w.heap.size w w6) := B5.out.trans (bb.mono B5.out.size)
  clear bb
  go_wp2
  go_ret
  exact ⟨rfl, B6.out⟩
set_option maxRecDepth 100000 in
set_option maxHeartbeats 1000000 in
theorem wback_in {k M H L v b U T C : Int} {D F : ByteArray}
    (BY : ∀ W, Calls Tryd.prog 7 #[.int .i64 k] W fun e w' => e = .returned (.tuple #[.int .i64 L, .int .i64 H, .int .u64 M, .nilIface]) ∧ w' = W)
    (CY : ∀ W, Calls Tryd.prog 9 #[.int .u64 v, .int .i64 k] W fun e w' => e = .returned (.tuple #[.int .u64 U, .int .i64 T, .nilIface]) ∧ Below W.heap.size W w')
    (NY : ∀ W, Calls Tryd.prog 11 #[.int .i64 (wrap64 v), .int .i64 k] W fun e w' => e = .returned (.tuple #[.int .i64 C, .nilIface]) ∧ w' = W)
    (T1 : ∀ W, ErrT W → Calls Tryd.prog 21 #[.int .u64 U, .int .i64 b, .int .i64 k] W fun e w' => e = .returned (.tuple #[.string D, .nilIface]) ∧ Below W.heap.size W w')
    (T2 : ∀ W, ErrT W → Calls Tryd.prog 23 #[.int .i64 T, .int .i64 b, .int .i64 k] W fun e w' => e = .returned (.tuple #[.string F, .nilIface]) ∧ Below W.heap.size W w')
    (U1 : ∀ W, ErrT W → Calls Tryd.prog 17 #[.string D, .int .i64 b, .int .i64 k] W fun e w' => e = .returned (.tuple #[.int .u64 U, .nilIface]) ∧ Below W.heap.size W w')
    (U2 : ∀ W, ErrT W → Calls Tryd.prog 19 #[.string F, .int .i64 b, .int .i64 k] W fun e w' => e = .returned (.tuple #[.int .i64 T, .nilIface]) ∧ Below W.heap.size W w')
    (b1 : ¬ b < 2) (b2 : ¬ 36 < b) (g1 : ¬ M < U) (g2 : ¬ T < L) (g3 : ¬ H < T) (g4 : ¬ C < L) (g5 : ¬ H < C) (HK : bits BinOp.and IntKind.u64 (IntKind.u64.wrap T) M = U)
    (q1 : ¬ wrap64 v < L) (q2 : ¬ H < wrap64 v) (q3 : C = wrap64 v) (w : World) (hg : ErrT w) :
    Calls Tryd.prog 6 #[.int .u64 v, .int .i64 b, .int .i64 k] w fun e w' => e = .returned (.bool true) ∧ Below w.heap.size w w' := by
  have S1 := fun W (hg : ErrT W) => wsure_any W hg
  have HG : Hid (ErrT w) := hg
  clear hg
  subst q3
  generalize hx : wrap64 v = V at *
  go_enter Tryd.func6, Tryd.ntmps6
  have B0 : Hid (Below w.heap.size w w) := Below.refl _ _
  go_wp2_with fail
  refine (BY _).mono ?_
  rintro e w ⟨rfl, rfl⟩
  go_wp2_with fail
  refine (CY _).mono ?_
  rintro e w1 ⟨rfl, bb⟩
  have B1 : Hid (Below w.heap.size w w1) := B0.out.trans (bb.mono B0.out.size)
  clear bb
  go_wp2_with fail
  refine (NY _).mono ?_
  rintro e w1 ⟨rfl, rfl⟩
  go_wp2_with fail
  refine (T1 _ (HG.out.below B1.out HG.out.pos)).mono ?_
  rintro e w2 ⟨rfl, bb⟩
  have B2 : Hid (Below w.heap.size w w2) := B1.out.trans (bb.mono B1.out.size)
  clear bb
  go_wp2_with fail
  refine (T2 _ (HG.out.below B2.out HG.out.pos)).mono ?_
  rintro e w3 ⟨rfl, bb⟩
  have B3 : Hid (Below w.heap.size w w3) := B2.out.trans (bb.mono B2.out.size)
  clear bb
  go_wp2_with fail
  refine (U1 _ (HG.out.below B3.out HG.out.pos)).mono ?_
  rintro e w4 ⟨rfl, bb⟩
  have B4 : Hid (Below w.heap.size w w4) := B3.out.trans (bb.mono B3.out.size)
  clear bb
  go_wp2_with fail
  refine (U2 _ (HG.out.below B4.out HG.out.pos)).mono ?_
  rintro e w5 ⟨rfl, bb⟩
  have B5 : Hid (Below w.heap.size w w5) := B4.out.trans (bb.mono B4.out.size)
  clear bb
  go_wp2_with fail
  refine (S1 _ (HG.out.below B5.out HG.out.pos)).mono ?_
  rintro e w6 ⟨rfl, bb⟩
  have B6 : Hid (Below w.heap.size w w6) := B5.out.trans (bb.mono B5.out.size)
  clear bb
  go_wp2
  go_ret
  exact ⟨rfl, B6.out⟩
theorem wback_yes {k M H L : Int} (h : Wd k M H L) (v : Nat) (hv : v < 18446744073709551616) (b : Nat) (hb1 : 2 ≤ b) (hb2 : b ≤ 36) (w : World) (hg : ErrT w) :
    Calls Tryd.prog 6 #[.int .u64 (v : Int), .int .i64 (b : Int), .int .i64 k] w fun e w' => e = .returned (.bool true) ∧ Below w.heap.size w w' := by
  have hm := h.most
  have ha := h.low
  have hc := h.ge
  have hd := h.le
  obtain ⟨U, hU, hl⟩ : ∃ U : Nat, (v : Int) % (M + 1) = (U : Int) ∧ (U : Int) ≤ M := by
    have e1 := Int.emod_nonneg (v : Int) (show M + 1 ≠ 0 by omega)
    have e2 := Int.emod_lt_of_pos (v : Int) (show 0 < M + 1 by omega)
    exact ⟨((v : Int) % (M + 1)).toNat, (Int.toNat_of_nonneg e1).symm, by rw [Int.toNat_of_nonneg e1]; omega⟩
  have CY := fun W => wcut_yes h v hv W
  rw [hU] at CY
  have hT := sgW_bounds h (u := (U : Int)) (by omega) hl
  have hN := nrW_bounds (L := L) (H := H) (by omega) (wrap64 (v : Int))
  have hu : U < 18446744073709551616 := by omega
  by_cases q1 : wrap64 (v : Int) < L
  · exact wback_low (fun W => wbounds_yes h W) CY (fun W => wclamp_yes h (wrap64 (v : Int)) W) (fun W hg => back_tell h hb1 hb2 hu hl W hg) (fun W hg => back_tells h hb1 hb2 hT.1 hT.2 W hg) (fun W hg => back_uns h hb1 hb2 hu hl W hg) (fun W hg => back_sig h hb1 hb2 hT.1 hT.2 W hg) (by omega) (by omega) (by omega) (by omega) (by omega) (by omega) (by omega) (sg_low h (by omega) hl) q1 w hg
  · by_cases q2 : H < wrap64 (v : Int)
    · exact wback_high (fun W => wbounds_yes h W) CY (fun W => wclamp_yes h (wrap64 (v : Int)) W) (fun W hg => back_tell h hb1 hb2 hu hl W hg) (fun W hg => back_tells h hb1 hb2 hT.1 hT.2 W hg) (fun W hg => back_uns h hb1 hb2 hu hl W hg) (fun W hg => back_sig h hb1 hb2 hT.1 hT.2 W hg) (by omega) (by omega) (by omega) (by omega) (by omega) (by omega) (by omega) (sg_low h (by omega) hl) q1 q2 w hg
    · exact wback_in (fun W => wbounds_yes h W) CY (fun W => wclamp_yes h (wrap64 (v : Int)) W) (fun W hg => back_tell h hb1 hb2 hu hl W hg) (fun W hg => back_tells h hb1 hb2 hT.1 hT.2 W hg) (fun W hg => back_uns h hb1 hb2 hu hl W hg) (fun W hg => back_sig h hb1 hb2 hT.1 hT.2 W hg) (by omega) (by omega) (by omega) (by omega) (by omega) (by omega) (by omega) (sg_low h (by omega) hl) q1 q2 (nrW_in q1 q2) w hg
theorem wback_law (v : Nat) (hv : v < 18446744073709551616) (b k : Int) (w : World) (hg : ErrT w) :
    Calls Tryd.prog 6 #[.int .u64 (v : Int), .int .i64 b, .int .i64 k] w fun e w' => e = .returned (.bool true) ∧ Below w.heap.size w w' := by
  rcases wd_cases k with ⟨M, H, L, h⟩ | h
  · by_cases hb : b < 2 ∨ 36 < b
    · exact wback_base h (v : Int) b hb w hg
    · obtain ⟨n, rfl⟩ : ∃ n : Nat, b = (n : Int) := ⟨b.toNat, by omega⟩
      exact wback_yes h v hv n (by omega) (by omega) w hg
  · exact wback_no h (v : Int) b w hg
end Go.Proofs.YtoabdoognadijaaDoor
