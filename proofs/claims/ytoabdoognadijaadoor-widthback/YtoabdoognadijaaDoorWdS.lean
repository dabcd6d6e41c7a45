/-
  The document's Unsigned, Signed, Tell, TellSigned of widths; what the program and the document answer alike.
-/
import Derived.Test.YtoabdoognadijaaDoorWdR
import Derived.Test.YtoabdoognadijaaDoorWdB
import Derived.Test.YtoabdoognadijaaDoorItS
import Derived.Test.YtoabdoognadijaaDoorItR
namespace Go.Proofs.YtoabdoognadijaaDoor
open Go.RowKit Go.Extern.Stop Go.Stop Go.Extern

set_option maxRecDepth 100000 in
set_option maxHeartbeats 1000000 in
theorem rwunsigned_of {w M H L : Int} (h : Wd w M H L) (s : ByteArray) (b : Int) {X E : Nat} (hX : X < 18446744073709551616) (hE : E = 0 ∨ (E = 4 ∧ X = 18446744073709551615) ∨ (E ≠ 0 ∧ E ≠ 4 ∧ X = 0))
    (P1 : ∀ W, Calls Tryd.prog 36 #[.string s, .int .i64 b] W fun x w' => x = .returned (.tuple #[.int .u64 (X : Int), .int .i64 (E : Int)]) ∧ Below W.heap.size W w') (W : World) :
    Calls Tryd.prog 18 #[.string s, .int .i64 b, .int .i64 w] W fun e w' => e = .returned (.tuple #[.int .u64 (uwX M X), .int .i64 (uwE M X E : Int)]) ∧ Below W.heap.size W w' := by
  have BY := fun W => rwbounds_yes h W
  have hm := h.most
  have hg := h.ge
  have hl := h.le
  clear h
  rcases hE with rfl | ⟨rfl, hz⟩ | ⟨e1, e2, rfl⟩
  · by_cases q : M < (X : Int)
    · have HX : Hid (uwX M X = M ∧ uwE M X 0 = 4) := uw_out q 0
      clear hm hg hl hX
      generalize uwX M X = Y at *
      generalize uwE M X 0 = F at *
      go_enter Tryd.func18, Tryd.ntmps18
      go_wp2_with fail
      refine (BY _).mono ?_
      rintro e W ⟨rfl, rfl⟩
      go_wp2_with fail
      refine (P1 _).mono ?_
      rintro e w1 ⟨rfl, b1⟩
      have B1 : Hid (Below W.heap.size W w1) := b1
      clear b1
      go_wp2
      go_ret2
      exact ⟨by rw [HX.out.1, HX.out.2]; rfl, B1.out⟩
    · have HX : Hid (uwX M X = (X : Int) ∧ uwE M X 0 = 0) := uw_in q 0
      clear hm hg hl hX
      generalize uwX M X = Y at *
      generalize uwE M X 0 = F at *
      go_enter Tryd.func18, Tryd.ntmps18
      go_wp2_with fail
      refine (BY _).mono ?_
      rintro e W ⟨rfl, rfl⟩
      go_wp2_with fail
      refine (P1 _).mono ?_
      rintro e w1 ⟨rfl, b1⟩
      have B1 : Hid (Below W.heap.size W w1) := b1
      clear b1
      go_wp2
      go_ret2
      exact ⟨by rw [HX.out.1, HX.out.2]; rfl, B1.out⟩
  · by_cases q : M < (X : Int)
    · have HX : Hid (uwX M X = M ∧ uwE M X 4 = 4) := uw_out q 4
      clear hm hg hl hX hz
      generalize uwX M X = Y at *
      generalize uwE M X 4 = F at *
      go_enter Tryd.func18, Tryd.ntmps18
      go_wp2_with fail
      refine (BY _).mono ?_
      rintro e W ⟨rfl, rfl⟩
      go_wp2_with fail
      refine (P1 _).mono ?_
      rintro e w1 ⟨rfl, b1⟩
      have B1 : Hid (Below W.heap.size W w1) := b1
      clear b1
      go_wp2
      go_ret2
      exact ⟨by rw [HX.out.1, HX.out.2]; rfl, B1.out⟩
    · have HX : Hid (uwX M X = M ∧ uwE M X 4 = 4) := ⟨by rw [(uw_in q 4).1]; omega, (uw_in q 4).2⟩
      clear hm hg hl hX hz
      generalize uwX M X = Y at *
      generalize uwE M X 4 = F at *
      go_enter Tryd.func18, Tryd.ntmps18
      go_wp2_with fail
      refine (BY _).mono ?_
      rintro e W ⟨rfl, rfl⟩
      go_wp2_with fail
      refine (P1 _).mono ?_
      rintro e w1 ⟨rfl, b1⟩
      have B1 : Hid (Below W.heap.size W w1) := b1
      clear b1
      go_wp2
      go_ret2
      exact ⟨by rw [HX.out.1, HX.out.2]; rfl, B1.out⟩
  · have q : ¬ M < ((0 : Nat) : Int) := by omega
    have HX : Hid (uwX M 0 = 0 ∧ uwE M 0 E = E) := uw_in q E
    have p1 : ((E : Int) != 0) = true := by simp; omega
    have p2 : ((E : Int) != 4) = true := by simp; omega
    clear hm hg hl hX q e1 e2
    generalize uwX M 0 = Y at *
    generalize uwE M 0 E = F at *
    go_enter Tryd.func18, Tryd.ntmps18
    go_wp2_with fail
    refine (BY _).mono ?_
    rintro e W ⟨rfl, rfl⟩
    go_wp2_with fail
    refine (P1 _).mono ?_
    rintro e w1 ⟨rfl, b1⟩
    have B1 : Hid (Below W.heap.size W w1) := b1
    clear b1
    go_wp2
    go_ret2
    exact ⟨by rw [HX.out.1, HX.out.2]; rfl, B1.out⟩
set_option maxRecDepth 100000 in
set_option maxHeartbeats 1000000 in
theorem rwsigned_of {w M H L : Int} (h : Wd w M H L) (s : ByteArray) (b : Int) {X : Int} {E : Nat} (hE : E = 0 ∨ (E = 4 ∧ (X = -9223372036854775808 ∨ X = 9223372036854775807)) ∨ (E ≠ 0 ∧ E ≠ 4 ∧ X = 0))
    (P1 : ∀ W, Calls Tryd.prog 38 #[.string s, .int .i64 b] W fun x w' => x = .returned (.tuple #[.int .i64 X, .int .i64 (E : Int)]) ∧ Below W.heap.size W w') (W : World) :
    Calls Tryd.prog 20 #[.string s, .int .i64 b, .int .i64 w] W fun e w' => e = .returned (.tuple #[.int .i64 (nrW L H X), .int .i64 (swE L H X E : Int)]) ∧ Below W.heap.size W w' := by
  have BY := fun W => rwbounds_yes h W
  have hlow := h.low
  have hg := h.ge
  have hle := h.le
  clear h
  rcases hE with rfl | ⟨rfl, rfl | rfl⟩ | ⟨e1, e2, rfl⟩
  · by_cases q1 : X < L
    · have HX : Hid (nrW L H X = L ∧ swE L H X 0 = 4) := ⟨nrW_low q1, sw_out (by rw [nrW_low q1]; omega) 0⟩
      clear hlow hg hle
      generalize nrW L H X = Y at *
      generalize swE L H X 0 = F at *
      go_enter Tryd.func20, Tryd.ntmps20
      go_wp2_with fail
      refine (BY _).mono ?_
      rintro e W ⟨rfl, rfl⟩
      go_wp2_with fail
      refine (P1 _).mono ?_
      rintro e w1 ⟨rfl, b1⟩
      have B1 : Hid (Below W.heap.size W w1) := b1
      clear b1
      go_wp2
      go_ret2
      exact ⟨by rw [HX.out.1, HX.out.2]; rfl, B1.out⟩
    · by_cases q2 : H < X
      · have HX : Hid (nrW L H X = H ∧ swE L H X 0 = 4) := ⟨nrW_high q1 q2, sw_out (by rw [nrW_high q1 q2]; omega) 0⟩
        clear hlow hg hle
        generalize nrW L H X = Y at *
        generalize swE L H X 0 = F at *
        go_enter Tryd.func20, Tryd.ntmps20
        go_wp2_with fail
        refine (BY _).mono ?_
        rintro e W ⟨rfl, rfl⟩
        go_wp2_with fail
        refine (P1 _).mono ?_
        rintro e w1 ⟨rfl, b1⟩
        have B1 : Hid (Below W.heap.size W w1) := b1
        clear b1
        go_wp2
        go_ret2
        exact ⟨by rw [HX.out.1, HX.out.2]; rfl, B1.out⟩
      · have HX : Hid (nrW L H X = X ∧ swE L H X 0 = 0) := ⟨nrW_in q1 q2, sw_in (nrW_in q1 q2) 0⟩
        clear hlow hg hle
        generalize nrW L H X = Y at *
        generalize swE L H X 0 = F at *
        go_enter Tryd.func20, Tryd.ntmps20
        go_wp2_with fail
        refine (BY _).mono ?_
        rintro e W ⟨rfl, rfl⟩
        go_wp2_with fail
        refine (P1 _).mono ?_
        rintro e w1 ⟨rfl, b1⟩
        have B1 : Hid (Below W.heap.size W w1) := b1
        clear b1
        go_wp2
        go_ret2
        exact ⟨by rw [HX.out.1, HX.out.2]; rfl, B1.out⟩
  · have HX : Hid (nrW L H (-9223372036854775808) = L ∧ swE L H (-9223372036854775808) 4 = 4) := by
      refine ⟨by unfold nrW; split <;> (try split) <;> omega, by unfold swE; split <;> rfl⟩
    by_cases q1 : -9223372036854775808 < L
    · clear hlow hg hle
      generalize nrW L H (-9223372036854775808) = Y at *
      generalize swE L H (-9223372036854775808) 4 = F at *
      go_enter Tryd.func20, Tryd.ntmps20
      go_wp2_with fail
      refine (BY _).mono ?_
      rintro e W ⟨rfl, rfl⟩
      go_wp2_with fail
      refine (P1 _).mono ?_
      rintro e w1 ⟨rfl, b1⟩
      have B1 : Hid (Below W.heap.size W w1) := b1
      clear b1
      go_wp2
      go_ret2
      exact ⟨by rw [HX.out.1, HX.out.2]; rfl, B1.out⟩
    · clear hlow hg hle
      generalize nrW L H (-9223372036854775808) = Y at *
      generalize swE L H (-9223372036854775808) 4 = F at *
      go_enter Tryd.func20, Tryd.ntmps20
      go_wp2_with fail
      refine (BY _).mono ?_
      rintro e W ⟨rfl, rfl⟩
      go_wp2_with fail
      refine (P1 _).mono ?_
      rintro e w1 ⟨rfl, b1⟩
      have B1 : Hid (Below W.heap.size W w1) := b1
      clear b1
      go_wp2
      go_ret2
      exact ⟨by rw [HX.out.1, HX.out.2]; rfl, B1.out⟩
  · have HX : Hid (nrW L H 9223372036854775807 = H ∧ swE L H 9223372036854775807 4 = 4) := by
      refine ⟨by unfold nrW; split <;> (try split) <;> omega, by unfold swE; split <;> rfl⟩
    have q0 : ¬ (9223372036854775807 : Int) < L := by omega
    by_cases q1 : H < 9223372036854775807
    · clear hlow hg hle
      generalize nrW L H 9223372036854775807 = Y at *
      generalize swE L H 9223372036854775807 4 = F at *
      go_enter Tryd.func20, Tryd.ntmps20
      go_wp2_with fail
      refine (BY _).mono ?_
      rintro e W ⟨rfl, rfl⟩
      go_wp2_with fail
      refine (P1 _).mono ?_
      rintro e w1 ⟨rfl, b1⟩
      have B1 : Hid (Below W.heap.size W w1) := b1
      clear b1
      go_wp2
      go_ret2
      exact ⟨by rw [HX.out.1, HX.out.2]; rfl, B1.out⟩
    · clear hlow hg hle
      generalize nrW L H 9223372036854775807 = Y at *
      generalize swE L H 9223372036854775807 4 = F at *
      go_enter Tryd.func20, Tryd.ntmps20
      go_wp2_with fail
      refine (BY _).mono ?_
      rintro e W ⟨rfl, rfl⟩
      go_wp2_with fail
      refine (P1 _).mono ?_
      rintro e w1 ⟨rfl, b1⟩
      have B1 : Hid (Below W.heap.size W w1) := b1
      clear b1
      go_wp2
      go_ret2
      exact ⟨by rw [HX.out.1, HX.out.2]; rfl, B1.out⟩
  · have HX : Hid (nrW L H 0 = 0 ∧ swE L H 0 E = E) := by
      have q : nrW L H 0 = 0 := nrW_in (by omega) (by omega)
      exact ⟨q, sw_in q E⟩
    have p1 : ((E : Int) != 0) = true := by simp; omega
    have p2 : ((E : Int) != 4) = true := by simp; omega
    clear hlow hg hle e1 e2
    generalize nrW L H 0 = Y at *
    generalize swE L H 0 E = F at *
    go_enter Tryd.func20, Tryd.ntmps20
    go_wp2_with fail
    refine (BY _).mono ?_
    rintro e W ⟨rfl, rfl⟩
    go_wp2_with fail
    refine (P1 _).mono ?_
    rintro e w1 ⟨rfl, b1⟩
    have B1 : Hid (Below W.heap.size W w1) := b1
    clear b1
    go_wp2
    go_ret2
    exact ⟨by rw [HX.out.1, HX.out.2]; rfl, B1.out⟩
set_option maxRecDepth 100000 in
set_option maxHeartbeats 1000000 in
theorem rwtell_of {w M H L : Int} (h : Wd w M H L) (v b : Int) {S : ByteArray} {E : Nat} (hS : E ≠ 0 → S = ⟨#[]⟩)
    (F1 : ∀ W, Calls Tryd.prog 41 #[.int .u64 v, .int .i64 b] W fun x w' => x = .returned (.tuple #[.string S, .int .i64 (E : Int)]) ∧ w' = W) (W : World) :
    Calls Tryd.prog 22 #[.int .u64 v, .int .i64 b, .int .i64 w] W fun e w' => e = .returned (.tuple #[.string (tlS (decide (v ≤ M)) E S), .int .i64 (tlE (decide (v ≤ M)) E : Int)]) ∧ w' = W := by
  have BY := fun W => rwbounds_yes h W
  clear h
  by_cases e : E = 0
  · subst e
    by_cases q : M < v
    · have HX : Hid (tlS (decide (v ≤ M)) 0 S = ⟨#[]⟩ ∧ tlE (decide (v ≤ M)) 0 = 4) := by rw [decide_eq_false (by omega)]; exact tl_out S
      clear hS
      generalize tlS (decide (v ≤ M)) 0 S = Y at *
      generalize tlE (decide (v ≤ M)) 0 = F at *
      go_enter Tryd.func22, Tryd.ntmps22
      go_wp2_with fail
      refine (BY _).mono ?_
      rintro e W ⟨rfl, rfl⟩
      go_wp2_with fail
      refine (F1 _).mono ?_
      rintro e W ⟨rfl, rfl⟩
      go_wp2
      go_ret2
      exact ⟨by rw [HX.out.1, HX.out.2]; rfl, rfl⟩
    · have HX : Hid (tlS (decide (v ≤ M)) 0 S = S ∧ tlE (decide (v ≤ M)) 0 = 0) := by rw [decide_eq_true (by omega)]; exact tl_in S
      clear hS
      generalize tlS (decide (v ≤ M)) 0 S = Y at *
      generalize tlE (decide (v ≤ M)) 0 = F at *
      go_enter Tryd.func22, Tryd.ntmps22
      go_wp2_with fail
      refine (BY _).mono ?_
      rintro e W ⟨rfl, rfl⟩
      go_wp2_with fail
      refine (F1 _).mono ?_
      rintro e W ⟨rfl, rfl⟩
      go_wp2
      go_ret2
      exact ⟨by rw [HX.out.1, HX.out.2]; rfl, rfl⟩
  · have HX : Hid (tlS (decide (v ≤ M)) E S = S ∧ tlE (decide (v ≤ M)) E = E) := ⟨by rw [(tl_err e S).1, hS e], (tl_err e S).2⟩
    have p1 : ((E : Int) == 0) = false := beq_eq_false_iff_ne.mpr (by omega)
    clear hS e
    generalize tlS (decide (v ≤ M)) E S = Y at *
    generalize tlE (decide (v ≤ M)) E = F at *
    go_enter Tryd.func22, Tryd.ntmps22
    go_wp2_with fail
    refine (BY _).mono ?_
    rintro e W ⟨rfl, rfl⟩
    go_wp2_with fail
    refine (F1 _).mono ?_
    rintro e W ⟨rfl, rfl⟩
    go_wp2
    go_ret2
    exact ⟨by rw [HX.out.1, HX.out.2]; rfl, rfl⟩
set_option maxRecDepth 100000 in
set_option maxHeartbeats 1000000 in
theorem rwtellsigned_of {w M H L : Int} (h : Wd w M H L) (v b : Int) {S : ByteArray} {E : Nat} (hS : E ≠ 0 → S = ⟨#[]⟩)
    (F1 : ∀ W, Calls Tryd.prog 43 #[.int .i64 v, .int .i64 b] W fun x w' => x = .returned (.tuple #[.string S, .int .i64 (E : Int)]) ∧ w' = W) (W : World) :
    Calls Tryd.prog 24 #[.int .i64 v, .int .i64 b, .int .i64 w] W fun e w' => e = .returned (.tuple #[.string (tlS (v == nrW L H v) E S), .int .i64 (tlE (v == nrW L H v) E : Int)]) ∧ w' = W := by
  have BY := fun W => rwbounds_yes h W
  have hlow := h.low
  have hg := h.ge
  clear h
  by_cases e : E = 0
  · subst e
    by_cases q1 : v < L
    · have HX : Hid (tlS (v == nrW L H v) 0 S = ⟨#[]⟩ ∧ tlE (v == nrW L H v) 0 = 4) := by rw [show (v == nrW L H v) = false from beq_eq_false_iff_ne.mpr (by rw [nrW_low q1]; omega)]; exact tl_out S
      clear hS hlow hg
      generalize tlS (v == nrW L H v) 0 S = Y at *
      generalize tlE (v == nrW L H v) 0 = F at *
      go_enter Tryd.func24, Tryd.ntmps24
      go_wp2_with fail
      refine (BY _).mono ?_
      rintro e W ⟨rfl, rfl⟩
      go_wp2_with fail
      refine (F1 _).mono ?_
      rintro e W ⟨rfl, rfl⟩
      go_wp2
      go_ret2
      exact ⟨by rw [HX.out.1, HX.out.2]; rfl, rfl⟩
    · by_cases q2 : H < v
      · have HX : Hid (tlS (v == nrW L H v) 0 S = ⟨#[]⟩ ∧ tlE (v == nrW L H v) 0 = 4) := by rw [show (v == nrW L H v) = false from beq_eq_false_iff_ne.mpr (by rw [nrW_high q1 q2]; omega)]; exact tl_out S
        clear hS hlow hg
        generalize tlS (v == nrW L H v) 0 S = Y at *
        generalize tlE (v == nrW L H v) 0 = F at *
        go_enter Tryd.func24, Tryd.ntmps24
        go_wp2_with fail
        refine (BY _).mono ?_
        rintro e W ⟨rfl, rfl⟩
        go_wp2_with fail
        refine (F1 _).mono ?_
        rintro e W ⟨rfl, rfl⟩
        go_wp2
        go_ret2
        exact ⟨by rw [HX.out.1, HX.out.2]; rfl, rfl⟩
      · have HX : Hid (tlS (v == nrW L H v) 0 S = S ∧ tlE (v == nrW L H v) 0 = 0) := by rw [show (v == nrW L H v) = true from by rw [nrW_in q1 q2]; exact beq_self_eq_true v]; exact tl_in S
        clear hS hlow hg
        generalize tlS (v == nrW L H v) 0 S = Y at *
        generalize tlE (v == nrW L H v) 0 = F at *
        go_enter Tryd.func24, Tryd.ntmps24
        go_wp2_with fail
        refine (BY _).mono ?_
        rintro e W ⟨rfl, rfl⟩
        go_wp2_with fail
        refine (F1 _).mono ?_
        rintro e W ⟨rfl, rfl⟩
        go_wp2
        go_ret2
        exact ⟨by rw [HX.out.1, HX.out.2]; rfl, rfl⟩
  · have HX : Hid (tlS (v == nrW L H v) E S = S ∧ tlE (v == nrW L H v) E = E) := ⟨by rw [(tl_err e S).1, hS e], (tl_err e S).2⟩
    have p1 : ((E : Int) == 0) = false := beq_eq_false_iff_ne.mpr (by omega)
    clear hS e hlow hg
    generalize tlS (v == nrW L H v) E S = Y at *
    generalize tlE (v == nrW L H v) E = F at *
    go_enter Tryd.func24, Tryd.ntmps24
    go_wp2_with fail
    refine (BY _).mono ?_
    rintro e W ⟨rfl, rfl⟩
    go_wp2_with fail
    refine (F1 _).mono ?_
    rintro e W ⟨rfl, rfl⟩
    go_wp2
    go_ret2
    exact ⟨by rw [HX.out.1, HX.out.2]; rfl, rfl⟩
theorem ps_kind (b : Nat) (l : List UInt8) : psE b l = 0 ∨ (psE b l = 4 ∧ psX b l = 18446744073709551615) ∨ (psE b l ≠ 0 ∧ psE b l ≠ 4 ∧ psX b l = 0) := by
  unfold psE psX
  split
  · split
    · exact Or.inl rfl
    · exact Or.inr (Or.inl ⟨rfl, rfl⟩)
  · exact Or.inr (Or.inr ⟨by decide, by decide, rfl⟩)
theorem ip_kind (b : Nat) (l : List UInt8) : ipE b l = 0 ∨ (ipE b l = 4 ∧ (ipX b l = -9223372036854775808 ∨ ipX b l = 9223372036854775807)) ∨ (ipE b l ≠ 0 ∧ ipE b l ≠ 4 ∧ ipX b l = 0) := by
  unfold ipE ipX
  by_cases q : psE b (l.drop (sgL l)) = 3
  · rw [if_pos q, if_pos q]; exact Or.inr (Or.inr ⟨by decide, by decide, rfl⟩)
  · rw [if_neg q, if_neg q]
    cases z : mkB (sgN l) (psX b (l.drop (sgL l))) with
    | true => exact Or.inl (nr_yes z).2
    | false =>
      refine Or.inr (Or.inl ⟨(nr_no z).2, ?_⟩)
      rw [(nr_no z).1]
      cases sgN l
      · exact Or.inr rfl
      · exact Or.inl rfl
theorem unsigned_both (s : ByteArray) (hs : s.size ≤ 140737488355328) (b w : Int) : ∃ (X : Int) (E : Nat),
    (∀ W, ErrT W → Calls Tryd.prog 17 #[.string s, .int .i64 b, .int .i64 w] W fun e w' => ∃ x, e = .returned (.tuple #[.int .u64 X, x]) ∧ ErV w' (E : Int) ⟨#[85, 110, 115, 105, 103, 110, 101, 100]⟩ s x ∧ Below W.heap.size W w') ∧
    (∀ W, Calls Tryd.prog 18 #[.string s, .int .i64 b, .int .i64 w] W fun e w' => e = .returned (.tuple #[.int .u64 X, .int .i64 (E : Int)]) ∧ Below W.heap.size W w') := by
  rcases wd_cases w with ⟨M, H, L, h⟩ | h
  · by_cases hb : b = 0 ∨ (2 ≤ b ∧ b ≤ 36)
    · obtain ⟨n, rfl⟩ : ∃ n : Nat, b = (n : Int) := ⟨b.toNat, by omega⟩
      have hr : readB n := by
        rcases hb with q | ⟨q1, q2⟩
        · exact Or.inl (by omega)
        · exact Or.inr ⟨by omega, by omega⟩
      exact ⟨_, _, fun W hg => wunsigned_of h s hs (n : Int) (fun W => parse_yes s hs n hr W) W hg, fun W => rwunsigned_of h s (n : Int) (psX_lt _ _) (ps_kind _ _) (fun W => rparse_yes s hs n hr W) W⟩
    · have h0 : b ≠ 0 := fun q => hb (Or.inl q)
      have h1 : b < 2 ∨ 36 < b := by
        by_cases q : b < 2
        · exact Or.inl q
        · exact Or.inr (by by_cases z : b ≤ 36; exact absurd (Or.inr ⟨by omega, z⟩) hb; omega)
      exact ⟨_, _, fun W hg => wunsigned_of h s hs b (X := 0) (E := 7) (fun W => (parse_no s hs b h0 h1 W).mono (fun e w' ⟨v, a1, a2, a3⟩ => ⟨v, a1, Or.inr ⟨by decide, a2⟩, a3⟩)) W hg, fun W => rwunsigned_of h s b (X := 0) (E := 7) (by decide) (Or.inr (Or.inr ⟨by decide, by decide, rfl⟩)) (fun W => (rparse_no s b h0 h1 W).mono (fun e w' ⟨a1, a2⟩ => ⟨a1, by rw [a2]; exact Below.refl _ _⟩)) W⟩
  · exact ⟨0, 6, fun W hg => (wunsigned_no h s hs b W hg).mono (fun e w' ⟨v, a1, a2, a3⟩ => ⟨v, a1, Or.inr ⟨by decide, a2⟩, a3⟩), fun W => (rwunsigned_no h s b W).mono (fun e w' ⟨a1, a2⟩ => ⟨a1, by rw [a2]; exact Below.refl _ _⟩)⟩
theorem signed_both (s : ByteArray) (hs : s.size ≤ 140737488355328) (b w : Int) : ∃ (X : Int) (E : Nat),
    (∀ W, ErrT W → Calls Tryd.prog 19 #[.string s, .int .i64 b, .int .i64 w] W fun e w' => ∃ x, e = .returned (.tuple #[.int .i64 X, x]) ∧ ErV w' (E : Int) ⟨#[83, 105, 103, 110, 101, 100]⟩ s x ∧ Below W.heap.size W w') ∧
    (∀ W, Calls Tryd.prog 20 #[.string s, .int .i64 b, .int .i64 w] W fun e w' => e = .returned (.tuple #[.int .i64 X, .int .i64 (E : Int)]) ∧ Below W.heap.size W w') := by
  rcases wd_cases w with ⟨M, H, L, h⟩ | h
  · by_cases hb : b = 0 ∨ (2 ≤ b ∧ b ≤ 36)
    · obtain ⟨n, rfl⟩ : ∃ n : Nat, b = (n : Int) := ⟨b.toNat, by omega⟩
      have hr : readB n := by
        rcases hb with q | ⟨q1, q2⟩
        · exact Or.inl (by omega)
        · exact Or.inr ⟨by omega, by omega⟩
      exact ⟨_, _, fun W hg => wsigned_of h s hs (n : Int) (fun W hg => iparse_yes s hs n hr W hg) W hg, fun W => rwsigned_of h s (n : Int) (ip_kind _ _) (fun W => riparse_yes s hs n hr W) W⟩
    · have h0 : b ≠ 0 := fun q => hb (Or.inl q)
      have h1 : b < 2 ∨ 36 < b := by
        by_cases q : b < 2
        · exact Or.inl q
        · exact Or.inr (by by_cases z : b ≤ 36; exact absurd (Or.inr ⟨by omega, z⟩) hb; omega)
      exact ⟨_, _, fun W hg => wsigned_of h s hs b (X := 0) (E := 7) (fun W hg => (iparse_no s hs b h0 h1 W hg).mono (fun e w' ⟨v, a1, a2, a3⟩ => ⟨v, a1, Or.inr ⟨by decide, a2⟩, a3⟩)) W hg, fun W => rwsigned_of h s b (X := 0) (E := 7) (Or.inr (Or.inr ⟨by decide, by decide, rfl⟩)) (fun W => (riparse_no s b h0 h1 W).mono (fun e w' ⟨a1, a2⟩ => ⟨a1, by rw [a2]; exact Below.refl _ _⟩)) W⟩
  · exact ⟨0, 6, fun W hg => (wsigned_no h s hs b W hg).mono (fun e w' ⟨v, a1, a2, a3⟩ => ⟨v, a1, Or.inr ⟨by decide, a2⟩, a3⟩), fun W => (rwsigned_no h s b W).mono (fun e w' ⟨a1, a2⟩ => ⟨a1, by rw [a2]; exact Below.refl _ _⟩)⟩
theorem tell_both (v : Nat) (hv : v < 18446744073709551616) (b w : Int) : ∃ (S : ByteArray) (E : Nat),
    (∀ W, ErrT W → Calls Tryd.prog 21 #[.int .u64 (v : Int), .int .i64 b, .int .i64 w] W fun e w' => ∃ x, e = .returned (.tuple #[.string S, x]) ∧ ErV w' (E : Int) ⟨#[84, 101, 108, 108]⟩ ⟨#[]⟩ x ∧ Below W.heap.size W w') ∧
    (∀ W, Calls Tryd.prog 22 #[.int .u64 (v : Int), .int .i64 b, .int .i64 w] W fun e w' => e = .returned (.tuple #[.string S, .int .i64 (E : Int)]) ∧ w' = W) := by
  rcases wd_cases w with ⟨M, H, L, h⟩ | h
  · by_cases hb : b < 2 ∨ 36 < b
    · exact ⟨_, _, fun W hg => wtell_of h (v : Int) b (S := ⟨#[]⟩) (E := 7) (fun W => (format_no (v : Int) b hb W).mono (fun e w' ⟨y, a1, a2, a3⟩ => ⟨y, a1, Or.inr ⟨by decide, a2⟩, a3⟩)) W hg, fun W => rwtell_of h (v : Int) b (S := ⟨#[]⟩) (E := 7) (fun _ => rfl) (fun W => (rformat_no (v : Int) b hb W)) W⟩
    · obtain ⟨n, rfl⟩ : ∃ n : Nat, b = (n : Int) := ⟨b.toNat, by omega⟩
      exact ⟨_, _, fun W hg => wtell_of h (v : Int) (n : Int) (E := 0) (fun W => (format_yes v n hv (by omega) (by omega) W).mono (fun e w' ⟨a1, a2⟩ => ⟨_, a1, Or.inl ⟨rfl, rfl⟩, a2⟩)) W hg, fun W => rwtell_of h (v : Int) (n : Int) (E := 0) (fun q => absurd rfl q) (fun W => (rformat_yes v n hv (by omega) (by omega) W)) W⟩
  · exact ⟨⟨#[]⟩, 6, fun W hg => (wtell_no h (v : Int) b W hg).mono (fun e w' ⟨v, a1, a2, a3⟩ => ⟨v, a1, Or.inr ⟨by decide, a2⟩, a3⟩), fun W => rwtell_no h (v : Int) b W⟩
theorem tellsigned_both (v : Int) (h1 : -9223372036854775808 ≤ v) (h2 : v ≤ 9223372036854775807) (b w : Int) : ∃ (S : ByteArray) (E : Nat),
    (∀ W, ErrT W → Calls Tryd.prog 23 #[.int .i64 v, .int .i64 b, .int .i64 w] W fun e w' => ∃ x, e = .returned (.tuple #[.string S, x]) ∧ ErV w' (E : Int) ⟨#[84, 101, 108, 108, 83, 105, 103, 110, 101, 100]⟩ ⟨#[]⟩ x ∧ Below W.heap.size W w') ∧
    (∀ W, Calls Tryd.prog 24 #[.int .i64 v, .int .i64 b, .int .i64 w] W fun e w' => e = .returned (.tuple #[.string S, .int .i64 (E : Int)]) ∧ w' = W) := by
  rcases wd_cases w with ⟨M, H, L, h⟩ | h
  · by_cases hb : b < 2 ∨ 36 < b
    · exact ⟨_, _, fun W hg => wtellsigned_of h v b (S := ⟨#[]⟩) (E := 7) (fun W hg => (iformat_err v h1 h2 b (n := 7) (fun W => format_no v.natAbs b hb W) W hg).mono (fun e w' ⟨y, a1, a2, a3⟩ => ⟨y, a1, Or.inr ⟨by decide, a2⟩, a3⟩)) W hg, fun W => rwtellsigned_of h v b (S := ⟨#[]⟩) (E := 7) (fun _ => rfl) (fun W => (riformat_err v h1 h2 b (n := 7) (by decide) (fun W => rformat_no v.natAbs b hb W) W)) W⟩
    · obtain ⟨n, rfl⟩ : ∃ n : Nat, b = (n : Int) := ⟨b.toNat, by omega⟩
      exact ⟨_, _, fun W hg => wtellsigned_of h v (n : Int) (E := 0) (fun W _ => (iformat_yes v h1 h2 n (by omega) (by omega) W).mono (fun e w' ⟨a1, a2⟩ => ⟨_, a1, Or.inl ⟨rfl, rfl⟩, a2⟩)) W hg, fun W => rwtellsigned_of h v (n : Int) (E := 0) (fun q => absurd rfl q) (fun W => (riformat_yes v h1 h2 n (by omega) (by omega) W)) W⟩
  · exact ⟨⟨#[]⟩, 6, fun W hg => (wtellsigned_no h v b W hg).mono (fun e w' ⟨v, a1, a2, a3⟩ => ⟨v, a1, Or.inr ⟨by decide, a2⟩, a3⟩), fun W => rwtellsigned_no h v b W⟩
end Go.Proofs.YtoabdoognadijaaDoor
