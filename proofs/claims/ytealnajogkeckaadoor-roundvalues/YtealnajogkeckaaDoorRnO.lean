/-
  What the document's finite, Value and Half of layer 12 answer, and that both sides' Value and Half are the same.
-/
import Derived.Test.YtealnajogkeckaaDoorRnK
namespace Go.Proofs.YtealnajogkeckaaDoor
open Go.RowKit

theorem runp_z {s : Int} {g n f T : Nat} {L : Int} (h : Fz s g n f T L) {b : Nat} (hb : b < 2 * g) (w : World) : Calls Tryd.prog 72 #[.int .u64 (b : Int), .int .i64 s] w fun e w' => e = .returned (.tuple #[.agg #[.bool (uN g n b), .int .i64 (cl n (mg g b)), .int .u64 ((uM n f (mg g b) : Nat) : Int), .int .i64 (uE n f L (mg g b))], .int .i64 0]) ∧ Below w.heap.size w w' := by
  rcases h with ⟨rfl, rfl, rfl, rfl, rfl, rfl⟩ | ⟨rfl, rfl, rfl, rfl, rfl, rfl⟩
  · exact runp_32 hb w
  · exact runp_64 hb w
theorem fits_lt {X : Nat} (h : Fits 100 X) : X < B ^ 128 := by
  have q := (h.up (show 100 ≤ 2 * 128 by omega)).lt
  rw [← BB_pow] at q
  exact q
theorem words_nat {w : World} {va : Value} {X : Nat} (ha : Big.NatV w va X) (hX : Fits 100 X) : Calls Tryd.prog 43 #[va] w fun e w' => ∃ v, e = .returned (.tuple #[v, .int .i64 0]) ∧ NatV w' v X ∧ Below w.heap.size w w' := by
  have T := words_any ha (hX.up (by omega))
  rw [show wE X = 0 from if_pos (fits_lt hX), show wR X = X from if_pos (fits_lt hX)] at T
  exact T
set_option maxRecDepth 100000 in
set_option maxHeartbeats 1000000 in
theorem rfin_err {s b : Int} {x0 : Bool} {x1 x2 x3 : Int} {w : World} {k : Int} (k0 : (k == 0) = false) (H : ∀ W, Calls Tryd.prog 72 #[.int .u64 b, .int .i64 s] W fun e w' => e = .returned (.tuple #[.agg #[.bool x0, .int .i64 x1, .int .u64 x2, .int .i64 x3], .int .i64 k]) ∧ Below W.heap.size W w') : Calls Tryd.prog 41 #[.int .u64 b, .int .i64 s] w fun e w' => e = .returned (.tuple #[.agg #[.bool x0, .int .i64 x1, .int .u64 x2, .int .i64 x3], .int .i64 k]) ∧ Below w.heap.size w w' := by
  go_enter Tryd.func41, Tryd.ntmps41
  go_wp2_with fail
  refine (H _).mono ?_
  rintro e w1 ⟨rfl, hb⟩
  have X1 : Hid (FlB w1 w.heap.size _ _ _ _) := (FlB.new w (.bool false) (.int .i64 0) (.int .u64 0) (.int .i64 0) 80).step hb
  have B1 : Hid (Below w.heap.size w w1) := ((Below.refl _ _).alloc (Nat.le_refl _) _).trans (hb.mono (by simp))
  clear hb
  obtain ⟨l, a0, a1, a2, a3, f0, f1, f2, f3⟩ := X1.out
  go_wp2
  exact bodyPost_ret (v := .tuple #[.agg #[.bool x0, .int .i64 x1, .int .u64 x2, .int .i64 x3], .int .i64 k]) (by simp [results, Tryd.results41, go_sem, World.cell?_setCell_same, World.cell?_setCell_other, World.cell?_alloc_lt, *]) rfl ⟨rfl, ((((B1.out.setCell (Nat.le_refl _) _).setCell (Nat.le_refl _) _).setCell (Nat.le_refl _) _).setCell (Nat.le_refl _) _).alloc (by simp; omega) _⟩
set_option maxRecDepth 100000 in
set_option maxHeartbeats 1000000 in
theorem rfin_three {s b : Int} {x0 : Bool} {x2 x3 : Int} {w : World}  (H : ∀ W, Calls Tryd.prog 72 #[.int .u64 b, .int .i64 s] W fun e w' => e = .returned (.tuple #[.agg #[.bool x0, .int .i64 3, .int .u64 x2, .int .i64 x3], .int .i64 0]) ∧ Below W.heap.size W w') : Calls Tryd.prog 41 #[.int .u64 b, .int .i64 s] w fun e w' => e = .returned (.tuple #[.agg #[.bool x0, .int .i64 3, .int .u64 x2, .int .i64 x3], .int .i64 1]) ∧ Below w.heap.size w w' := by
  go_enter Tryd.func41, Tryd.ntmps41
  go_wp2_with fail
  refine (H _).mono ?_
  rintro e w1 ⟨rfl, hb⟩
  have X1 : Hid (FlB w1 w.heap.size _ _ _ _) := (FlB.new w (.bool false) (.int .i64 0) (.int .u64 0) (.int .i64 0) 80).step hb
  have B1 : Hid (Below w.heap.size w w1) := ((Below.refl _ _).alloc (Nat.le_refl _) _).trans (hb.mono (by simp))
  clear hb
  obtain ⟨l, a0, a1, a2, a3, f0, f1, f2, f3⟩ := X1.out
  go_wp2
  exact bodyPost_ret (v := .tuple #[.agg #[.bool x0, .int .i64 3, .int .u64 x2, .int .i64 x3], .int .i64 1]) (by simp [results, Tryd.results41, go_sem, World.cell?_setCell_same, World.cell?_setCell_other, World.cell?_alloc_lt, *]) rfl ⟨rfl, ((((B1.out.setCell (Nat.le_refl _) _).setCell (Nat.le_refl _) _).setCell (Nat.le_refl _) _).setCell (Nat.le_refl _) _).alloc (by simp; omega) _⟩
set_option maxRecDepth 100000 in
set_option maxHeartbeats 1000000 in
theorem rfin_four {s b : Int} {x0 : Bool} {x2 x3 : Int} {w : World}  (H : ∀ W, Calls Tryd.prog 72 #[.int .u64 b, .int .i64 s] W fun e w' => e = .returned (.tuple #[.agg #[.bool x0, .int .i64 4, .int .u64 x2, .int .i64 x3], .int .i64 0]) ∧ Below W.heap.size W w') : Calls Tryd.prog 41 #[.int .u64 b, .int .i64 s] w fun e w' => e = .returned (.tuple #[.agg #[.bool x0, .int .i64 4, .int .u64 x2, .int .i64 x3], .int .i64 1]) ∧ Below w.heap.size w w' := by
  go_enter Tryd.func41, Tryd.ntmps41
  go_wp2_with fail
  refine (H _).mono ?_
  rintro e w1 ⟨rfl, hb⟩
  have X1 : Hid (FlB w1 w.heap.size _ _ _ _) := (FlB.new w (.bool false) (.int .i64 0) (.int .u64 0) (.int .i64 0) 80).step hb
  have B1 : Hid (Below w.heap.size w w1) := ((Below.refl _ _).alloc (Nat.le_refl _) _).trans (hb.mono (by simp))
  clear hb
  obtain ⟨l, a0, a1, a2, a3, f0, f1, f2, f3⟩ := X1.out
  go_wp2
  exact bodyPost_ret (v := .tuple #[.agg #[.bool x0, .int .i64 4, .int .u64 x2, .int .i64 x3], .int .i64 1]) (by simp [results, Tryd.results41, go_sem, World.cell?_setCell_same, World.cell?_setCell_other, World.cell?_alloc_lt, *]) rfl ⟨rfl, ((((B1.out.setCell (Nat.le_refl _) _).setCell (Nat.le_refl _) _).setCell (Nat.le_refl _) _).setCell (Nat.le_refl _) _).alloc (by simp; omega) _⟩
set_option maxRecDepth 100000 in
set_option maxHeartbeats 1000000 in
theorem rfin_ok {s b : Int} {x0 : Bool} {x1 x2 x3 : Int} {w : World} (q3 : (x1 == 3) = false) (q4 : (x1 == 4) = false) (H : ∀ W, Calls Tryd.prog 72 #[.int .u64 b, .int .i64 s] W fun e w' => e = .returned (.tuple #[.agg #[.bool x0, .int .i64 x1, .int .u64 x2, .int .i64 x3], .int .i64 0]) ∧ Below W.heap.size W w') : Calls Tryd.prog 41 #[.int .u64 b, .int .i64 s] w fun e w' => e = .returned (.tuple #[.agg #[.bool x0, .int .i64 x1, .int .u64 x2, .int .i64 x3], .int .i64 0]) ∧ Below w.heap.size w w' := by
  go_enter Tryd.func41, Tryd.ntmps41
  go_wp2_with fail
  refine (H _).mono ?_
  rintro e w1 ⟨rfl, hb⟩
  have X1 : Hid (FlB w1 w.heap.size _ _ _ _) := (FlB.new w (.bool false) (.int .i64 0) (.int .u64 0) (.int .i64 0) 80).step hb
  have B1 : Hid (Below w.heap.size w w1) := ((Below.refl _ _).alloc (Nat.le_refl _) _).trans (hb.mono (by simp))
  clear hb
  obtain ⟨l, a0, a1, a2, a3, f0, f1, f2, f3⟩ := X1.out
  go_wp2
  exact bodyPost_ret (v := .tuple #[.agg #[.bool x0, .int .i64 x1, .int .u64 x2, .int .i64 x3], .int .i64 0]) (by simp [results, Tryd.results41, go_sem, World.cell?_setCell_same, World.cell?_setCell_other, World.cell?_alloc_lt, *]) rfl ⟨rfl, ((((B1.out.setCell (Nat.le_refl _) _).setCell (Nat.le_refl _) _).setCell (Nat.le_refl _) _).setCell (Nat.le_refl _) _).alloc (by simp; omega) _⟩
set_option maxRecDepth 100000 in
set_option maxHeartbeats 1000000 in
theorem rvalue_err {s b : Int} {x0 : Bool} {x1 x2 x3 k : Int} (k0 : (k == 0) = false) {w : World} (H : ∀ W, Calls Tryd.prog 41 #[.int .u64 b, .int .i64 s] W fun e w' => e = .returned (.tuple #[.agg #[.bool x0, .int .i64 x1, .int .u64 x2, .int .i64 x3], .int .i64 k]) ∧ Below W.heap.size W w') : Calls Tryd.prog 18 #[.int .u64 b, .int .i64 s] w fun e w' => e = .returned (.tuple #[.bool false, .slice none 0 0, .slice none 0 0, .int .i64 k]) ∧ Below w.heap.size w w' := by
  go_enter Tryd.func18, Tryd.ntmps18
  go_wp2_with fail
  refine (H _).mono ?_
  rintro e w1 ⟨rfl, hb⟩
  have B1 : Hid (Below w.heap.size w w1) := hb
  clear hb
  go_wp2
  exact bodyPost_ret (v := .tuple #[.bool false, .slice none 0 0, .slice none 0 0, .int .i64 k]) (by simp [results, Tryd.results18, go_sem]) rfl ⟨rfl, B1.out.alloc B1.out.size _⟩
set_option maxRecDepth 100000 in
set_option maxHeartbeats 1000000 in
theorem rhalf_err {s b : Int} {x0 : Bool} {x1 x2 x3 k : Int} (k0 : (k == 0) = false) {w : World} (H : ∀ W, Calls Tryd.prog 41 #[.int .u64 b, .int .i64 s] W fun e w' => e = .returned (.tuple #[.agg #[.bool x0, .int .i64 x1, .int .u64 x2, .int .i64 x3], .int .i64 k]) ∧ Below W.heap.size W w') : Calls Tryd.prog 20 #[.int .u64 b, .int .i64 s] w fun e w' => e = .returned (.tuple #[.slice none 0 0, .slice none 0 0, .int .i64 k]) ∧ Below w.heap.size w w' := by
  go_enter Tryd.func20, Tryd.ntmps20
  go_wp2_with fail
  refine (H _).mono ?_
  rintro e w1 ⟨rfl, hb⟩
  have B1 : Hid (Below w.heap.size w w1) := hb
  clear hb
  go_wp2
  exact bodyPost_ret (v := .tuple #[.slice none 0 0, .slice none 0 0, .int .i64 k]) (by simp [results, Tryd.results20, go_sem]) rfl ⟨rfl, B1.out.alloc B1.out.size _⟩
set_option maxRecDepth 100000 in
set_option maxHeartbeats 1000000 in
theorem rhalf_neg {s b : Int} {x1 x2 x3 : Int} {w : World} (H : ∀ W, Calls Tryd.prog 41 #[.int .u64 b, .int .i64 s] W fun e w' => e = .returned (.tuple #[.agg #[.bool true, .int .i64 x1, .int .u64 x2, .int .i64 x3], .int .i64 0]) ∧ Below W.heap.size W w') : Calls Tryd.prog 20 #[.int .u64 b, .int .i64 s] w fun e w' => e = .returned (.tuple #[.slice none 0 0, .slice none 0 0, .int .i64 1]) ∧ Below w.heap.size w w' := by
  go_enter Tryd.func20, Tryd.ntmps20
  go_wp2_with fail
  refine (H _).mono ?_
  rintro e w1 ⟨rfl, hb⟩
  have B1 : Hid (Below w.heap.size w w1) := hb
  clear hb
  go_wp2
  exact bodyPost_ret (v := .tuple #[.slice none 0 0, .slice none 0 0, .int .i64 1]) (by simp [results, Tryd.results20, go_sem]) rfl ⟨rfl, B1.out.alloc B1.out.size _⟩
set_option maxRecDepth 100000 in
set_option maxHeartbeats 1000000 in
theorem rvalue_walk {s b : Int} {x0 : Bool} {x1 : Int} {x2 : Nat} {x3 : Int} {w : World} (h2 : x2 < 18446744073709551616) (h0 : -1100 ≤ x3) (h1 : x3 ≤ 1000) (H : ∀ W, Calls Tryd.prog 41 #[.int .u64 b, .int .i64 s] W fun e w' => e = .returned (.tuple #[.agg #[.bool x0, .int .i64 x1, .int .u64 (x2 : Int), .int .i64 x3], .int .i64 0]) ∧ Below W.heap.size W w') : Calls Tryd.prog 18 #[.int .u64 b, .int .i64 s] w fun e w' => ∃ (v1 v2 : Value) (N D : Nat), e = .returned (.tuple #[.bool x0, v1, v2, .int .i64 0]) ∧ NatV w' v1 N ∧ NatV w' v2 D ∧ Frc N D x2 x3 ∧ Below w.heap.size w w' := by
  have HR := fun W => rexact_ok h2 h0 h1 W
  clear h2 h0 h1
  go_enter Tryd.func18, Tryd.ntmps18
  go_wp2_with fail
  refine (H _).mono ?_
  rintro e w1 ⟨rfl, hb⟩
  have B2 : Hid (Below w.heap.size w (w1.alloc (.cells #[.bool x0, .int .i64 x1, .int .u64 (x2 : Int), .int .i64 x3] 80))) := hb.alloc hb.size _
  have X2 : Hid (FlB (w1.alloc (.cells #[.bool x0, .int .i64 x1, .int .u64 (x2 : Int), .int .i64 x3] 80)) w1.heap.size _ _ _ _) := FlB.new w1 _ _ _ _ _
  have T := HR (w1.alloc (.cells #[.bool x0, .int .i64 x1, .int .u64 (x2 : Int), .int .i64 x3] 80))
  clear hb H HR
  go_wp2_with fail
  refine T.mono ?_
  rintro x w3 ⟨v1, v2, N, D, rfl, n1, n2, hf, f1, f2, hb⟩
  have N3 : Hid (Big.NatV w3 v2 D ∧ Fits 100 D ∧ Frc N D x2 x3 ∧ Below w.heap.size w w3) := ⟨n2, f2, hf, B2.out.trans (hb.mono B2.out.size)⟩
  have K3 : Hid (FlB w3 w1.heap.size _ _ _ _) := X2.out.step hb
  have T1 := words_nat n1 f1
  clear hb n1 n2 hf f1 f2 T B2 X2
  go_wp2_with fail
  refine T1.mono ?_
  rintro x w4 ⟨v3, rfl, n3, hb⟩
  have N4 : Hid (NatV w4 v3 N ∧ Frc N D x2 x3 ∧ Below w.heap.size w w4) := ⟨n3, N3.out.2.2.1, N3.out.2.2.2.trans (hb.mono N3.out.2.2.2.size)⟩
  have K4 : Hid (FlB w4 w1.heap.size _ _ _ _) := K3.out.step hb
  have T2 := words_nat (N3.out.1.below hb) N3.out.2.1
  clear hb n3 T1 N3 K3
  go_wp2_with fail
  refine T2.mono ?_
  rintro x w5 ⟨v4, rfl, n4, hb⟩
  have N5 : Hid (NatV w5 v3 N ∧ NatV w5 v4 D ∧ Frc N D x2 x3 ∧ Below w.heap.size w w5) := ⟨N4.out.1.below hb, n4, N4.out.2.1, N4.out.2.2.trans (hb.mono N4.out.2.2.size)⟩
  have K5 : Hid (FlB w5 w1.heap.size _ _ _ _) := K4.out.step hb
  clear hb n4 T2 N4 K4
  obtain ⟨_, a0, _, _, _, _, _, _, _⟩ := K5.out
  go_wp2
  exact bodyPost_ret (v := .tuple #[.bool x0, v3, v4, .int .i64 0]) (by simp [results, Tryd.results18, go_sem]) rfl ⟨v3, v4, N, D, rfl, N5.out.1, N5.out.2.1, N5.out.2.2.1, N5.out.2.2.2⟩
set_option maxRecDepth 100000 in
set_option maxHeartbeats 1000000 in
theorem rhalf_fine {s : Int} {g n f T : Nat} {L : Int} (hz : Fz s g n f T L) {b : Int} {x1 : Int} (q1 : (x1 == 1) = false) {x2 : Nat} {x3 : Int} {w : World} (h2 : x2 < 9223372036854775808) (h0 : -1099 ≤ x3) (h1 : x3 ≤ 1000) (H : ∀ W, Calls Tryd.prog 41 #[.int .u64 b, .int .i64 s] W fun e w' => e = .returned (.tuple #[.agg #[.bool false, .int .i64 x1, .int .u64 (x2 : Int), .int .i64 x3], .int .i64 0]) ∧ Below W.heap.size W w') : Calls Tryd.prog 20 #[.int .u64 b, .int .i64 s] w fun e w' => ∃ (v1 v2 : Value) (N D : Nat), e = .returned (.tuple #[v1, v2, .int .i64 0]) ∧ NatV w' v1 N ∧ NatV w' v2 D ∧ Frc N D (2 * x2 + 1) (x3 - 1) ∧ Below w.heap.size w w' := by
  have HR := fun W => rexact_ok (m := 2 * x2 + 1) (e := x3 - 1) (by omega) (by omega) (by omega) W
  have e1 : 2 * (x2 : Int) + 1 = ((2 * x2 + 1 : Nat) : Int) := by omega
  rw [← e1] at HR
  have HF := fun W => rformat_z hz W
  clear e1 hz
  go_enter Tryd.func20, Tryd.ntmps20
  go_wp2_with fail
  refine (H _).mono ?_
  rintro e w1 ⟨rfl, hb⟩
  have B2 : Hid (Below w.heap.size w (w1.alloc (.cells #[.bool false, .int .i64 x1, .int .u64 (x2 : Int), .int .i64 x3] 80))) := hb.alloc hb.size _
  have X2 : Hid (FlB (w1.alloc (.cells #[.bool false, .int .i64 x1, .int .u64 (x2 : Int), .int .i64 x3] 80)) w1.heap.size _ _ _ _) := FlB.new w1 _ _ _ _ _
  clear hb H
  go_wp2_with fail
  refine (HF _).mono ?_
  rintro e w2 ⟨rfl, h2w⟩
  rw [← h2w] at B2 X2
  have W2 : Hid (w2 = _) := h2w
  have T := HR w2
  clear h2w HF HR
  obtain ⟨_, c0, c1, c2, c3, g0, g1, g2, g3⟩ := X2.out
  go_wp2_with fail
  refine T.mono ?_
  rintro x w3 ⟨v1, v2, N, D, rfl, n1, n2, hf, f1, f2, hb⟩
  have N3 : Hid (Big.NatV w3 v2 D ∧ Fits 100 D ∧ Frc N D (2 * x2 + 1) (x3 - 1) ∧ Below w.heap.size w w3) := ⟨n2, f2, hf, B2.out.trans (hb.mono B2.out.size)⟩
  have K3 : Hid (FlB w3 w1.heap.size _ _ _ _) := X2.out.step hb
  have T1 := words_nat n1 f1
  clear hb n1 n2 hf f1 f2 T B2 X2
  go_wp2_with fail
  refine T1.mono ?_
  rintro x w4 ⟨v3, rfl, n3, hb⟩
  have N4 : Hid (NatV w4 v3 N ∧ Frc N D (2 * x2 + 1) (x3 - 1) ∧ Below w.heap.size w w4) := ⟨n3, N3.out.2.2.1, N3.out.2.2.2.trans (hb.mono N3.out.2.2.2.size)⟩
  have K4 : Hid (FlB w4 w1.heap.size _ _ _ _) := K3.out.step hb
  have T2 := words_nat (N3.out.1.below hb) N3.out.2.1
  clear hb n3 T1 N3 K3
  go_wp2_with fail
  refine T2.mono ?_
  rintro x w5 ⟨v4, rfl, n4, hb⟩
  have N5 : Hid (NatV w5 v3 N ∧ NatV w5 v4 D ∧ Frc N D (2 * x2 + 1) (x3 - 1) ∧ Below w.heap.size w w5) := ⟨N4.out.1.below hb, n4, N4.out.2.1, N4.out.2.2.trans (hb.mono N4.out.2.2.size)⟩
  have K5 : Hid (FlB w5 w1.heap.size _ _ _ _) := K4.out.step hb
  clear hb n4 T2 N4 K4
  obtain ⟨_, a0, _, _, _, _, _, _, _⟩ := K5.out
  go_wp2
  exact bodyPost_ret (v := .tuple #[v3, v4, .int .i64 0]) (by simp [results, Tryd.results20, go_sem]) rfl ⟨v3, v4, N, D, rfl, N5.out.1, N5.out.2.1, N5.out.2.2.1, N5.out.2.2.2⟩
set_option maxRecDepth 100000 in
set_option maxHeartbeats 1000000 in
theorem rhalf_zero {s : Int} {g n f T : Nat} {L : Int} (hz : Fz s g n f T L) {b : Int} {x3 : Int} {w : World} (H : ∀ W, Calls Tryd.prog 41 #[.int .u64 b, .int .i64 s] W fun e w' => e = .returned (.tuple #[.agg #[.bool false, .int .i64 1, .int .u64 0, .int .i64 x3], .int .i64 0]) ∧ Below W.heap.size W w') : Calls Tryd.prog 20 #[.int .u64 b, .int .i64 s] w fun e w' => ∃ (v1 v2 : Value) (N D : Nat), e = .returned (.tuple #[v1, v2, .int .i64 0]) ∧ NatV w' v1 N ∧ NatV w' v2 D ∧ Frc N D 1 (L - 1) ∧ Below w.heap.size w w' := by
  have hL : -1074 ≤ L ∧ L ≤ 0 := by rcases hz with ⟨_, _, _, _, _, h⟩ | ⟨_, _, _, _, _, h⟩ <;> omega
  obtain ⟨hL1, hL2⟩ := hL
  have HR := fun W => rexact_ok (m := 1) (e := L - 1) (by omega) (by omega) (by omega) W
  rw [show ((1 : Nat) : Int) = 1 from rfl] at HR
  have HF := fun W => rformat_z hz W
  clear hz
  go_enter Tryd.func20, Tryd.ntmps20
  go_wp2_with fail
  refine (H _).mono ?_
  rintro e w1 ⟨rfl, hb⟩
  have B2 : Hid (Below w.heap.size w (w1.alloc (.cells #[.bool false, .int .i64 1, .int .u64 0, .int .i64 x3] 80))) := hb.alloc hb.size _
  have X2 : Hid (FlB (w1.alloc (.cells #[.bool false, .int .i64 1, .int .u64 0, .int .i64 x3] 80)) w1.heap.size _ _ _ _) := FlB.new w1 _ _ _ _ _
  have s1 : w.heap.size ≤ w1.heap.size := hb.size
  clear hb H
  go_wp2_with fail
  refine (HF _).mono ?_
  rintro e w2 ⟨rfl, h2w⟩
  rw [← h2w] at B2 X2
  have W2 : Hid (w2 = _) := h2w
  have B3 : Hid (Below w.heap.size w (w2.setCell ⟨w1.heap.size, 3, none⟩ (.int .i64 L))) := B2.out.setCell s1 _
  have X3 : Hid (FlB (w2.setCell ⟨w1.heap.size, 3, none⟩ (.int .i64 L)) w1.heap.size _ _ _ _) := X2.out.set3 _
  have T := HR (w2.setCell ⟨w1.heap.size, 3, none⟩ (.int .i64 L))
  clear h2w HF HR
  obtain ⟨_, c0, c1, c2, c3, g0, g1, g2, g3⟩ := X2.out
  clear B2 X2
  have X2 := X3
  clear X3
  go_wp2_with fail
  refine T.mono ?_
  rintro x w3 ⟨v1, v2, N, D, rfl, n1, n2, hf, f1, f2, hb⟩
  have N3 : Hid (Big.NatV w3 v2 D ∧ Fits 100 D ∧ Frc N D 1 (L - 1) ∧ Below w.heap.size w w3) := ⟨n2, f2, hf, B3.out.trans (hb.mono B3.out.size)⟩
  have K3 : Hid (FlB w3 w1.heap.size _ _ _ _) := X2.out.step hb
  have T1 := words_nat n1 f1
  clear hb n1 n2 hf f1 f2 T B3 X2
  go_wp2_with fail
  refine T1.mono ?_
  rintro x w4 ⟨v3, rfl, n3, hb⟩
  have N4 : Hid (NatV w4 v3 N ∧ Frc N D 1 (L - 1) ∧ Below w.heap.size w w4) := ⟨n3, N3.out.2.2.1, N3.out.2.2.2.trans (hb.mono N3.out.2.2.2.size)⟩
  have K4 : Hid (FlB w4 w1.heap.size _ _ _ _) := K3.out.step hb
  have T2 := words_nat (N3.out.1.below hb) N3.out.2.1
  clear hb n3 T1 N3 K3
  go_wp2_with fail
  refine T2.mono ?_
  rintro x w5 ⟨v4, rfl, n4, hb⟩
  have N5 : Hid (NatV w5 v3 N ∧ NatV w5 v4 D ∧ Frc N D 1 (L - 1) ∧ Below w.heap.size w w5) := ⟨N4.out.1.below hb, n4, N4.out.2.1, N4.out.2.2.trans (hb.mono N4.out.2.2.size)⟩
  have K5 : Hid (FlB w5 w1.heap.size _ _ _ _) := K4.out.step hb
  clear hb n4 T2 N4 K4
  obtain ⟨_, a0, _, _, _, _, _, _, _⟩ := K5.out
  go_wp2
  exact bodyPost_ret (v := .tuple #[v3, v4, .int .i64 0]) (by simp [results, Tryd.results20, go_sem]) rfl ⟨v3, v4, N, D, rfl, N5.out.1, N5.out.2.1, N5.out.2.2.1, N5.out.2.2.2⟩
end Go.Proofs.YtealnajogkeckaaDoor
