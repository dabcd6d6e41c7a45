/-
  What the calls of product.times, plus and head answer; wide.Add's, too.
-/
import Derived.Test.YtohbggdkopmpfaaDoorPpM
import Derived.Test.YtohbggdkopmpfaaDoorPb4
import Derived.Test.YtohbggdkopmpfaaDoorPgC
namespace Go.Proofs.YtohbggdkopmpfaaDoor
open Go.RowKit

set_option maxHeartbeats 400000 in
theorem wadd_any (ah al bh bl : Int) (h1 : Word ah) (h2 : Word al) (h3 : Word bh) (h4 : Word bl) (w : World) :
    Calls Tryd.prog 20 #[.agg #[.int .u64 ah, .int .u64 al], .agg #[.int .u64 bh, .int .u64 bl]] w fun e w' =>
      e = .returned (.tuple #[.agg #[.int .u64 (sHi ah al bh bl), .int .u64 (sLo al bl)], .bool (sOv ah al bh bl)]) ∧ Below w.heap.size w w' := by
  have k := a3C_01 h2 h4 (Int.le_refl 0) (by omega : (0:Int) ≤ 1)
  go_enter Tryd.func20, Tryd.ntmps20
  go_wp2_with (first | simp only [add64 al bl 0 h2 h4 (Int.le_refl 0) (by omega : (0:Int) ≤ 1)] | simp only [add64 ah bh _ h1 h3 k.1 k.2])
  exact bodyPost_ret (v := .tuple #[.agg #[.int .u64 (sHi ah al bh bl), .int .u64 (sLo al bl)], .bool (sOv ah al bh bl)]) (by simp [results, Tryd.results20, go_sem, sHi, sLo, sOv]) rfl ⟨rfl, (((Below.refl _ _).alloc (Nat.le_refl _) _).alloc (by simp) _).alloc (by simp; omega) _⟩

/-- A number of three words as an array. -/
def lgV (X : Nat) : Value := .agg #[.int .u64 (x2 X), .int .u64 (x1 X), .int .u64 (x0 X)]

set_option maxRecDepth 100000 in
set_option maxHeartbeats 1000000 in
theorem times_ok {M b : Nat} (hM : M < 2 ^ 128) (hb : b < 18446744073709551616) (w : World) : Calls Tryd.prog 21 #[.agg #[.int .u64 (hiW M), .int .u64 (loW M)], .int .u64 (b : Int)] w fun e w' => e = .returned (lgV (M * b)) ∧ Below w.heap.size w w' := by
  have MW := fun W => wmulw_any (hiW M) (loW M) (b : Int) (hiW_word hM) (loW_word M) ⟨by omega, by omega⟩ W
  obtain ⟨e2, e1, e0⟩ := mul_words M b
  rw [e2, e1, e0] at MW
  unfold lgV
  generalize x2 (M * b) = a2 at *
  generalize x1 (M * b) = a1 at *
  generalize x0 (M * b) = a0 at *
  generalize hiW M = h at *
  generalize loW M = l at *
  clear e2 e1 e0 hM hb
  go_enter Tryd.func21, Tryd.ntmps21
  go_wp2_with fail
  refine (MW _).mono ?_
  rintro e w1 ⟨rfl, hb⟩
  have B1 : Hid (Below w.heap.size w w1) := (((Below.refl _ _).alloc (Nat.le_refl _) _).alloc (by simp) _).trans (hb.mono (by simp; omega))
  have G1 : Hid (GrB w1 (w.heap.size + 1) _ _ _) := (by simpa using GrB.new (w.alloc (.cells #[.int .u64 h, .int .u64 l] 36)) (.int .u64 0) (.int .u64 0) (.int .u64 0) 44 : GrB _ (w.heap.size + 1) _ _ _).step hb
  clear hb
  obtain ⟨l1, c0, c1, c2, f0, f1, f2⟩ := G1.out
  go_wp2
  exact bodyPost_ret (v := .agg #[.int .u64 a2, .int .u64 a1, .int .u64 a0]) (by simp [results, Tryd.results21, go_sem, World.cell?_setCell_same, World.cell?_setCell_other, *]) rfl ⟨rfl, (((B1.out.setCell (Nat.le_succ _) _).setCell (Nat.le_succ _) _).setCell (Nat.le_succ _) _).alloc (by simpa using B1.out.size) _⟩

set_option maxRecDepth 100000 in
set_option maxHeartbeats 1000000 in
theorem plus_ok {X D : Nat} (hD : D < 2 ^ 128) (hX : X + D < 2 ^ 192) (w : World) : Calls Tryd.prog 22 #[lgV X, .agg #[.int .u64 (hiW D), .int .u64 (loW D)]] w fun e w' => e = .returned (lgV (X + D)) ∧ Below w.heap.size w w' := by
  have AD := fun W => wadd_any (x1 X) (x0 X) (hiW D) (loW D) (x1_word X) (x0_word X) (hiW_word hD) (loW_word D) W
  obtain ⟨e1, e0, c0, c1⟩ := sum_words hD hX
  have hw := x2_word (X := X) (by omega)
  unfold Word at hw
  rw [e1, e0] at AD
  unfold lgV
  generalize sOv (x1 X) (x0 X) (hiW D) (loW D) = ov at *
  generalize x2 (X + D) = a2 at *
  generalize x1 (X + D) = a1 at *
  generalize x0 (X + D) = a0 at *
  generalize x2 X = b2 at *
  generalize x1 X = b1 at *
  generalize x0 X = b0 at *
  generalize hiW D = h at *
  generalize loW D = l at *
  clear e1 e0 hD hX
  have G0 : Hid (GrB (((w.alloc (.cells #[.int .u64 b2, .int .u64 b1, .int .u64 b0] 44)).alloc (.cells #[.int .u64 h, .int .u64 l] 36)).alloc (.cells #[.int .u64 0, .int .u64 0, .int .u64 0] 44)) w.heap.size _ _ _) := ((GrB.new w (.int .u64 b2) (.int .u64 b1) (.int .u64 b0) 44).al _).al _
  have R0 : Hid (GrB (((w.alloc (.cells #[.int .u64 b2, .int .u64 b1, .int .u64 b0] 44)).alloc (.cells #[.int .u64 h, .int .u64 l] 36)).alloc (.cells #[.int .u64 0, .int .u64 0, .int .u64 0] 44)) (w.heap.size + 2) (.int .u64 0) (.int .u64 0) (.int .u64 0)) := by
    show GrB _ _ _ _ _
    have q := GrB.new ((w.alloc (.cells #[.int .u64 b2, .int .u64 b1, .int .u64 b0] 44)).alloc (.cells #[.int .u64 h, .int .u64 l] 36)) (.int .u64 0) (.int .u64 0) (.int .u64 0) 44
    simpa using q
  have B0 : Hid (Below w.heap.size w (((w.alloc (.cells #[.int .u64 b2, .int .u64 b1, .int .u64 b0] 44)).alloc (.cells #[.int .u64 h, .int .u64 l] 36)).alloc (.cells #[.int .u64 0, .int .u64 0, .int .u64 0] 44))) := (((Below.refl _ _).alloc (Nat.le_refl _) _).alloc (by simp) _).alloc (by simp; omega) _
  cases ov
  · obtain rfl := c0 rfl
    clear c0 c1
    go_enter Tryd.func22, Tryd.ntmps22
    go_wp2_with fail
    refine (AD _).mono ?_
    rintro e w1 ⟨rfl, hb⟩
    have G1 : Hid (GrB w1 w.heap.size _ _ _) := G0.out.step hb
    have R1 : Hid (GrB w1 (w.heap.size + 2) _ _ _) := R0.out.step hb
    have B1 : Hid (Below w.heap.size w w1) := B0.out.trans (hb.mono B0.out.size)
    clear hb G0 R0 B0
    obtain ⟨l1, c0, c1, c2, _, _, _⟩ := G1.out
    obtain ⟨l2, d0, d1, d2, g0, g1, g2⟩ := R1.out
    go_wp2
    exact bodyPost_ret (v := .agg #[.int .u64 b2, .int .u64 a1, .int .u64 a0]) (by simp [results, Tryd.results22, go_sem, World.cell?_setCell_same, World.cell?_setCell_other, *]) rfl ⟨rfl, (((B1.out.setCell (Nat.le_add_right _ 2) _).setCell (Nat.le_add_right _ 2) _).setCell (Nat.le_add_right _ 2) _).alloc (by simpa using B1.out.size) _⟩
  · obtain ⟨rfl, hl⟩ := c1 rfl
    clear c0 c1
    go_enter Tryd.func22, Tryd.ntmps22
    go_wp2_with fail
    refine (AD _).mono ?_
    rintro e w1 ⟨rfl, hb⟩
    have G1 : Hid (GrB w1 w.heap.size _ _ _) := G0.out.step hb
    have R1 : Hid (GrB w1 (w.heap.size + 2) _ _ _) := R0.out.step hb
    have B1 : Hid (Below w.heap.size w w1) := B0.out.trans (hb.mono B0.out.size)
    clear hb G0 R0 B0
    obtain ⟨l1, c0, c1, c2, f0, _, _⟩ := G1.out
    obtain ⟨l2, d0, d1, d2, g0, g1, g2⟩ := R1.out
    go_wp2
    exact bodyPost_ret (v := .agg #[.int .u64 (b2 + 1), .int .u64 a1, .int .u64 a0]) (by simp [results, Tryd.results22, go_sem, World.cell?_setCell_same, World.cell?_setCell_other, *]) rfl ⟨rfl, ((((B1.out.setCell (Nat.le_refl _) _).setCell (Nat.le_add_right _ 2) _).setCell (Nat.le_add_right _ 2) _).setCell (Nat.le_add_right _ 2) _).alloc (by simpa using B1.out.size) _⟩

theorem ldz_zero : ldz 0 0 = 128 := by decide +kernel
theorem head_up {X : Nat} : x2 X = hiW (X / 18446744073709551616) ∧ x1 X = loW (X / 18446744073709551616) := by
  unfold x2 x1 hiW loW
  rw [Nat.div_div_eq_div_mul]
  exact ⟨rfl, rfl⟩
set_option maxRecDepth 100000 in
set_option maxHeartbeats 1000000 in
theorem head_z {a2 a1 a0 h : Int} {ld : Int} (h0 : 0 ≤ ld) (h1 : ld ≤ 128) (w : World)
    (LD : ∀ W, Calls Tryd.prog 38 #[.agg #[.int .u64 a2, .int .u64 a1]] W fun e w' => e = .returned (.int .i64 ld) ∧ Below W.heap.size W w')
    (LF : ∀ W, Calls Tryd.prog 39 #[.agg #[.int .u64 a2, .int .u64 a1], .int .i64 ld] W fun e w' => e = .returned (.agg #[.int .u64 h, .int .u64 0]) ∧ Below W.heap.size W w') :
    Calls Tryd.prog 23 #[.agg #[.int .u64 a2, .int .u64 a1, .int .u64 a0]] w fun e w' => e = .returned (.tuple #[.int .u64 h, .int .i64 (128 - ld), .bool (a0 != 0)]) ∧ Below w.heap.size w w' := by
  have G0 : Hid (GrB ((w.alloc (.cells #[.int .u64 a2, .int .u64 a1, .int .u64 a0] 44)).alloc (.cells #[.int .u64 a2, .int .u64 a1] 36)) w.heap.size _ _ _) := (GrB.new w (.int .u64 a2) (.int .u64 a1) (.int .u64 a0) 44).al _
  have T0 : Hid (TwB ((w.alloc (.cells #[.int .u64 a2, .int .u64 a1, .int .u64 a0] 44)).alloc (.cells #[.int .u64 a2, .int .u64 a1] 36)) (w.heap.size + 1) (.int .u64 a2) (.int .u64 a1)) := by
    have q := TwB.new (w.alloc (.cells #[.int .u64 a2, .int .u64 a1, .int .u64 a0] 44)) (.int .u64 a2) (.int .u64 a1) 36
    show TwB _ _ _ _
    simpa using q
  have B0 : Hid (Below w.heap.size w ((w.alloc (.cells #[.int .u64 a2, .int .u64 a1, .int .u64 a0] 44)).alloc (.cells #[.int .u64 a2, .int .u64 a1] 36))) := ((Below.refl _ _).alloc (Nat.le_refl _) _).alloc (by simp) _
  go_enter Tryd.func23, Tryd.ntmps23
  go_wp2_with fail
  refine (LD _).mono ?_
  rintro e w1 ⟨rfl, hb⟩
  have G1 : Hid (GrB w1 w.heap.size _ _ _) := G0.out.step hb
  have T1 : Hid (TwB w1 (w.heap.size + 1) _ _) := T0.out.step hb
  have B1 : Hid (Below w.heap.size w w1) := B0.out.trans (hb.mono B0.out.size)
  clear hb G0 T0 B0
  obtain ⟨_, t0, t1, _, _⟩ := T1.out
  go_wp2_with fail
  refine (LF _).mono ?_
  rintro e w2 ⟨rfl, hb⟩
  have G2 : Hid (GrB w2 w.heap.size _ _ _) := G1.out.step hb
  have T2 : Hid (TwB w2 (w.heap.size + 1) _ _) := T1.out.step hb
  have B2 : Hid (Below w.heap.size w w2) := B1.out.trans (hb.mono B1.out.size)
  clear hb G1 T1 B1 t0 t1
  obtain ⟨l1, c0, c1, c2, f0, _, _⟩ := G2.out
  obtain ⟨l2, t0, t1, g0, g1⟩ := T2.out
  clear LD LF
  go_upto_region 4 with fail
  go_quiet (fail)
  go_wp2
  exact bodyPost_ret (v := .tuple #[.int .u64 h, .int .i64 (128 - ld), .bool (a0 != 0)]) (by simp [results, Tryd.results23, go_sem]) rfl ⟨rfl, below_drewN ((B2.out.setCell (Nat.le_succ _) _).setCell (Nat.le_succ _) _) nq⟩
set_option maxRecDepth 100000 in
set_option maxHeartbeats 1000000 in
theorem head_n {a2 a1 a0 h l : Int} {ld : Int} (h0 : 0 ≤ ld) (h1 : ld ≤ 128) (hl : (l == 0) = false) (w : World)
    (LD : ∀ W, Calls Tryd.prog 38 #[.agg #[.int .u64 a2, .int .u64 a1]] W fun e w' => e = .returned (.int .i64 ld) ∧ Below W.heap.size W w')
    (LF : ∀ W, Calls Tryd.prog 39 #[.agg #[.int .u64 a2, .int .u64 a1], .int .i64 ld] W fun e w' => e = .returned (.agg #[.int .u64 h, .int .u64 l]) ∧ Below W.heap.size W w') :
    Calls Tryd.prog 23 #[.agg #[.int .u64 a2, .int .u64 a1, .int .u64 a0]] w fun e w' => e = .returned (.tuple #[.int .u64 h, .int .i64 (128 - ld), .bool true]) ∧ Below w.heap.size w w' := by
  have G0 : Hid (GrB ((w.alloc (.cells #[.int .u64 a2, .int .u64 a1, .int .u64 a0] 44)).alloc (.cells #[.int .u64 a2, .int .u64 a1] 36)) w.heap.size _ _ _) := (GrB.new w (.int .u64 a2) (.int .u64 a1) (.int .u64 a0) 44).al _
  have T0 : Hid (TwB ((w.alloc (.cells #[.int .u64 a2, .int .u64 a1, .int .u64 a0] 44)).alloc (.cells #[.int .u64 a2, .int .u64 a1] 36)) (w.heap.size + 1) (.int .u64 a2) (.int .u64 a1)) := by
    have q := TwB.new (w.alloc (.cells #[.int .u64 a2, .int .u64 a1, .int .u64 a0] 44)) (.int .u64 a2) (.int .u64 a1) 36
    show TwB _ _ _ _
    simpa using q
  have B0 : Hid (Below w.heap.size w ((w.alloc (.cells #[.int .u64 a2, .int .u64 a1, .int .u64 a0] 44)).alloc (.cells #[.int .u64 a2, .int .u64 a1] 36))) := ((Below.refl _ _).alloc (Nat.le_refl _) _).alloc (by simp) _
  have hl2 : (l != 0) = true := by rw [bne, hl]; rfl
  go_enter Tryd.func23, Tryd.ntmps23
  go_wp2_with fail
  refine (LD _).mono ?_
  rintro e w1 ⟨rfl, hb⟩
  have G1 : Hid (GrB w1 w.heap.size _ _ _) := G0.out.step hb
  have T1 : Hid (TwB w1 (w.heap.size + 1) _ _) := T0.out.step hb
  have B1 : Hid (Below w.heap.size w w1) := B0.out.trans (hb.mono B0.out.size)
  clear hb G0 T0 B0
  obtain ⟨_, t0, t1, _, _⟩ := T1.out
  go_wp2_with fail
  refine (LF _).mono ?_
  rintro e w2 ⟨rfl, hb⟩
  have G2 : Hid (GrB w2 w.heap.size _ _ _) := G1.out.step hb
  have T2 : Hid (TwB w2 (w.heap.size + 1) _ _) := T1.out.step hb
  have B2 : Hid (Below w.heap.size w w2) := B1.out.trans (hb.mono B1.out.size)
  clear hb G1 T1 B1 t0 t1
  obtain ⟨l1, c0, c1, c2, f0, _, _⟩ := G2.out
  obtain ⟨l2, t0, t1, g0, g1⟩ := T2.out
  clear LD LF
  go_upto_region 4 with fail
  go_quiet (fail)
  go_wp2
  exact bodyPost_ret (v := .tuple #[.int .u64 h, .int .i64 (128 - ld), .bool true]) (by simp [results, Tryd.results23, go_sem]) rfl ⟨rfl, below_drewN ((B2.out.setCell (Nat.le_succ _) _).setCell (Nat.le_succ _) _) nq⟩
theorem head_ok {X : Nat} (h0 : X = 0 ∨ 2 ^ 127 ≤ X) (h2 : X < 2 ^ 192) (w : World) : Calls Tryd.prog 23 #[lgV X] w fun e w' =>
    ∃ h b r : Nat, e = .returned (.tuple #[.int .u64 (h : Int), .int .i64 (b : Int), .bool (decide (r ≠ 0))]) ∧ h < 2 ^ 64 ∧ b ≤ 128 ∧ X = h * 2 ^ b + r ∧ r < 2 ^ b ∧ ((X = 0 ∧ h = 0 ∧ r = 0) ∨ 2 ^ 63 ≤ h) ∧ Below w.heap.size w w' := by
  rcases h0 with rfl | h1
  · have LD := fun W => wlead_any 0 0 ⟨by decide, by decide⟩ ⟨by decide, by decide⟩ W
    have LF := fun W => wleft_any 0 0 128 ⟨by decide, by decide⟩ ⟨by decide, by decide⟩ W
    rw [ldz_zero] at LD
    have e : shl (val 0 0) 128 = 0 := by decide +kernel
    rw [e] at LF
    refine (head_z (a0 := 0) (by decide) (by decide) w LD LF).mono ?_
    rintro e w' ⟨rfl, hb⟩
    exact ⟨0, 0, 0, rfl, by decide, by decide, by decide, by decide, .inl ⟨rfl, rfl, rfl⟩, hb⟩
  · obtain ⟨U, b, h, r, hU, u0, u2, hb, b3, b4, c0, hh, q1, q2, hX, hr, hz⟩ := head_math h1 h2
    have LD := fun W => wlead_any (hiW U) (loW U) (hiW_word u2) (loW_word U) W
    have LF := fun W => wleft_any (hiW U) (loW U) ((128 - b : Nat) : Int) (hiW_word u2) (loW_word U) W
    rw [ldz_nat u0 u2, ← hb, show (128 : Int) - (b : Int) = ((128 - b : Nat) : Int) from by omega] at LD
    rw [shl_of rfl c0 _ rfl] at LF
    unfold lgV
    rw [head_up.1, head_up.2, ← hU]
    have eh : hiW (U * 2 ^ (128 - b)) = (h : Int) := by unfold hiW; rw [← hh]
    have eb : (128 : Int) - ((128 - b : Nat) : Int) = (b : Int) := by omega
    rw [eh] at LF
    by_cases z : loW (U * 2 ^ (128 - b)) = 0
    · rw [z] at LF
      refine (head_z (a0 := x0 X) (by omega) (by omega) w LD LF).mono ?_
      rintro e w' ⟨rfl, hb'⟩
      refine ⟨h, b, r, ?_, q2, b3, hX, hr, .inr q1, hb'⟩
      rw [eb]
      have : (x0 X != 0) = decide (r ≠ 0) := by
        unfold loW at z
        unfold x0
        rw [Bool.eq_iff_iff, bne_iff_ne, decide_eq_true_iff, ne_eq, ne_eq, hz]
        omega
      rw [this]
    · refine (head_n (a0 := x0 X) (by omega) (by omega) (by simpa using z) w LD LF).mono ?_
      rintro e w' ⟨rfl, hb'⟩
      refine ⟨h, b, r, ?_, q2, b3, hX, hr, .inr q1, hb'⟩
      rw [eb]
      have : true = decide (r ≠ 0) := by
        unfold loW at z
        rw [eq_comm, decide_eq_true_iff, ne_eq, hz]
        omega
      rw [this]
end Go.Proofs.YtohbggdkopmpfaaDoor
