/-
  What the document's answers of layers 2, 3, 11 and 12 are, as far as layer 14 asks them.
-/
import Derived.Test.YtfoaeholbidngaaGreatDoorEx3c
namespace Go.Proofs.YtfoaeholbidngaaGreatDoor
open Go.RowKit

set_option maxRecDepth 100000 in
set_option maxHeartbeats 1000000 in
theorem rexact_ok {m : Nat} {e : Int} (hm : m < 18446744073709551616) (h0 : -1100 ≤ e) (h1 : e ≤ 1000) (w : World) : Calls Tryz.prog 64 #[.int .u64 (m : Int), .int .i64 e] w fun x w' => ∃ (v1 v2 : Value) (N D : Nat), x = .returned (.tuple #[v1, v2]) ∧ Big.NatV w' v1 N ∧ Big.NatV w' v2 D ∧ Frc N D m e ∧ Fits 100 N ∧ Fits 100 D ∧ Below w.heap.size w w' := by
  have S1 : ∀ W, Calls Tryz.prog 84 #[.int .u64 1] W fun e w' => ∃ v, e = .returned v ∧ Big.NatV w' v 1 ∧ Below W.heap.size W w' := fun W => small_nat 1 (by unfold B; decide) W
  have HM : Hid (m < 18446744073709551616 ∧ -1100 ≤ e ∧ e ≤ 1000) := ⟨hm, h0, h1⟩
  clear hm h0 h1
  go_enter Tryz.func64, Tryz.ntmps64
  go_wp2
  go_loopw [0, 1] (fun mv ev' wr => ∃ (k : Nat) (x : Int), mv = .int .u64 (k : Int) ∧ ev' = .int .i64 x ∧ wr = w ∧ k < 18446744073709551616 ∧ -1100 ≤ x ∧ x ≤ 1000 ∧ Hid (Eqv m e k x ∧ (m = 0 ↔ k = 0))) (fun mv _ _ => (intOf mv).toNat)
  case atStart => exact ⟨m, e, rfl, rfl, rfl, HM.out.1, HM.out.2.1, HM.out.2.2, Eqv.rfl' m e, Iff.rfl⟩
  case round =>
    obtain ⟨k, x, rfl, rfl, rfl, hk, x0, x1, HI⟩ := hrel
    by_cases go : k ≠ 0 ∧ k % 2 = 0 ∧ x < 0
    · obtain ⟨k0, k2, xn⟩ := go
      have e1 : (0 : Int) < (k : Int) := by omega
      have e2 : (k : Int) % 2 = 0 := by omega
      have e3 : (k : Int) / 2 = ((k / 2 : Nat) : Int) := by omega
      have HN : Hid (Eqv m e (k / 2) (x + 1) ∧ (m = 0 ↔ k / 2 = 0)) := ⟨HI.out.1.trans (Eqv.half x k2), by have := HI.out.2; omega⟩
      have k3 : k / 2 < k := by omega
      generalize k / 2 = k' at *
      clear k2 k0
      go_wp2
      go_roundw
      case rel => exact ⟨k', x + 1, rfl, rfl, trivial, by omega, by omega, by omega, HN.out⟩
      case measure => simp [intOf]; omega
    · by_cases k0 : k = 0
      · subst k0
        have hm0 : m = 0 := HI.out.2.2 rfl
        have HF : Hid (Frc 0 1 m e) := by
          refine ⟨⟨min 0 e, by omega, by omega, ?_⟩, 0, rfl, .inr rfl⟩
          unfold ev
          rw [hm0]
          simp
        clear hm0
        go_wp2_with fail
        refine (S1 _).mono ?_
        rintro y w1 ⟨v, rfl, n1, b1⟩
        have N1 : Hid (Big.NatV w1 v 1 ∧ Below wr.heap.size wr w1) := ⟨n1, b1⟩
        clear n1 b1
        go_wp2
        go_ret2
        exact ⟨_, v, 0, 1, rfl, Big.natv_nil w1, N1.out.1, HF.out, (two_fits (s := 0) (k := 100) (by omega)).le (by omega), two_fits (s := 0) (k := 100) (by omega), N1.out.2⟩
      · have S2 := fun W => small_nat k hk W
        have fk : Fits 2 k := Fits.word (n := 1) (by rw [Nat.pow_one]; exact hk)
        have e1 : (0 : Int) < (k : Int) := by omega
        have e0 : ((k : Int) == 0) = false := by simp; omega
        by_cases xp0 : 0 ≤ x
        · obtain ⟨j, hj⟩ : ∃ j : Nat, (j : Int) = x := ⟨x.toNat, by omega⟩
          have HF : Hid (Frc (k * 2 ^ j) 1 m e ∧ Fits 100 (k * 2 ^ j)) := by
            refine ⟨⟨vE_of_eqv ⟨0, Int.le_refl _, xp0, ?_⟩ HI.out.1.symm, 0, rfl, .inr rfl⟩, (fits_shl fk).up (by omega)⟩
            unfold ev
            rw [← hj]
            simp
          have T : ∀ W v, Big.NatV W v k → Calls Tryz.prog 85 #[v, .int .i64 x] W fun e w' => ∃ v, e = .returned v ∧ Big.NatV w' v (k * 2 ^ j) ∧ Below W.heap.size W w' := fun W v h => by
            have q := up_any h (fk.up (by omega)) j (by omega)
            rw [hj] at q
            exact q
          clear hj fk
          by_cases par : k % 2 = 0
          · have e2 : (k : Int) % 2 = 0 := by omega
            clear par
            go_wp2_with fail
            refine (S2 _).mono ?_
            rintro y w1 ⟨v1, rfl, n1, b1⟩
            have N1 : Hid (Big.NatV w1 v1 k ∧ Below wr.heap.size wr w1) := ⟨n1, b1⟩
            have T := T w1 v1 n1
            clear n1 b1
            go_wp2_with fail
            refine T.mono ?_
            rintro y w2 ⟨v2, rfl, n2, b2⟩
            have N2 : Hid (Big.NatV w2 v2 (k * 2 ^ j) ∧ Below wr.heap.size wr w2) := ⟨n2, N1.out.2.trans (b2.mono N1.out.2.size)⟩
            clear n2 b2
            go_wp2_with fail
            refine (S1 _).mono ?_
            rintro y w3 ⟨v3, rfl, n3, b3⟩
            have N3 : Hid (Big.NatV w3 v2 (k * 2 ^ j) ∧ Big.NatV w3 v3 1 ∧ Below wr.heap.size wr w3) := ⟨N2.out.1.below b3, n3, N2.out.2.trans (b3.mono N2.out.2.size)⟩
            clear n3 b3
            go_wp2
            go_ret2
            exact ⟨v2, v3, k * 2 ^ j, 1, rfl, N3.out.1, N3.out.2.1, HF.out.1, HF.out.2, two_fits (s := 0) (k := 100) (by omega), N3.out.2.2⟩
          · have e2 : (k : Int) % 2 = 1 := by omega
            clear par
            go_wp2_with fail
            refine (S2 _).mono ?_
            rintro y w1 ⟨v1, rfl, n1, b1⟩
            have N1 : Hid (Big.NatV w1 v1 k ∧ Below wr.heap.size wr w1) := ⟨n1, b1⟩
            have T := T w1 v1 n1
            clear n1 b1
            go_wp2_with fail
            refine T.mono ?_
            rintro y w2 ⟨v2, rfl, n2, b2⟩
            have N2 : Hid (Big.NatV w2 v2 (k * 2 ^ j) ∧ Below wr.heap.size wr w2) := ⟨n2, N1.out.2.trans (b2.mono N1.out.2.size)⟩
            clear n2 b2
            go_wp2_with fail
            refine (S1 _).mono ?_
            rintro y w3 ⟨v3, rfl, n3, b3⟩
            have N3 : Hid (Big.NatV w3 v2 (k * 2 ^ j) ∧ Big.NatV w3 v3 1 ∧ Below wr.heap.size wr w3) := ⟨N2.out.1.below b3, n3, N2.out.2.trans (b3.mono N2.out.2.size)⟩
            clear n3 b3
            go_wp2
            go_ret2
            exact ⟨v2, v3, k * 2 ^ j, 1, rfl, N3.out.1, N3.out.2.1, HF.out.1, HF.out.2, two_fits (s := 0) (k := 100) (by omega), N3.out.2.2⟩
        · obtain ⟨j, hj⟩ : ∃ j : Nat, (j : Int) = -x := ⟨(-x).toNat, by omega⟩
          have par : k % 2 = 1 := by omega
          have HF : Hid (Frc k (1 * 2 ^ j) m e ∧ Fits 100 k ∧ Fits 100 (1 * 2 ^ j)) := by
            refine ⟨⟨vE_of_eqv ⟨x, by omega, Int.le_refl _, ?_⟩ HI.out.1.symm, j, Nat.one_mul _, .inl par⟩, fk.up (by omega), by rw [Nat.one_mul]; exact two_fits (by omega)⟩
            unfold ev
            rw [show (0 - x).toNat = j from by omega, show (x - x).toNat = 0 from by omega, Nat.pow_zero, Nat.mul_one, Nat.one_mul, Nat.mul_comm]
          have T : ∀ W v, Big.NatV W v 1 → Calls Tryz.prog 85 #[v, .int .i64 (-x)] W fun e w' => ∃ v, e = .returned v ∧ Big.NatV w' v (1 * 2 ^ j) ∧ Below W.heap.size W w' := fun W v h => by
            have q := up_any h (two_fits (s := 0) (k := 1000) (by omega)) j (by omega)
            rw [hj] at q
            exact q
          have e2 : (k : Int) % 2 = 1 := by omega
          have xn : x < 0 := by omega
          clear hj fk par xp0
          go_wp2_with fail
          refine (S2 _).mono ?_
          rintro y w1 ⟨v1, rfl, n1, b1⟩
          have N1 : Hid (Big.NatV w1 v1 k ∧ Below wr.heap.size wr w1) := ⟨n1, b1⟩
          clear n1 b1
          go_wp2_with fail
          refine (S1 _).mono ?_
          rintro y w2 ⟨v2, rfl, n2, b2⟩
          have N2 : Hid (Big.NatV w2 v1 k ∧ Below wr.heap.size wr w2) := ⟨N1.out.1.below b2, N1.out.2.trans (b2.mono N1.out.2.size)⟩
          have T := T w2 v2 n2
          clear n2 b2
          go_wp2_with fail
          refine T.mono ?_
          rintro y w3 ⟨v3, rfl, n3, b3⟩
          have N3 : Hid (Big.NatV w3 v1 k ∧ Big.NatV w3 v3 (1 * 2 ^ j) ∧ Below wr.heap.size wr w3) := ⟨N2.out.1.below b3, n3, N2.out.2.trans (b3.mono N2.out.2.size)⟩
          clear n3 b3
          go_wp2
          go_ret2
          exact ⟨v1, v3, k, 1 * 2 ^ j, rfl, N3.out.1, N3.out.2.1, HF.out.1, HF.out.2.1, HF.out.2.2, N3.out.2.2⟩
theorem runp_z {s : Int} {g n f T : Nat} {L : Int} (h : Fz s g n f T L) {b : Nat} (hb : b < 2 * g) (w : World) : Calls Tryz.prog 50 #[.int .u64 (b : Int), .int .i64 s] w fun e w' => e = .returned (.tuple #[.agg #[.bool (uN g n b), .int .i64 (cl n (mg g b)), .int .u64 ((uM n f (mg g b) : Nat) : Int), .int .i64 (uE n f L (mg g b))], .int .i64 0]) ∧ Below w.heap.size w w' := by
  rcases h with ⟨rfl, rfl, rfl, rfl, rfl, rfl⟩ | ⟨rfl, rfl, rfl, rfl, rfl, rfl⟩
  · exact runp_32 hb w
  · exact runp_64 hb w
theorem fits_lt {X : Nat} (h : Fits 100 X) : X < B ^ 128 := by
  have q := (h.up (show 100 ≤ 2 * 128 by omega)).lt
  rw [← BB_pow] at q
  exact q
theorem words_nat {w : World} {va : Value} {X : Nat} (ha : Big.NatV w va X) (hX : Fits 100 X) : Calls Tryz.prog 65 #[va] w fun e w' => ∃ v, e = .returned (.tuple #[v, .int .i64 0]) ∧ NatV w' v X ∧ Below w.heap.size w w' := by
  have T := words_any ha (hX.up (by omega))
  rw [show wE X = 0 from if_pos (fits_lt hX), show wR X = X from if_pos (fits_lt hX)] at T
  exact T
set_option maxRecDepth 100000 in
set_option maxHeartbeats 1000000 in
theorem rfin_three {s b : Int} {x0 : Bool} {x2 x3 : Int} {w : World}  (H : ∀ W, Calls Tryz.prog 50 #[.int .u64 b, .int .i64 s] W fun e w' => e = .returned (.tuple #[.agg #[.bool x0, .int .i64 3, .int .u64 x2, .int .i64 x3], .int .i64 0]) ∧ Below W.heap.size W w') : Calls Tryz.prog 63 #[.int .u64 b, .int .i64 s] w fun e w' => e = .returned (.tuple #[.agg #[.bool x0, .int .i64 3, .int .u64 x2, .int .i64 x3], .int .i64 1]) ∧ Below w.heap.size w w' := by
  go_enter Tryz.func63, Tryz.ntmps63
  go_wp2_with fail
  refine (H _).mono ?_
  rintro e w1 ⟨rfl, hb⟩
  have X1 : Hid (FlB w1 w.heap.size _ _ _ _) := (FlB.new w (.bool false) (.int .i64 0) (.int .u64 0) (.int .i64 0) 90).step hb
  have B1 : Hid (Below w.heap.size w w1) := ((Below.refl _ _).alloc (Nat.le_refl _) _).trans (hb.mono (by simp))
  clear hb
  obtain ⟨l, a0, a1, a2, a3, f0, f1, f2, f3⟩ := X1.out
  go_wp2
  exact bodyPost_ret (v := .tuple #[.agg #[.bool x0, .int .i64 3, .int .u64 x2, .int .i64 x3], .int .i64 1]) (by simp [results, Tryz.results63, go_sem, World.cell?_setCell_same, World.cell?_setCell_other, World.cell?_alloc_lt, *]) rfl ⟨rfl, ((((B1.out.setCell (Nat.le_refl _) _).setCell (Nat.le_refl _) _).setCell (Nat.le_refl _) _).setCell (Nat.le_refl _) _).alloc (by simp; omega) _⟩
set_option maxRecDepth 100000 in
set_option maxHeartbeats 1000000 in
theorem rfin_four {s b : Int} {x0 : Bool} {x2 x3 : Int} {w : World}  (H : ∀ W, Calls Tryz.prog 50 #[.int .u64 b, .int .i64 s] W fun e w' => e = .returned (.tuple #[.agg #[.bool x0, .int .i64 4, .int .u64 x2, .int .i64 x3], .int .i64 0]) ∧ Below W.heap.size W w') : Calls Tryz.prog 63 #[.int .u64 b, .int .i64 s] w fun e w' => e = .returned (.tuple #[.agg #[.bool x0, .int .i64 4, .int .u64 x2, .int .i64 x3], .int .i64 1]) ∧ Below w.heap.size w w' := by
  go_enter Tryz.func63, Tryz.ntmps63
  go_wp2_with fail
  refine (H _).mono ?_
  rintro e w1 ⟨rfl, hb⟩
  have X1 : Hid (FlB w1 w.heap.size _ _ _ _) := (FlB.new w (.bool false) (.int .i64 0) (.int .u64 0) (.int .i64 0) 90).step hb
  have B1 : Hid (Below w.heap.size w w1) := ((Below.refl _ _).alloc (Nat.le_refl _) _).trans (hb.mono (by simp))
  clear hb
  obtain ⟨l, a0, a1, a2, a3, f0, f1, f2, f3⟩ := X1.out
  go_wp2
  exact bodyPost_ret (v := .tuple #[.agg #[.bool x0, .int .i64 4, .int .u64 x2, .int .i64 x3], .int .i64 1]) (by simp [results, Tryz.results63, go_sem, World.cell?_setCell_same, World.cell?_setCell_other, World.cell?_alloc_lt, *]) rfl ⟨rfl, ((((B1.out.setCell (Nat.le_refl _) _).setCell (Nat.le_refl _) _).setCell (Nat.le_refl _) _).setCell (Nat.le_refl _) _).alloc (by simp; omega) _⟩
set_option maxRecDepth 100000 in
set_option maxHeartbeats 1000000 in
theorem rfin_ok {s b : Int} {x0 : Bool} {x1 x2 x3 : Int} {w : World} (q3 : (x1 == 3) = false) (q4 : (x1 == 4) = false) (H : ∀ W, Calls Tryz.prog 50 #[.int .u64 b, .int .i64 s] W fun e w' => e = .returned (.tuple #[.agg #[.bool x0, .int .i64 x1, .int .u64 x2, .int .i64 x3], .int .i64 0]) ∧ Below W.heap.size W w') : Calls Tryz.prog 63 #[.int .u64 b, .int .i64 s] w fun e w' => e = .returned (.tuple #[.agg #[.bool x0, .int .i64 x1, .int .u64 x2, .int .i64 x3], .int .i64 0]) ∧ Below w.heap.size w w' := by
  go_enter Tryz.func63, Tryz.ntmps63
  go_wp2_with fail
  refine (H _).mono ?_
  rintro e w1 ⟨rfl, hb⟩
  have X1 : Hid (FlB w1 w.heap.size _ _ _ _) := (FlB.new w (.bool false) (.int .i64 0) (.int .u64 0) (.int .i64 0) 90).step hb
  have B1 : Hid (Below w.heap.size w w1) := ((Below.refl _ _).alloc (Nat.le_refl _) _).trans (hb.mono (by simp))
  clear hb
  obtain ⟨l, a0, a1, a2, a3, f0, f1, f2, f3⟩ := X1.out
  go_wp2
  exact bodyPost_ret (v := .tuple #[.agg #[.bool x0, .int .i64 x1, .int .u64 x2, .int .i64 x3], .int .i64 0]) (by simp [results, Tryz.results63, go_sem, World.cell?_setCell_same, World.cell?_setCell_other, World.cell?_alloc_lt, *]) rfl ⟨rfl, ((((B1.out.setCell (Nat.le_refl _) _).setCell (Nat.le_refl _) _).setCell (Nat.le_refl _) _).setCell (Nat.le_refl _) _).alloc (by simp; omega) _⟩
set_option maxRecDepth 100000 in
set_option maxHeartbeats 1000000 in
theorem rhalf_err {s b : Int} {x0 : Bool} {x1 x2 x3 k : Int} (k0 : (k == 0) = false) {w : World} (H : ∀ W, Calls Tryz.prog 63 #[.int .u64 b, .int .i64 s] W fun e w' => e = .returned (.tuple #[.agg #[.bool x0, .int .i64 x1, .int .u64 x2, .int .i64 x3], .int .i64 k]) ∧ Below W.heap.size W w') : Calls Tryz.prog 38 #[.int .u64 b, .int .i64 s] w fun e w' => e = .returned (.tuple #[.slice none 0 0, .slice none 0 0, .int .i64 k]) ∧ Below w.heap.size w w' := by
  go_enter Tryz.func38, Tryz.ntmps38
  go_wp2_with fail
  refine (H _).mono ?_
  rintro e w1 ⟨rfl, hb⟩
  have B1 : Hid (Below w.heap.size w w1) := hb
  clear hb
  go_wp2
  exact bodyPost_ret (v := .tuple #[.slice none 0 0, .slice none 0 0, .int .i64 k]) (by simp [results, Tryz.results38, go_sem]) rfl ⟨rfl, B1.out.alloc B1.out.size _⟩
set_option maxRecDepth 100000 in
set_option maxHeartbeats 1000000 in
theorem rhalf_neg {s b : Int} {x1 x2 x3 : Int} {w : World} (H : ∀ W, Calls Tryz.prog 63 #[.int .u64 b, .int .i64 s] W fun e w' => e = .returned (.tuple #[.agg #[.bool true, .int .i64 x1, .int .u64 x2, .int .i64 x3], .int .i64 0]) ∧ Below W.heap.size W w') : Calls Tryz.prog 38 #[.int .u64 b, .int .i64 s] w fun e w' => e = .returned (.tuple #[.slice none 0 0, .slice none 0 0, .int .i64 1]) ∧ Below w.heap.size w w' := by
  go_enter Tryz.func38, Tryz.ntmps38
  go_wp2_with fail
  refine (H _).mono ?_
  rintro e w1 ⟨rfl, hb⟩
  have B1 : Hid (Below w.heap.size w w1) := hb
  clear hb
  go_wp2
  exact bodyPost_ret (v := .tuple #[.slice none 0 0, .slice none 0 0, .int .i64 1]) (by simp [results, Tryz.results38, go_sem]) rfl ⟨rfl, B1.out.alloc B1.out.size _⟩
set_option maxRecDepth 100000 in
set_option maxHeartbeats 1000000 in
theorem rhalf_fine {s : Int} {g n f T : Nat} {L : Int} (hz : Fz s g n f T L) {b : Int} {x1 : Int} (q1 : (x1 == 1) = false) {x2 : Nat} {x3 : Int} {w : World} (h2 : x2 < 9223372036854775808) (h0 : -1099 ≤ x3) (h1 : x3 ≤ 1000) (H : ∀ W, Calls Tryz.prog 63 #[.int .u64 b, .int .i64 s] W fun e w' => e = .returned (.tuple #[.agg #[.bool false, .int .i64 x1, .int .u64 (x2 : Int), .int .i64 x3], .int .i64 0]) ∧ Below W.heap.size W w') : Calls Tryz.prog 38 #[.int .u64 b, .int .i64 s] w fun e w' => ∃ (v1 v2 : Value) (N D : Nat), e = .returned (.tuple #[v1, v2, .int .i64 0]) ∧ NatV w' v1 N ∧ NatV w' v2 D ∧ Frc N D (2 * x2 + 1) (x3 - 1) ∧ Below w.heap.size w w' := by
  have HR := fun W => rexact_ok (m := 2 * x2 + 1) (e := x3 - 1) (by omega) (by omega) (by omega) W
  have e1 : 2 * (x2 : Int) + 1 = ((2 * x2 + 1 : Nat) : Int) := by omega
  rw [← e1] at HR
  have HF := fun W => rformat_z hz W
  clear e1 hz
  go_enter Tryz.func38, Tryz.ntmps38
  go_wp2_with fail
  refine (H _).mono ?_
  rintro e w1 ⟨rfl, hb⟩
  have B2 : Hid (Below w.heap.size w (w1.alloc (.cells #[.bool false, .int .i64 x1, .int .u64 (x2 : Int), .int .i64 x3] 90))) := hb.alloc hb.size _
  have X2 : Hid (FlB (w1.alloc (.cells #[.bool false, .int .i64 x1, .int .u64 (x2 : Int), .int .i64 x3] 90)) w1.heap.size _ _ _ _) := FlB.new w1 _ _ _ _ _
  clear hb H
  go_wp2_with fail
  refine (HF _).mono ?_
  rintro e w2 ⟨rfl, h2w⟩
  rw [← h2w] at B2 X2
  have W2 : Hid (w2 = _) := h2w
  have T := HR w2
  clear h2w HF HR
  obtain ⟨_, c0, c1, c2, c3, g0, g1, g2, g3⟩ := X2.out
  go_wp2_with fail
  refine T.mono ?_
  rintro x w3 ⟨v1, v2, N, D, rfl, n1, n2, hf, f1, f2, hb⟩
  have N3 : Hid (Big.NatV w3 v2 D ∧ Fits 100 D ∧ Frc N D (2 * x2 + 1) (x3 - 1) ∧ Below w.heap.size w w3) := ⟨n2, f2, hf, B2.out.trans (hb.mono B2.out.size)⟩
  have K3 : Hid (FlB w3 w1.heap.size _ _ _ _) := X2.out.step hb
  have T1 := words_nat n1 f1
  clear hb n1 n2 hf f1 f2 T B2 X2
  go_wp2_with fail
  refine T1.mono ?_
  rintro x w4 ⟨v3, rfl, n3, hb⟩
  have N4 : Hid (NatV w4 v3 N ∧ Frc N D (2 * x2 + 1) (x3 - 1) ∧ Below w.heap.size w w4) := ⟨n3, N3.out.2.2.1, N3.out.2.2.2.trans (hb.mono N3.out.2.2.2.size)⟩
  have K4 : Hid (FlB w4 w1.heap.size _ _ _ _) := K3.out.step hb
  have T2 := words_nat (N3.out.1.below hb) N3.out.2.1
  clear hb n3 T1 N3 K3
  go_wp2_with fail
  refine T2.mono ?_
  rintro x w5 ⟨v4, rfl, n4, hb⟩
  have N5 : Hid (NatV w5 v3 N ∧ NatV w5 v4 D ∧ Frc N D (2 * x2 + 1) (x3 - 1) ∧ Below w.heap.size w w5) := ⟨N4.out.1.below hb, n4, N4.out.2.1, N4.out.2.2.trans (hb.mono N4.out.2.2.size)⟩
  have K5 : Hid (FlB w5 w1.heap.size _ _ _ _) := K4.out.step hb
  clear hb n4 T2 N4 K4
  obtain ⟨_, a0, _, _, _, _, _, _, _⟩ := K5.out
  go_wp2
  exact bodyPost_ret (v := .tuple #[v3, v4, .int .i64 0]) (by simp [results, Tryz.results38, go_sem]) rfl ⟨v3, v4, N, D, rfl, N5.out.1, N5.out.2.1, N5.out.2.2.1, N5.out.2.2.2⟩
set_option maxRecDepth 100000 in
set_option maxHeartbeats 1000000 in
theorem rhalf_zero {s : Int} {g n f T : Nat} {L : Int} (hz : Fz s g n f T L) {b : Int} {x3 : Int} {w : World} (H : ∀ W, Calls Tryz.prog 63 #[.int .u64 b, .int .i64 s] W fun e w' => e = .returned (.tuple #[.agg #[.bool false, .int .i64 1, .int .u64 0, .int .i64 x3], .int .i64 0]) ∧ Below W.heap.size W w') : Calls Tryz.prog 38 #[.int .u64 b, .int .i64 s] w fun e w' => ∃ (v1 v2 : Value) (N D : Nat), e = .returned (.tuple #[v1, v2, .int .i64 0]) ∧ NatV w' v1 N ∧ NatV w' v2 D ∧ Frc N D 1 (L - 1) ∧ Below w.heap.size w w' := by
  have hL : -1074 ≤ L ∧ L ≤ 0 := by rcases hz with ⟨_, _, _, _, _, h⟩ | ⟨_, _, _, _, _, h⟩ <;> omega
  obtain ⟨hL1, hL2⟩ := hL
  have HR := fun W => rexact_ok (m := 1) (e := L - 1) (by omega) (by omega) (by omega) W
  rw [show ((1 : Nat) : Int) = 1 from rfl] at HR
  have HF := fun W => rformat_z hz W
  clear hz
  go_enter Tryz.func38, Tryz.ntmps38
  go_wp2_with fail
  refine (H _).mono ?_
  rintro e w1 ⟨rfl, hb⟩
  have B2 : Hid (Below w.heap.size w (w1.alloc (.cells #[.bool false, .int .i64 1, .int .u64 0, .int .i64 x3] 90))) := hb.alloc hb.size _
  have X2 : Hid (FlB (w1.alloc (.cells #[.bool false, .int .i64 1, .int .u64 0, .int .i64 x3] 90)) w1.heap.size _ _ _ _) := FlB.new w1 _ _ _ _ _
  have s1 : w.heap.size ≤ w1.heap.size := hb.size
  clear hb H
  go_wp2_with fail
  refine (HF _).mono ?_
  rintro e w2 ⟨rfl, h2w⟩
  rw [← h2w] at B2 X2
  have W2 : Hid (w2 = _) := h2w
  have B3 : Hid (Below w.heap.size w (w2.setCell ⟨w1.heap.size, 3, none⟩ (.int .i64 L))) := B2.out.setCell s1 _
  have X3 : Hid (FlB (w2.setCell ⟨w1.heap.size, 3, none⟩ (.int .i64 L)) w1.heap.size _ _ _ _) := X2.out.set3 _
  have T := HR (w2.setCell ⟨w1.heap.size, 3, none⟩ (.int .i64 L))
  clear h2w HF HR
  obtain ⟨_, c0, c1, c2, c3, g0, g1, g2, g3⟩ := X2.out
  clear B2 X2
  have X2 := X3
  clear X3
  go_wp2_with fail
  refine T.mono ?_
  rintro x w3 ⟨v1, v2, N, D, rfl, n1, n2, hf, f1, f2, hb⟩
  have N3 : Hid (Big.NatV w3 v2 D ∧ Fits 100 D ∧ Frc N D 1 (L - 1) ∧ Below w.heap.size w w3) := ⟨n2, f2, hf, B3.out.trans (hb.mono B3.out.size)⟩
  have K3 : Hid (FlB w3 w1.heap.size _ _ _ _) := X2.out.step hb
  have T1 := words_nat n1 f1
  clear hb n1 n2 hf f1 f2 T B3 X2
  go_wp2_with fail
  refine T1.mono ?_
  rintro x w4 ⟨v3, rfl, n3, hb⟩
  have N4 : Hid (NatV w4 v3 N ∧ Frc N D 1 (L - 1) ∧ Below w.heap.size w w4) := ⟨n3, N3.out.2.2.1, N3.out.2.2.2.trans (hb.mono N3.out.2.2.2.size)⟩
  have K4 : Hid (FlB w4 w1.heap.size _ _ _ _) := K3.out.step hb
  have T2 := words_nat (N3.out.1.below hb) N3.out.2.1
  clear hb n3 T1 N3 K3
  go_wp2_with fail
  refine T2.mono ?_
  rintro x w5 ⟨v4, rfl, n4, hb⟩
  have N5 : Hid (NatV w5 v3 N ∧ NatV w5 v4 D ∧ Frc N D 1 (L - 1) ∧ Below w.heap.size w w5) := ⟨N4.out.1.below hb, n4, N4.out.2.1, N4.out.2.2.trans (hb.mono N4.out.2.2.size)⟩
  have K5 : Hid (FlB w5 w1.heap.size _ _ _ _) := K4.out.step hb
  clear hb n4 T2 N4 K4
  obtain ⟨_, a0, _, _, _, _, _, _, _⟩ := K5.out
  go_wp2
  exact bodyPost_ret (v := .tuple #[v3, v4, .int .i64 0]) (by simp [results, Tryz.results38, go_sem]) rfl ⟨v3, v4, N, D, rfl, N5.out.1, N5.out.2.1, N5.out.2.2.1, N5.out.2.2.2⟩
/-- A quotient with 63 or 64 bits, and what is left. -/
def Qt (X Y q r a b : Nat) : Prop := r < Y * 2 ^ b ∧ q * (Y * 2 ^ b) + r = X * 2 ^ a ∧ (a : Int) - (b : Int) = 63 + (bl Y : Int) - (bl X : Int)
theorem Qt.none {Y q r a b : Nat} (y0 : Y ≠ 0) (h : Qt 0 Y q r a b) : q = 0 ∧ r = 0 := by
  obtain ⟨h1, h2, h3⟩ := h
  rw [Nat.zero_mul] at h2
  have p := Nat.mul_pos (Nat.pos_of_ne_zero y0) (Nat.two_pow_pos b)
  rcases Nat.eq_zero_or_pos q with c | c
  · exact ⟨c, by omega⟩
  · have := Nat.mul_pos c p; omega
theorem rsize_z {s : Int} {g n f T : Nat} {L : Int} (h : Fz s g n f T L) (w : World) : Calls Tryz.prog 22 #[.int .i64 s] w fun e w' => e = .returned (.bool true) ∧ w' = w := by
  rcases h with ⟨rfl, rfl, rfl, rfl, rfl, rfl⟩ | ⟨rfl, rfl, rfl, rfl, rfl, rfl⟩
  · exact rsize_32 w
  · exact rsize_64 w
theorem fz_of (s : Int) : Sn s ∨ ∃ g n f T L, Fz s g n f T L := by
  by_cases h1 : s = 32
  · exact .inr ⟨_, _, _, _, _, .inl ⟨h1, rfl, rfl, rfl, rfl, rfl⟩⟩
  · by_cases h2 : s = 64
    · exact .inr ⟨_, _, _, _, _, .inr ⟨h2, rfl, rfl, rfl, rfl, rfl⟩⟩
    · exact .inl ⟨h1, h2⟩
theorem z64 : Fz 64 9223372036854775808 9218868437227405312 52 2047 (-1074) := .inr ⟨rfl, rfl, rfl, rfl, rfl, rfl⟩
theorem z32 : Fz 32 2147483648 2139095040 23 255 (-149) := .inl ⟨rfl, rfl, rfl, rfl, rfl, rfl⟩
theorem Eqv.none (a b : Int) : Eqv 0 a 0 b := ⟨min a b, by omega, by omega, by unfold ev; rw [Nat.zero_mul, Nat.zero_mul]⟩
theorem Frc.none {N D : Nat} {a : Int} (b : Int) (h : Frc N D 0 a) : Frc N D 0 b := ⟨vE_of_eqv h.1 (Eqv.none a b), h.2⟩
theorem mt_nought (f : Nat) : mt f 0 = 0 := by unfold mt; rw [if_pos (Nat.zero_div _)]
theorem xp_nought (f : Nat) (L : Int) : xp f L 0 = L := by unfold xp; rw [if_pos (Nat.zero_div _)]
theorem err_rh {b : Nat} {s k : Int} (H : ∀ W, Calls Tryz.prog 38 #[.int .u64 (b : Int), .int .i64 s] W fun e w' => e = .returned (.tuple #[.slice none 0 0, .slice none 0 0, .int .i64 k]) ∧ Below W.heap.size W w') (W : World) : Calls Tryz.prog 38 #[.int .u64 (b : Int), .int .i64 s] W fun x w' => ∃ v1 v2, x = .returned (.tuple #[v1, v2, .int .i64 k]) ∧ NatV w' v1 0 ∧ NatV w' v2 0 ∧ Below W.heap.size W w' :=
  (H W).mono fun _ w' q => ⟨_, _, q.1, natv_nil w', natv_nil w', q.2⟩
/-- A size, bits that it has or not. -/
theorem bits_cases (b : Nat) (hb : b < 18446744073709551616) (s : Int) : Sn s ∨ (s = 32 ∧ 4294967296 ≤ b) ∨ ∃ g n f T L, Fz s g n f T L ∧ b < 2 * g := by
  rcases fz_of s with h | ⟨g, n, f, T, L, hz⟩
  · exact .inl h
  · have hz' := hz
    rcases hz with ⟨h1, h2, _⟩ | ⟨h1, h2, _⟩
    · by_cases q : b < 4294967296
      · exact .inr (.inr ⟨g, n, f, T, L, hz', by omega⟩)
      · exact .inr (.inl ⟨h1, by omega⟩)
    · exact .inr (.inr ⟨g, n, f, T, L, hz', by omega⟩)
theorem rfin_inf {s : Int} {g n f T : Nat} {L : Int} (hz : Fz s g n f T L) {b : Nat} (hb : b < 2 * g) (hm : ¬ mg g b < n) : ∃ (x0 : Bool) (x1 x2 x3 : Int), ∀ W, Calls Tryz.prog 63 #[.int .u64 (b : Int), .int .i64 s] W fun e w' => e = .returned (.tuple #[.agg #[.bool x0, .int .i64 x1, .int .u64 x2, .int .i64 x3], .int .i64 1]) ∧ Below W.heap.size W w' := by
  have H := fun W => runp_z hz hb W
  have n0 : 0 < n := by rcases hz with ⟨_, _, h, _⟩ | ⟨_, _, h, _⟩ <;> omega
  rcases cl_cases n (mg g b) with ⟨q, k⟩ | ⟨_, _, k⟩ | ⟨_, q, k⟩ | ⟨q, k⟩
  · omega
  · omega
  · rw [k] at H
    exact ⟨_, _, _, _, fun W => rfin_three H⟩
  · rw [k] at H
    exact ⟨_, _, _, _, fun W => rfin_four H⟩
theorem rfin_yes {s : Int} {g n f T : Nat} {L : Int} (hz : Fz s g n f T L) {b : Nat} (hb : b < 2 * g) (hm : mg g b < n) (W : World) : Calls Tryz.prog 63 #[.int .u64 (b : Int), .int .i64 s] W fun e w' => e = .returned (.tuple #[.agg #[.bool (ng g b), .int .i64 (cl n (mg g b)), .int .u64 ((uM n f (mg g b) : Nat) : Int), .int .i64 (uE n f L (mg g b))], .int .i64 0]) ∧ Below W.heap.size W w' := by
  have H := fun W => runp_z hz hb W
  have e0 : uN g n b = ng g b := by
    unfold uN
    rw [if_neg]
    intro q
    rcases cl_cases n (mg g b) with ⟨_, k⟩ | ⟨_, _, k⟩ | ⟨_, _, k⟩ | ⟨_, k⟩ <;> omega
  rw [e0] at H
  refine rfin_ok ?_ ?_ H
  · rcases cl_cases n (mg g b) with ⟨_, k⟩ | ⟨_, _, k⟩ | ⟨_, q, k⟩ | ⟨q, k⟩
    · rw [k]; decide
    · rw [k]; decide
    · omega
    · omega
  · rcases cl_cases n (mg g b) with ⟨_, k⟩ | ⟨_, _, k⟩ | ⟨_, q, k⟩ | ⟨q, k⟩
    · rw [k]; decide
    · rw [k]; decide
    · omega
    · omega
end Go.Proofs.YtfoaeholbidngaaGreatDoor
