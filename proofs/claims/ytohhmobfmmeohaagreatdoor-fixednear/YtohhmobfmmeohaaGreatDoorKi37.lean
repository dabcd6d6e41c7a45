/-
  Holds: VEx3 VEx4.
-/
import Derived.Laws.BitsAllLaws
import Derived.Test.YtohhmobfmmeohaaGreatDoorChecked
import Derived.Lib.ItoaNum
import Derived.Laws.Externs
import Derived.WalkKit
import Derived.WalkSpells
import Derived.WalkLawsBesides
import Derived.Lib.Mul64
import Derived.Lib.TrailingZeros
import Derived.Deep.OwnRows
import Derived.Laws.CopyOwn
import Derived.BigQuiet
import Derived.Deep.RegionHeld3
import Derived.Deep.LoopGhost
import Derived.Deep.AppendLies
import Derived.Deep.DeepCutAuto
import Derived.Stop.Asserts
import Derived.RowKitTokens
import Derived.Lib.Strings
import Derived.Lib.BufferWrite
import Derived.Lib.ConvBytes
import Derived.Test.YtohhmobfmmeohaaGreatDoorRows
import Derived.Test.YtohhmobfmmeohaaGreatDoorKi24
import Derived.Test.YtohhmobfmmeohaaGreatDoorKi30
import Derived.Test.YtohhmobfmmeohaaGreatDoorKi35
set_option maxRecDepth 100000
set_option maxHeartbeats 4000000
namespace Go.Proofs.YtohhmobfmmeohaaGreatDoor
open Go.RowKit
theorem runp_32 {b : Nat} (h : b < 4294967296) (w : World) : Calls Tryz.prog 49 #[.int .u64 (b : Int), .int .i64 32] w fun e w' => e = .returned (.tuple #[.agg #[.bool (uN 2147483648 2139095040 b), .int .i64 (cl 2139095040 (mg 2147483648 b)), .int .u64 ((uM 2139095040 23 (mg 2147483648 b) : Nat) : Int), .int .i64 (uE 2139095040 23 (-149) (mg 2147483648 b))], .int .i64 0]) ∧ Below w.heap.size w w' := by
 have H := fun W => rcheck_32 h W
 have HO := fun W => rof_32 h W
 have HS := fun W => rsign_32 W
 have HP := fun W => rparts_32 h W
 have hA := and_sign_32 b h
 have hN : ((((if ng 2147483648 b then 2147483648 else 0 : Nat) : Int)) != 0) = ng 2147483648 b := by
  cases ng 2147483648 b <;> decide
 rw [← hA] at hN
 unfold uN uM uE
 generalize mg 2147483648 b = x at *
 generalize ng 2147483648 b = g at *
 generalize mt 23 x = M at *
 generalize xp 23 (-149) x = X at *
 have HQ : cl 2139095040 x = 1 ∨ cl 2139095040 x = 2 ∨ cl 2139095040 x = 3 ∨ cl 2139095040 x = 4 := by
  rcases cl_cases 2139095040 x with ⟨_, q⟩ | ⟨_, _, q⟩ | ⟨_, _, q⟩ | ⟨_, q⟩
  · exact .inl q
  · exact .inr (.inl q)
  · exact .inr (.inr (.inl q))
  · exact .inr (.inr (.inr q))
 generalize cl 2139095040 x = C at *
 obtain ⟨Y, hY⟩ : ∃ Y, bits BinOp.and IntKind.u64 (b : Int) 2147483648 = Y := ⟨_, rfl⟩
 rw [hY] at hN
 clear hA h
 rcases HQ with rfl | rfl | rfl | rfl
 · go_enter Tryz.func49, Tryz.ntmps49
   go_wp2_with fail
   refine (H _).mono ?_
   rintro e w1 ⟨rfl, hh⟩
   subst hh
   go_wp2_with fail
   refine (HS _).mono ?_
   rintro e w1 ⟨rfl, hh⟩
   subst hh
   go_wp2_with fail
   refine (HO _).mono ?_
   rintro e w1 ⟨rfl, hh⟩
   subst hh
   go_wp2
   exact bodyPost_ret (v := .tuple #[.agg #[.bool g, .int .i64 1, .int .u64 0, .int .i64 0], .int .i64 0]) (by simp [results, Tryz.results49, go_sem]) rfl ⟨rfl, ((Below.refl _ _).alloc (Nat.le_refl _) _).alloc (by simp) _⟩
 · go_enter Tryz.func49, Tryz.ntmps49
   go_wp2_with fail
   refine (H _).mono ?_
   rintro e w1 ⟨rfl, hh⟩
   subst hh
   go_wp2_with fail
   refine (HS _).mono ?_
   rintro e w1 ⟨rfl, hh⟩
   subst hh
   go_wp2_with fail
   refine (HO _).mono ?_
   rintro e w1 ⟨rfl, hh⟩
   subst hh
   go_wp2_with fail
   refine (HP _).mono ?_
   rintro e w1 ⟨rfl, hh⟩
   subst hh
   go_wp2
   exact bodyPost_ret (v := .tuple #[.agg #[.bool g, .int .i64 2, .int .u64 (M : Int), .int .i64 X], .int .i64 0]) (by simp [results, Tryz.results49, go_sem]) rfl ⟨rfl, ((Below.refl _ _).alloc (Nat.le_refl _) _).alloc (by simp) _⟩
 · go_enter Tryz.func49, Tryz.ntmps49
   go_wp2_with fail
   refine (H _).mono ?_
   rintro e w1 ⟨rfl, hh⟩
   subst hh
   go_wp2_with fail
   refine (HS _).mono ?_
   rintro e w1 ⟨rfl, hh⟩
   subst hh
   go_wp2_with fail
   refine (HO _).mono ?_
   rintro e w1 ⟨rfl, hh⟩
   subst hh
   go_wp2
   exact bodyPost_ret (v := .tuple #[.agg #[.bool g, .int .i64 3, .int .u64 0, .int .i64 0], .int .i64 0]) (by simp [results, Tryz.results49, go_sem]) rfl ⟨rfl, ((Below.refl _ _).alloc (Nat.le_refl _) _).alloc (by simp) _⟩
 · go_enter Tryz.func49, Tryz.ntmps49
   go_wp2_with fail
   refine (H _).mono ?_
   rintro e w1 ⟨rfl, hh⟩
   subst hh
   go_wp2_with fail
   refine (HS _).mono ?_
   rintro e w1 ⟨rfl, hh⟩
   subst hh
   go_wp2_with fail
   refine (HO _).mono ?_
   rintro e w1 ⟨rfl, hh⟩
   subst hh
   go_wp2
   exact bodyPost_ret (v := .tuple #[.agg #[.bool false, .int .i64 4, .int .u64 0, .int .i64 0], .int .i64 0]) (by simp [results, Tryz.results49, go_sem]) rfl ⟨rfl, ((Below.refl _ _).alloc (Nat.le_refl _) _).alloc (by simp) _⟩
theorem runp_64 {b : Nat} (h : b < 18446744073709551616) (w : World) : Calls Tryz.prog 49 #[.int .u64 (b : Int), .int .i64 64] w fun e w' => e = .returned (.tuple #[.agg #[.bool (uN 9223372036854775808 9218868437227405312 b), .int .i64 (cl 9218868437227405312 (mg 9223372036854775808 b)), .int .u64 ((uM 9218868437227405312 52 (mg 9223372036854775808 b) : Nat) : Int), .int .i64 (uE 9218868437227405312 52 (-1074) (mg 9223372036854775808 b))], .int .i64 0]) ∧ Below w.heap.size w w' := by
 have H := fun W => rcheck_64 (b : Int) W
 have HO := fun W => rof_64 h W
 have HS := fun W => rsign_64 W
 have HP := fun W => rparts_64 h W
 have hA := and_sign_64 b h
 have hN : ((((if ng 9223372036854775808 b then 9223372036854775808 else 0 : Nat) : Int)) != 0) = ng 9223372036854775808 b := by
  cases ng 9223372036854775808 b <;> decide
 rw [← hA] at hN
 unfold uN uM uE
 generalize mg 9223372036854775808 b = x at *
 generalize ng 9223372036854775808 b = g at *
 generalize mt 52 x = M at *
 generalize xp 52 (-1074) x = X at *
 have HQ : cl 9218868437227405312 x = 1 ∨ cl 9218868437227405312 x = 2 ∨ cl 9218868437227405312 x = 3 ∨ cl 9218868437227405312 x = 4 := by
  rcases cl_cases 9218868437227405312 x with ⟨_, q⟩ | ⟨_, _, q⟩ | ⟨_, _, q⟩ | ⟨_, q⟩
  · exact .inl q
  · exact .inr (.inl q)
  · exact .inr (.inr (.inl q))
  · exact .inr (.inr (.inr q))
 generalize cl 9218868437227405312 x = C at *
 obtain ⟨Y, hY⟩ : ∃ Y, bits BinOp.and IntKind.u64 (b : Int) 9223372036854775808 = Y := ⟨_, rfl⟩
 rw [hY] at hN
 clear hA h
 rcases HQ with rfl | rfl | rfl | rfl
 · go_enter Tryz.func49, Tryz.ntmps49
   go_wp2_with fail
   refine (H _).mono ?_
   rintro e w1 ⟨rfl, hh⟩
   subst hh
   go_wp2_with fail
   refine (HS _).mono ?_
   rintro e w1 ⟨rfl, hh⟩
   subst hh
   go_wp2_with fail
   refine (HO _).mono ?_
   rintro e w1 ⟨rfl, hh⟩
   subst hh
   go_wp2
   exact bodyPost_ret (v := .tuple #[.agg #[.bool g, .int .i64 1, .int .u64 0, .int .i64 0], .int .i64 0]) (by simp [results, Tryz.results49, go_sem]) rfl ⟨rfl, ((Below.refl _ _).alloc (Nat.le_refl _) _).alloc (by simp) _⟩
 · go_enter Tryz.func49, Tryz.ntmps49
   go_wp2_with fail
   refine (H _).mono ?_
   rintro e w1 ⟨rfl, hh⟩
   subst hh
   go_wp2_with fail
   refine (HS _).mono ?_
   rintro e w1 ⟨rfl, hh⟩
   subst hh
   go_wp2_with fail
   refine (HO _).mono ?_
   rintro e w1 ⟨rfl, hh⟩
   subst hh
   go_wp2_with fail
   refine (HP _).mono ?_
   rintro e w1 ⟨rfl, hh⟩
   subst hh
   go_wp2
   exact bodyPost_ret (v := .tuple #[.agg #[.bool g, .int .i64 2, .int .u64 (M : Int), .int .i64 X], .int .i64 0]) (by simp [results, Tryz.results49, go_sem]) rfl ⟨rfl, ((Below.refl _ _).alloc (Nat.le_refl _) _).alloc (by simp) _⟩
 · go_enter Tryz.func49, Tryz.ntmps49
   go_wp2_with fail
   refine (H _).mono ?_
   rintro e w1 ⟨rfl, hh⟩
   subst hh
   go_wp2_with fail
   refine (HS _).mono ?_
   rintro e w1 ⟨rfl, hh⟩
   subst hh
   go_wp2_with fail
   refine (HO _).mono ?_
   rintro e w1 ⟨rfl, hh⟩
   subst hh
   go_wp2
   exact bodyPost_ret (v := .tuple #[.agg #[.bool g, .int .i64 3, .int .u64 0, .int .i64 0], .int .i64 0]) (by simp [results, Tryz.results49, go_sem]) rfl ⟨rfl, ((Below.refl _ _).alloc (Nat.le_refl _) _).alloc (by simp) _⟩
 · go_enter Tryz.func49, Tryz.ntmps49
   go_wp2_with fail
   refine (H _).mono ?_
   rintro e w1 ⟨rfl, hh⟩
   subst hh
   go_wp2_with fail
   refine (HS _).mono ?_
   rintro e w1 ⟨rfl, hh⟩
   subst hh
   go_wp2_with fail
   refine (HO _).mono ?_
   rintro e w1 ⟨rfl, hh⟩
   subst hh
   go_wp2
   exact bodyPost_ret (v := .tuple #[.agg #[.bool false, .int .i64 4, .int .u64 0, .int .i64 0], .int .i64 0]) (by simp [results, Tryz.results49, go_sem]) rfl ⟨rfl, ((Below.refl _ _).alloc (Nat.le_refl _) _).alloc (by simp) _⟩
theorem rexact_ok {m : Nat} {e : Int} (hm : m < 18446744073709551616) (h0 : -1100 ≤ e) (h1 : e ≤ 1000) (w : World) : Calls Tryz.prog 34 #[.int .u64 (m : Int), .int .i64 e] w fun x w' => ∃ (v1 v2 : Value) (N D : Nat), x = .returned (.tuple #[v1, v2]) ∧ Big.NatV w' v1 N ∧ Big.NatV w' v2 D ∧ Frc N D m e ∧ Fits 100 N ∧ Fits 100 D ∧ Below w.heap.size w w' := by
 have S1 : ∀ W, Calls Tryz.prog 21 #[.int .u64 1] W fun e w' => ∃ v, e = .returned v ∧ Big.NatV w' v 1 ∧ Below W.heap.size W w' := fun W => small_nat 1 (by unfold B; decide) W
 have HM : Hid (m < 18446744073709551616 ∧ -1100 ≤ e ∧ e ≤ 1000) := ⟨hm, h0, h1⟩
 clear hm h0 h1
 go_enter Tryz.func34, Tryz.ntmps34
 go_wp2
 go_loopw [0, 1] (fun mv ev' wr => ∃ (k : Nat) (x : Int), mv = .int .u64 (k : Int) ∧ ev' = .int .i64 x ∧ wr = w ∧ k < 18446744073709551616 ∧ -1100 ≤ x ∧ x ≤ 1000 ∧ Hid (Eqv m e k x ∧ (m = 0 ↔ k = 0))) (fun mv _ _ => (intOf mv).toNat)
 case atStart => exact ⟨m, e, rfl, rfl, rfl, HM.out.1, HM.out.2.1, HM.out.2.2, Eqv.rfl' m e, Iff.rfl⟩
 case round =>
  obtain ⟨k, x, rfl, rfl, rfl, hk, x0, x1, HI⟩ := hrel
  by_cases go : k ≠ 0 ∧ k % 2 = 0 ∧ x < 0
  · obtain ⟨k0, k2, xn⟩ := go
    have e1 : (0 : Int) < (k : Int) := by omega
    have e2 : (k : Int) % 2 = 0 := by omega
    have e3 : (k : Int) / 2 = ((k / 2 : Nat) : Int) := by omega
    have HN : Hid (Eqv m e (k / 2) (x + 1) ∧ (m = 0 ↔ k / 2 = 0)) := ⟨HI.out.1.trans (Eqv.half x k2), by have := HI.out.2; omega⟩
    have k3 : k / 2 < k := by omega
    generalize k / 2 = k' at *
    clear k2 k0
    go_wp2
    go_roundw
    case rel => exact ⟨k', x + 1, rfl, rfl, trivial, by omega, by omega, by omega, HN.out⟩
    case measure => simp [intOf]; omega
  · by_cases k0 : k = 0
    · subst k0
      have hm0 : m = 0 := HI.out.2.2 rfl
      have HF : Hid (Frc 0 1 m e) := by
       refine ⟨⟨min 0 e, by omega, by omega, ?_⟩, 0, rfl, .inr rfl⟩
       unfold ev
       rw [hm0]
       simp
      clear hm0
      go_wp2_with fail
      refine (S1 _).mono ?_
      rintro y w1 ⟨v, rfl, n1, b1⟩
      have N1 : Hid (Big.NatV w1 v 1 ∧ Below wr.heap.size wr w1) := ⟨n1, b1⟩
      clear n1 b1
      go_wp2
      go_ret2
      exact ⟨_, v, 0, 1, rfl, Big.natv_nil w1, N1.out.1, HF.out, (two_fits (s := 0) (k := 100) (by omega)).le (by omega), two_fits (s := 0) (k := 100) (by omega), N1.out.2⟩
    · have S2 := fun W => small_nat k hk W
      have fk : Fits 2 k := Fits.word (n := 1) (by rw [Nat.pow_one]; exact hk)
      have e1 : (0 : Int) < (k : Int) := by omega
      have e0 : ((k : Int) == 0) = false := by simp; omega
      by_cases xp0 : 0 ≤ x
      · obtain ⟨j, hj⟩ : ∃ j : Nat, (j : Int) = x := ⟨x.toNat, by omega⟩
        have HF : Hid (Frc (k * 2 ^ j) 1 m e ∧ Fits 100 (k * 2 ^ j)) := by
         refine ⟨⟨vE_of_eqv ⟨0, Int.le_refl _, xp0, ?_⟩ HI.out.1.symm, 0, rfl, .inr rfl⟩, (fits_shl fk).up (by omega)⟩
         unfold ev
         rw [← hj]
         simp
        have T : ∀ W v, Big.NatV W v k → Calls Tryz.prog 50 #[v, .int .i64 x] W fun e w' => ∃ v, e = .returned v ∧ Big.NatV w' v (k * 2 ^ j) ∧ Below W.heap.size W w' := fun W v h => by
         have q := up_any h (fk.up (by omega)) j (by omega)
         rw [hj] at q
         exact q
        clear hj fk
        by_cases par : k % 2 = 0
        · have e2 : (k : Int) % 2 = 0 := by omega
          clear par
          go_wp2_with fail
          refine (S2 _).mono ?_
          rintro y w1 ⟨v1, rfl, n1, b1⟩
          have N1 : Hid (Big.NatV w1 v1 k ∧ Below wr.heap.size wr w1) := ⟨n1, b1⟩
          have T := T w1 v1 n1
          clear n1 b1
          go_wp2_with fail
          refine T.mono ?_
          rintro y w2 ⟨v2, rfl, n2, b2⟩
          have N2 : Hid (Big.NatV w2 v2 (k * 2 ^ j) ∧ Below wr.heap.size wr w2) := ⟨n2, N1.out.2.trans (b2.mono N1.out.2.size)⟩
          clear n2 b2
          go_wp2_with fail
          refine (S1 _).mono ?_
          rintro y w3 ⟨v3, rfl, n3, b3⟩
          have N3 : Hid (Big.NatV w3 v2 (k * 2 ^ j) ∧ Big.NatV w3 v3 1 ∧ Below wr.heap.size wr w3) := ⟨N2.out.1.below b3, n3, N2.out.2.trans (b3.mono N2.out.2.size)⟩
          clear n3 b3
          go_wp2
          go_ret2
          exact ⟨v2, v3, k * 2 ^ j, 1, rfl, N3.out.1, N3.out.2.1, HF.out.1, HF.out.2, two_fits (s := 0) (k := 100) (by omega), N3.out.2.2⟩
        · have e2 : (k : Int) % 2 = 1 := by omega
          clear par
          go_wp2_with fail
          refine (S2 _).mono ?_
          rintro y w1 ⟨v1, rfl, n1, b1⟩
          have N1 : Hid (Big.NatV w1 v1 k ∧ Below wr.heap.size wr w1) := ⟨n1, b1⟩
          have T := T w1 v1 n1
          clear n1 b1
          go_wp2_with fail
          refine T.mono ?_
          rintro y w2 ⟨v2, rfl, n2, b2⟩
          have N2 : Hid (Big.NatV w2 v2 (k * 2 ^ j) ∧ Below wr.heap.size wr w2) := ⟨n2, N1.out.2.trans (b2.mono N1.out.2.size)⟩
          clear n2 b2
          go_wp2_with fail
          refine (S1 _).mono ?_
          rintro y w3 ⟨v3, rfl, n3, b3⟩
          have N3 : Hid (Big.NatV w3 v2 (k * 2 ^ j) ∧ Big.NatV w3 v3 1 ∧ Below wr.heap.size wr w3) := ⟨N2.out.1.below b3, n3, N2.out.2.trans (b3.mono N2.out.2.size)⟩
          clear n3 b3
          go_wp2
          go_ret2
          exact ⟨v2, v3, k * 2 ^ j, 1, rfl, N3.out.1, N3.out.2.1, HF.out.1, HF.out.2, two_fits (s := 0) (k := 100) (by omega), N3.out.2.2⟩
      · obtain ⟨j, hj⟩ : ∃ j : Nat, (j : Int) = -x := ⟨(-x).toNat, by omega⟩
        have par : k % 2 = 1 := by omega
        have HF : Hid (Frc k (1 * 2 ^ j) m e ∧ Fits 100 k ∧ Fits 100 (1 * 2 ^ j)) := by
         refine ⟨⟨vE_of_eqv ⟨x, by omega, Int.le_refl _, ?_⟩ HI.out.1.symm, j, Nat.one_mul _, .inl par⟩, fk.up (by omega), by rw [Nat.one_mul]; exact two_fits (by omega)⟩
         unfold ev
         rw [show (0 - x).toNat = j from by omega, show (x - x).toNat = 0 from by omega, Nat.pow_zero, Nat.mul_one, Nat.one_mul, Nat.mul_comm]
        have T : ∀ W v, Big.NatV W v 1 → Calls Tryz.prog 50 #[v, .int .i64 (-x)] W fun e w' => ∃ v, e = .returned v ∧ Big.NatV w' v (1 * 2 ^ j) ∧ Below W.heap.size W w' := fun W v h => by
         have q := up_any h (two_fits (s := 0) (k := 1000) (by omega)) j (by omega)
         rw [hj] at q
         exact q
        have e2 : (k : Int) % 2 = 1 := by omega
        have xn : x < 0 := by omega
        clear hj fk par xp0
        go_wp2_with fail
        refine (S2 _).mono ?_
        rintro y w1 ⟨v1, rfl, n1, b1⟩
        have N1 : Hid (Big.NatV w1 v1 k ∧ Below wr.heap.size wr w1) := ⟨n1, b1⟩
        clear n1 b1
        go_wp2_with fail
        refine (S1 _).mono ?_
        rintro y w2 ⟨v2, rfl, n2, b2⟩
        have N2 : Hid (Big.NatV w2 v1 k ∧ Below wr.heap.size wr w2) := ⟨N1.out.1.below b2, N1.out.2.trans (b2.mono N1.out.2.size)⟩
        have T := T w2 v2 n2
        clear n2 b2
        go_wp2_with fail
        refine T.mono ?_
        rintro y w3 ⟨v3, rfl, n3, b3⟩
        have N3 : Hid (Big.NatV w3 v1 k ∧ Big.NatV w3 v3 (1 * 2 ^ j) ∧ Below wr.heap.size wr w3) := ⟨N2.out.1.below b3, n3, N2.out.2.trans (b3.mono N2.out.2.size)⟩
        clear n3 b3
        go_wp2
        go_ret2
        exact ⟨v1, v3, k, 1 * 2 ^ j, rfl, N3.out.1, N3.out.2.1, HF.out.1, HF.out.2.1, HF.out.2.2, N3.out.2.2⟩
theorem runp_z {s : Int} {g n f T : Nat} {L : Int} (h : Fz s g n f T L) {b : Nat} (hb : b < 2 * g) (w : World) : Calls Tryz.prog 49 #[.int .u64 (b : Int), .int .i64 s] w fun e w' => e = .returned (.tuple #[.agg #[.bool (uN g n b), .int .i64 (cl n (mg g b)), .int .u64 ((uM n f (mg g b) : Nat) : Int), .int .i64 (uE n f L (mg g b))], .int .i64 0]) ∧ Below w.heap.size w w' := by
 rcases h with ⟨rfl, rfl, rfl, rfl, rfl, rfl⟩ | ⟨rfl, rfl, rfl, rfl, rfl, rfl⟩
 · exact runp_32 hb w
 · exact runp_64 hb w
theorem fits_lt {X : Nat} (h : Fits 100 X) : X < B ^ 128 := by
 have q := (h.up (show 100 ≤ 2 * 128 by omega)).lt
 rw [← BB_pow] at q
 exact q
theorem words_nat {w : World} {va : Value} {X : Nat} (ha : Big.NatV w va X) (hX : Fits 100 X) : Calls Tryz.prog 35 #[va] w fun e w' => ∃ v, e = .returned (.tuple #[v, .int .i64 0]) ∧ NatV w' v X ∧ Below w.heap.size w w' := by
 have T := words_any ha (hX.up (by omega))
 rw [show wE X = 0 from if_pos (fits_lt hX), show wR X = X from if_pos (fits_lt hX)] at T
 exact T
theorem rfin_ok {s b : Int} {x0 : Bool} {x1 x2 x3 : Int} {w : World} (q3 : (x1 == 3) = false) (q4 : (x1 == 4) = false) (H : ∀ W, Calls Tryz.prog 49 #[.int .u64 b, .int .i64 s] W fun e w' => e = .returned (.tuple #[.agg #[.bool x0, .int .i64 x1, .int .u64 x2, .int .i64 x3], .int .i64 0]) ∧ Below W.heap.size W w') : Calls Tryz.prog 33 #[.int .u64 b, .int .i64 s] w fun e w' => e = .returned (.tuple #[.agg #[.bool x0, .int .i64 x1, .int .u64 x2, .int .i64 x3], .int .i64 0]) ∧ Below w.heap.size w w' := by
 go_enter Tryz.func33, Tryz.ntmps33
 go_wp2_with fail
 refine (H _).mono ?_
 rintro e w1 ⟨rfl, hb⟩
 have X1 : Hid (FlB w1 w.heap.size _ _ _ _) := (FlB.new w (.bool false) (.int .i64 0) (.int .u64 0) (.int .i64 0) 63).step hb
 have B1 : Hid (Below w.heap.size w w1) := ((Below.refl _ _).alloc (Nat.le_refl _) _).trans (hb.mono (by simp))
 clear hb
 obtain ⟨l, a0, a1, a2, a3, f0, f1, f2, f3⟩ := X1.out
 go_wp2
 exact bodyPost_ret (v := .tuple #[.agg #[.bool x0, .int .i64 x1, .int .u64 x2, .int .i64 x3], .int .i64 0]) (by simp [results, Tryz.results33, go_sem, World.cell?_setCell_same, World.cell?_setCell_other, World.cell?_alloc_lt, *]) rfl ⟨rfl, ((((B1.out.setCell (Nat.le_refl _) _).setCell (Nat.le_refl _) _).setCell (Nat.le_refl _) _).setCell (Nat.le_refl _) _).alloc (by simp; omega) _⟩
theorem Eqv.none (a b : Int) : Eqv 0 a 0 b := ⟨min a b, by omega, by omega, by unfold ev; rw [Nat.zero_mul, Nat.zero_mul]⟩
theorem Frc.none {N D : Nat} {a : Int} (b : Int) (h : Frc N D 0 a) : Frc N D 0 b := ⟨vE_of_eqv h.1 (Eqv.none a b), h.2⟩
theorem mt_nought (f : Nat) : mt f 0 = 0 := by unfold mt; rw [if_pos (Nat.zero_div _)]
theorem rfin_yes {s : Int} {g n f T : Nat} {L : Int} (hz : Fz s g n f T L) {b : Nat} (hb : b < 2 * g) (hm : mg g b < n) (W : World) : Calls Tryz.prog 33 #[.int .u64 (b : Int), .int .i64 s] W fun e w' => e = .returned (.tuple #[.agg #[.bool (ng g b), .int .i64 (cl n (mg g b)), .int .u64 ((uM n f (mg g b) : Nat) : Int), .int .i64 (uE n f L (mg g b))], .int .i64 0]) ∧ Below W.heap.size W w' := by
 have H := fun W => runp_z hz hb W
 have e0 : uN g n b = ng g b := by
  unfold uN
  rw [if_neg]
  intro q
  rcases cl_cases n (mg g b) with ⟨_, k⟩ | ⟨_, _, k⟩ | ⟨_, _, k⟩ | ⟨_, k⟩ <;> omega
 rw [e0] at H
 refine rfin_ok ?_ ?_ H
 · rcases cl_cases n (mg g b) with ⟨_, k⟩ | ⟨_, _, k⟩ | ⟨_, q, k⟩ | ⟨q, k⟩
   · rw [k]; decide
   · rw [k]; decide
   · omega
   · omega
 · rcases cl_cases n (mg g b) with ⟨_, k⟩ | ⟨_, _, k⟩ | ⟨_, q, k⟩ | ⟨q, k⟩
   · rw [k]; decide
   · rw [k]; decide
   · omega
   · omega
end Go.Proofs.YtohhmobfmmeohaaGreatDoor
