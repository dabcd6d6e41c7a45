/-
  Holds: VEwD VEwR.
-/
import Derived.Laws.BitsAllLaws
import Derived.Test.YtohhmobfmmeohaaGreatDoorChecked
import Derived.Lib.ItoaNum
import Derived.Laws.Externs
import Derived.WalkKit
import Derived.WalkSpells
import Derived.WalkLawsBesides
import Derived.Lib.Mul64
import Derived.Lib.TrailingZeros
import Derived.Deep.OwnRows
import Derived.Laws.CopyOwn
import Derived.BigQuiet
import Derived.Deep.RegionHeld3
import Derived.Deep.LoopGhost
import Derived.Deep.AppendLies
import Derived.Deep.DeepCutAuto
import Derived.Stop.Asserts
import Derived.RowKitTokens
import Derived.Lib.Strings
import Derived.Lib.BufferWrite
import Derived.Lib.ConvBytes
import Derived.Test.YtohhmobfmmeohaaGreatDoorRows
import Derived.Test.YtohhmobfmmeohaaGreatDoorKi22
import Derived.Test.YtohhmobfmmeohaaGreatDoorKi35
set_option maxRecDepth 100000
set_option maxHeartbeats 4000000
namespace Go.Proofs.YtohhmobfmmeohaaGreatDoor
open Go.RowKit
theorem ten_small {k : Nat} (h : k ≤ 9) : 10 ^ k ≤ 1000000000 := Nat.le_trans (Nat.pow_le_pow_right (by decide) h) (by decide)
theorem dvA_fits {s : ByteArray} (h : DG s) {k n : Nat} (hn : 4 * k < 32 * n) : Fits n (dvA s 0 k) := fits_ten (Nat.le_of_lt (dvA_lt h 0 k)) hn
theorem dgt_at {s : ByteArray} {i : Nat} (h : i < s.size) : ((s[i]'h).toNat) = dgt s i := (dgt_lt h).symm
theorem dig14 {s : ByteArray} (hs : s.size ≤ 801) (hd : DG s) (w : World) : Calls Tryz.prog 51 #[.string s] w fun e w' => ∃ v, e = .returned v ∧ Big.NatV w' v (dvA s 0 s.size) ∧ Below w.heap.size w w' := by
 have S0 := fun W => small_nat 0 (by unfold B; decide) W
 have HD : Hid (DG s) := hd
 clear hd
 go_enter Tryz.func51, Tryz.ntmps51
 go_wp2_with fail
 refine (S0 _).mono ?_
 rintro e w1 ⟨v1, rfl, n1, B1⟩
 have N1 : Hid (Big.NatV w1 v1 0 ∧ Below w.heap.size w w1) := ⟨n1, B1⟩
 clear n1 B1 S0
 go_wp2
 go_loopw [3, 4] (fun ov iv wr => ∃ j : Nat, iv = .int .i64 (j : Int) ∧ j ≤ s.size + 8 ∧ Hid (Big.NatV wr ov (dvA s 0 (min j s.size)) ∧ Below w.heap.size w wr)) (fun _ iv _ => s.size + 9 - (intOf iv).toNat)
 case atStart => exact ⟨0, rfl, by omega, by rw [Nat.zero_min]; exact N1⟩
 case round =>
  clear N1
  obtain ⟨j, rfl, hj, HI⟩ := hrel
  by_cases c : j < s.size
  · have HI : Hid (Big.NatV wr u3 (dvA s 0 j) ∧ Below w.heap.size w wr) := by
     have h := HI.out
     rw [Nat.min_eq_left (by omega)] at h
     exact h
    by_cases q : j + 9 < s.size
    · have m1 : (j : Int) + 9 < (s.size : Int) := by omega
      have z2 : ((j : Int) + 9).toNat = j + 9 := by omega
      obtain ⟨P, hP⟩ : ∃ P, P = s.extract j (j + 9) := ⟨_, rfl⟩
      have sP : P.size = (j + 9) - j := by rw [hP, ByteArray.size_extract]; omega
      obtain ⟨l, hl⟩ : ∃ l, l = P.size := ⟨_, rfl⟩
      have l9 : l ≤ 9 ∧ 0 < l := by omega
      have HP : Hid (∀ i, i < l → dgt P i = dgt s (j + i)) := fun i q => by rw [hP]; exact dgt_sub (by omega) (by omega)
      have HL : Hid (min (j + 9) s.size = j + l) := by show _ = _; omega
      have x1 : s.extract j (j + 9) = P := hP.symm
      have z1 : (j : Int).toNat = j := by omega
      clear sP hP
      go_wp2
      go_loop [6, 7, 8] (fun nv uv kv => ∃ k a u : Nat, nv = .int .u64 (a : Int) ∧ uv = .int .u64 (u : Int) ∧ kv = .int .i64 (k : Int) ∧ k ≤ l ∧ a < 1000000000 ∧ u ≤ 1000000000 ∧ Hid (a = dvA s j k ∧ u = 10 ^ k)) (fun _ _ kv => l - (intOf kv).toNat)
      case atStart => exact ⟨0, 0, 1, rfl, rfl, rfl, Nat.zero_le _, by decide, by decide, rfl, rfl⟩
      case round =>
       obtain ⟨k, a, u, rfl, rfl, rfl, hk, ha, hu, HK⟩ := hrel
       by_cases ck : k < l
       · have kP : k < P.size := by omega
         have e1 := dgt_at kP
         have e2 : dgt P k = dgt s (j + k) := HP.out k ck
         have e3 := dgt_dg HD.out (j + k)
         rw [e2] at e1
         have HN : Hid (a * 10 + (dgt s (j + k) - 48) = dvA s j (k + 1) ∧ u * 10 = 10 ^ (k + 1)) := ⟨by rw [dvA_succ, ← HK.out.1], by rw [HK.out.2, Nat.pow_succ]⟩
         have b1 : a * 10 + (dgt s (j + k) - 48) < 1000000000 := by
          have q := HN.out.1
          rw [q]
          exact Nat.lt_of_lt_of_le (dvA_lt HD.out j (k + 1)) (ten_small (by omega))
         have b2 : u * 10 ≤ 1000000000 := by
          have q := HN.out.2
          rw [q]
          exact ten_small (by omega)
         have kI : (k : Int) < (P.size : Int) := by omega
         clear e2
         generalize dgt s (j + k) = d at *
         clear HK HP HL x1 z1 z2
         go_wp2
         go_round
         case rel => exact ⟨k + 1, a * 10 + (d - 48), u * 10, by congr 1; omega, by congr 1, by go_num, by omega, b1, b2, HN⟩
         case measure => simp [intOf]; omega
       · obtain rfl : k = l := by omega
         have cI : ¬ (k : Int) < (P.size : Int) := by omega
         have S1 := fun W => small_nat u (by unfold B; omega) W
         have S2 := fun W => small_nat a (by unfold B; omega) W
         have FO : Hid (Fits 1000 (dvA s 0 j) ∧ Fits 1000 u ∧ Fits 1000 a ∧ Fits 1000 (dvA s 0 j * u)) := by
          refine ⟨dvA_fits HD.out (by omega), fits_ten (k := 9) hu (by decide), fits_ten (k := 9) (Nat.le_of_lt ha) (by decide), ?_⟩
          exact ((dvA_fits (n := 200) HD.out (by omega)).mul (fits_ten (k := 9) (n := 3) hu (by decide))).up (by decide)
         have HV : Hid (dvA s 0 j * u + a = dvA s 0 (min (j + 9) s.size)) := by
          show _ = _
          rw [HL.out, dvA_add, HK.out.1, HK.out.2]
         clear HK HP HL x1 z1 z2 ha hu
         go_wp2_with fail
         refine (S1 _).mono ?_
         rintro e w1 ⟨v1, rfl, n1, B1⟩
         have N1 : Hid (Big.NatV w1 v1 u ∧ Big.NatV w1 u3 (dvA s 0 j) ∧ Below w.heap.size w w1) := ⟨n1, HI.out.1.below B1, HI.out.2.trans (B1.mono HI.out.2.size)⟩
         clear n1 B1 S1
         have T := times_nat N1.out.2.1 N1.out.1 FO.out.1 FO.out.2.1
         go_wp2_with fail
         refine T.mono ?_
         rintro e w2 ⟨v2, rfl, n2, B2⟩
         have N2 : Hid (Big.NatV w2 v2 (dvA s 0 j * u) ∧ Below w.heap.size w w2) := ⟨n2, N1.out.2.2.trans (B2.mono N1.out.2.2.size)⟩
         clear n2 B2 T N1
         go_wp2_with fail
         refine (S2 _).mono ?_
         rintro e w3 ⟨v3, rfl, n3, B3⟩
         have N3 : Hid (Big.NatV w3 v3 a ∧ Big.NatV w3 v2 (dvA s 0 j * u) ∧ Below w.heap.size w w3) := ⟨n3, N2.out.1.below B3, N2.out.2.trans (B3.mono N2.out.2.size)⟩
         clear n3 B3 S2 N2
         have T := plus_any N3.out.2.1 N3.out.1 FO.out.2.2.2 FO.out.2.2.1
         go_wp2_with fail
         refine T.mono ?_
         rintro e w4 ⟨v4, rfl, n4, B4⟩
         rw [HV.out] at n4
         have N4 : Hid (Big.NatV w4 v4 (dvA s 0 (min (j + 9) s.size)) ∧ Below w.heap.size w w4) := ⟨n4, N3.out.2.2.trans (B4.mono N3.out.2.2.size)⟩
         clear n4 B4 T N3 HV FO
         go_wp2
         go_roundw
         case rel => exact ⟨j + 9, by go_num, by omega, N4⟩
         case measure => simp [intOf]; omega
    · have m1 : (s.size : Int) ≤ (j : Int) + 9 := by omega
      have z2 : ((s.size : Nat) : Int).toNat = s.size := by omega
      obtain ⟨P, hP⟩ : ∃ P, P = s.extract j s.size := ⟨_, rfl⟩
      have sP : P.size = s.size - j := by rw [hP, ByteArray.size_extract]; omega
      obtain ⟨l, hl⟩ : ∃ l, l = P.size := ⟨_, rfl⟩
      have l9 : l ≤ 9 ∧ 0 < l := by omega
      have HP : Hid (∀ i, i < l → dgt P i = dgt s (j + i)) := fun i q => by rw [hP]; exact dgt_sub (by omega) (by omega)
      have HL : Hid (min (j + 9) s.size = j + l) := by show _ = _; omega
      have x1 : s.extract j s.size = P := hP.symm
      have z1 : (j : Int).toNat = j := by omega
      clear sP hP
      go_wp2
      go_loop [6, 7, 8] (fun nv uv kv => ∃ k a u : Nat, nv = .int .u64 (a : Int) ∧ uv = .int .u64 (u : Int) ∧ kv = .int .i64 (k : Int) ∧ k ≤ l ∧ a < 1000000000 ∧ u ≤ 1000000000 ∧ Hid (a = dvA s j k ∧ u = 10 ^ k)) (fun _ _ kv => l - (intOf kv).toNat)
      case atStart => exact ⟨0, 0, 1, rfl, rfl, rfl, Nat.zero_le _, by decide, by decide, rfl, rfl⟩
      case round =>
       obtain ⟨k, a, u, rfl, rfl, rfl, hk, ha, hu, HK⟩ := hrel
       by_cases ck : k < l
       · have kP : k < P.size := by omega
         have e1 := dgt_at kP
         have e2 : dgt P k = dgt s (j + k) := HP.out k ck
         have e3 := dgt_dg HD.out (j + k)
         rw [e2] at e1
         have HN : Hid (a * 10 + (dgt s (j + k) - 48) = dvA s j (k + 1) ∧ u * 10 = 10 ^ (k + 1)) := ⟨by rw [dvA_succ, ← HK.out.1], by rw [HK.out.2, Nat.pow_succ]⟩
         have b1 : a * 10 + (dgt s (j + k) - 48) < 1000000000 := by
          have q := HN.out.1
          rw [q]
          exact Nat.lt_of_lt_of_le (dvA_lt HD.out j (k + 1)) (ten_small (by omega))
         have b2 : u * 10 ≤ 1000000000 := by
          have q := HN.out.2
          rw [q]
          exact ten_small (by omega)
         have kI : (k : Int) < (P.size : Int) := by omega
         clear e2
         generalize dgt s (j + k) = d at *
         clear HK HP HL x1 z1 z2
         go_wp2
         go_round
         case rel => exact ⟨k + 1, a * 10 + (d - 48), u * 10, by congr 1; omega, by congr 1, by go_num, by omega, b1, b2, HN⟩
         case measure => simp [intOf]; omega
       · obtain rfl : k = l := by omega
         have cI : ¬ (k : Int) < (P.size : Int) := by omega
         have S1 := fun W => small_nat u (by unfold B; omega) W
         have S2 := fun W => small_nat a (by unfold B; omega) W
         have FO : Hid (Fits 1000 (dvA s 0 j) ∧ Fits 1000 u ∧ Fits 1000 a ∧ Fits 1000 (dvA s 0 j * u)) := by
          refine ⟨dvA_fits HD.out (by omega), fits_ten (k := 9) hu (by decide), fits_ten (k := 9) (Nat.le_of_lt ha) (by decide), ?_⟩
          exact ((dvA_fits (n := 200) HD.out (by omega)).mul (fits_ten (k := 9) (n := 3) hu (by decide))).up (by decide)
         have HV : Hid (dvA s 0 j * u + a = dvA s 0 (min (j + 9) s.size)) := by
          show _ = _
          rw [HL.out, dvA_add, HK.out.1, HK.out.2]
         clear HK HP HL x1 z1 z2 ha hu
         go_wp2_with fail
         refine (S1 _).mono ?_
         rintro e w1 ⟨v1, rfl, n1, B1⟩
         have N1 : Hid (Big.NatV w1 v1 u ∧ Big.NatV w1 u3 (dvA s 0 j) ∧ Below w.heap.size w w1) := ⟨n1, HI.out.1.below B1, HI.out.2.trans (B1.mono HI.out.2.size)⟩
         clear n1 B1 S1
         have T := times_nat N1.out.2.1 N1.out.1 FO.out.1 FO.out.2.1
         go_wp2_with fail
         refine T.mono ?_
         rintro e w2 ⟨v2, rfl, n2, B2⟩
         have N2 : Hid (Big.NatV w2 v2 (dvA s 0 j * u) ∧ Below w.heap.size w w2) := ⟨n2, N1.out.2.2.trans (B2.mono N1.out.2.2.size)⟩
         clear n2 B2 T N1
         go_wp2_with fail
         refine (S2 _).mono ?_
         rintro e w3 ⟨v3, rfl, n3, B3⟩
         have N3 : Hid (Big.NatV w3 v3 a ∧ Big.NatV w3 v2 (dvA s 0 j * u) ∧ Below w.heap.size w w3) := ⟨n3, N2.out.1.below B3, N2.out.2.trans (B3.mono N2.out.2.size)⟩
         clear n3 B3 S2 N2
         have T := plus_any N3.out.2.1 N3.out.1 FO.out.2.2.2 FO.out.2.2.1
         go_wp2_with fail
         refine T.mono ?_
         rintro e w4 ⟨v4, rfl, n4, B4⟩
         rw [HV.out] at n4
         have N4 : Hid (Big.NatV w4 v4 (dvA s 0 (min (j + 9) s.size)) ∧ Below w.heap.size w w4) := ⟨n4, N3.out.2.2.trans (B4.mono N3.out.2.2.size)⟩
         clear n4 B4 T N3 HV FO
         go_wp2
         go_roundw
         case rel => exact ⟨j + 9, by go_num, by omega, N4⟩
         case measure => simp [intOf]; omega
  · have HI : Hid (Big.NatV wr u3 (dvA s 0 s.size) ∧ Below w.heap.size w wr) := by
     have h := HI.out
     rw [Nat.min_eq_right (by omega)] at h
     exact h
    go_wp2
    go_ret
    exact ⟨_, rfl, HI.out.1, HI.out.2⟩
theorem fits_far {b m : Nat} (hb : b ≤ 16) (hm : m ≤ 2400) : Fits 1000 (b ^ m) := by
 refine (two_fits (s := 4 * m) (by omega)).le ?_
 rw [Nat.pow_mul]
 exact Nat.pow_le_pow_left hb m
theorem raised_far (b n : Nat) (h1 : 2 ≤ b) (h2 : b ≤ 16) (hn : n ≤ 2400) (w : World) :
 Calls Tryz.prog 20 #[.int .u64 (b : Int), .int .i64 (n : Int)] w fun e w' => ∃ v, e = .returned v ∧ Big.NatV w' v (b ^ n) ∧ Below w.heap.size w w' := by
 have S1 := fun W => small_nat 1 (by unfold B; decide) W
 have S2 := fun W => small_nat b (by unfold B; omega) W
 have HB : Hid (2 ≤ b ∧ b ≤ 16 ∧ n ≤ 2400) := ⟨h1, h2, hn⟩
 clear h1 h2
 go_enter Tryz.func20, Tryz.ntmps20
 go_wp2_with fail
 refine (S1 _).mono ?_
 rintro e w1 ⟨v1, rfl, n1, b1⟩
 have N1 : Hid (Big.NatV w1 v1 1 ∧ Below w.heap.size w w1) := ⟨n1, b1⟩
 clear n1 b1
 go_wp2_with fail
 refine (S2 _).mono ?_
 rintro e w2 ⟨v2, rfl, n2, b2⟩
 have N2 : Hid (Big.NatV w2 v1 1 ∧ Big.NatV w2 v2 b ∧ Below w.heap.size w w2) := ⟨N1.out.1.below b2, n2, N1.out.2.trans (b2.mono N1.out.2.size)⟩
 clear n2 b2 N1 S1 S2
 go_wp2
 go_loopw [1, 5, 6] (fun nv ov pv wr => ∃ (m i j : Nat), nv = .int .i64 (m : Int) ∧ m ≤ 2400 ∧ Hid (Big.NatV wr ov (b ^ i) ∧ Big.NatV wr pv (b ^ j) ∧ Below w.heap.size w wr ∧ i + j * m = n ∧ 1 ≤ j)) (fun nv _ _ _ => (intOf nv).toNat)
 case atStart => exact ⟨n, 0, 1, rfl, hn, by rw [Nat.pow_zero, Nat.pow_one]; exact ⟨N2.out.1, N2.out.2.1, N2.out.2.2, by rw [Nat.zero_add, Nat.one_mul], Nat.le_refl _⟩⟩
 case round =>
  clear N2
  obtain ⟨m, i, j, rfl, hm, HI⟩ := hrel
  by_cases m0 : 0 < m
  · obtain ⟨h, hh⟩ : ∃ h, h = m / 2 := ⟨_, rfl⟩
    have jm : j ≤ j * m := Nat.le_mul_of_pos_right j m0
    have e2 : (m : Int) / 2 = (h : Int) := by omega
    have e3 : (m : Int).tdiv 2 = (h : Int) := by rw [Int.tdiv_eq_ediv_of_nonneg (by omega)]; exact e2
    have hb64 : h ≤ 2400 := by omega
    have hlt : h < m := by omega
    have FX : Hid (Fits 1000 (b ^ i) ∧ Fits 1000 (b ^ j)) := ⟨fits_far HB.out.2.1 (by have := HI.out.2.2.2.1; have := HB.out; omega), fits_far HB.out.2.1 (by have := HI.out.2.2.2.1; have := HB.out; omega)⟩
    by_cases odd : m % 2 = 1
    · have e1 : (m : Int) % 2 = 1 := by omega
      have e4 : (m : Int).tmod 2 = 1 := by rw [Int.tmod_eq_emod_of_nonneg (by omega)]; exact e1
      have HS : Hid ((i + j) + 2 * (j * h) = n) := by
       have a := HI.out.2.2.2.1
       have c : m = 2 * h + 1 := by omega
       rw [c, Nat.mul_add, Nat.mul_one, Nat.mul_left_comm] at a
       show _ = _
       omega
      have T1 := times_nat HI.out.1 HI.out.2.1 FX.out.1 FX.out.2
      rw [← Nat.pow_add] at T1
      by_cases h0 : 0 < h
      · clear odd hh jm
        go_wp2_with fail
        refine T1.mono ?_
        rintro e w3 ⟨v3, rfl, n3, b3⟩
        have N3 : Hid (Big.NatV w3 v3 (b ^ (i + j)) ∧ Big.NatV w3 u6 (b ^ j) ∧ Below w.heap.size w w3) := ⟨n3, HI.out.2.1.below b3, HI.out.2.2.1.trans (b3.mono HI.out.2.2.1.size)⟩
        clear n3 b3 T1
        have T2 := times_nat N3.out.2.1 N3.out.2.1 FX.out.2 FX.out.2
        rw [← Nat.pow_add] at T2
        go_wp2_with fail
        refine T2.mono ?_
        rintro e w4 ⟨v4, rfl, n4, b4⟩
        have N4 : Hid (Big.NatV w4 v3 (b ^ (i + j)) ∧ Big.NatV w4 v4 (b ^ (j + j)) ∧ Below w.heap.size w w4) := ⟨N3.out.1.below b4, n4, N3.out.2.2.trans (b4.mono N3.out.2.2.size)⟩
        clear n4 b4 T2
        go_wp2
        go_roundw
        case rel => exact ⟨h, i + j, j + j, rfl, hb64, N4.out.1, N4.out.2.1, N4.out.2.2, by have := HS.out; rw [Nat.add_mul]; omega, by have := HI.out.2.2.2.2; omega⟩
        case measure => simp [intOf]; omega
      · have h00 : h = 0 := by omega
        subst h00
        clear odd hh jm
        go_wp2_with fail
        refine T1.mono ?_
        rintro e w3 ⟨v3, rfl, n3, b3⟩
        have N3 : Hid (Big.NatV w3 v3 (b ^ (i + j)) ∧ Big.NatV w3 u6 (b ^ j) ∧ Below w.heap.size w w3) := ⟨n3, HI.out.2.1.below b3, HI.out.2.2.1.trans (b3.mono HI.out.2.2.1.size)⟩
        clear n3 b3 T1
        go_wp2
        go_roundw
        case rel => exact ⟨0, i + j, j, rfl, by omega, N3.out.1, N3.out.2.1, N3.out.2.2, by have := HS.out; rw [Nat.mul_zero] at this ⊢; omega, HI.out.2.2.2.2⟩
        case measure => simp [intOf]; omega
    · have e1 : (m : Int) % 2 = 0 := by omega
      have e4 : (m : Int).tmod 2 = 0 := by rw [Int.tmod_eq_emod_of_nonneg (by omega)]; exact e1
      have h0 : 0 < h := by omega
      have HS : Hid (i + 2 * (j * h) = n) := by
       have a := HI.out.2.2.2.1
       have c : m = 2 * h := by omega
       rw [c, Nat.mul_left_comm] at a
       exact a
      have T2 := times_nat HI.out.2.1 HI.out.2.1 FX.out.2 FX.out.2
      rw [← Nat.pow_add] at T2
      clear odd hh jm
      go_wp2_with fail
      refine T2.mono ?_
      rintro e w4 ⟨v4, rfl, n4, b4⟩
      have N4 : Hid (Big.NatV w4 u5 (b ^ i) ∧ Big.NatV w4 v4 (b ^ (j + j)) ∧ Below w.heap.size w w4) := ⟨HI.out.1.below b4, n4, HI.out.2.2.1.trans (b4.mono HI.out.2.2.1.size)⟩
      clear n4 b4 T2
      go_wp2
      go_roundw
      case rel => exact ⟨h, i, j + j, rfl, hb64, N4.out.1, N4.out.2.1, N4.out.2.2, by have := HS.out; rw [Nat.add_mul]; omega, by have := HI.out.2.2.2.2; omega⟩
      case measure => simp [intOf]; omega
  · obtain rfl : m = 0 := by omega
    have hin : i = n := by have := HI.out.2.2.2.1; rw [Nat.mul_zero] at this; omega
    subst hin
    go_wp2
    go_ret
    exact ⟨_, rfl, HI.out.1, HI.out.2.2.1⟩
end Go.Proofs.YtohhmobfmmeohaaGreatDoor
