/-
  What a call of nat.Power answers where the power fits.
-/
import Derived.Test.YtkkgancmodhghaaDoorNatJ
namespace Go.Proofs.YtkkgancmodhghaaDoor
open Go.RowKit

theorem blen_nat {x : Nat} (hx : x < B) : ∃ K : Nat, blen (x : Int) = (K : Int) ∧ K ≤ 64 ∧ x < 2 ^ K := by
  unfold B at hx
  by_cases c : x = 0
  · subst c; exact ⟨0, by decide, by omega, by decide⟩
  · obtain ⟨n, e, hn, h1, h2⟩ := blen_bounds (x : Int) (by omega) (by omega)
    refine ⟨n + 1, by omega, by omega, ?_⟩
    rw [pow_cast] at h2
    omega
theorem pow_le_fit {b n k : Nat} (h : b ^ n < B ^ 128) (hk : k ≤ n) : b ^ k < B ^ 128 := by
  rcases Nat.eq_zero_or_pos b with c | c
  · subst c
    refine Nat.lt_of_le_of_lt (?_ : 0 ^ k ≤ 1) (by have : 1 < B := by decide
                                                   exact Nat.one_lt_pow (by omega) this)
    rcases Nat.eq_zero_or_pos k with d | d
    · subst d; decide
    · rw [Nat.zero_pow d]; omega
  · exact Nat.lt_of_le_of_lt (Nat.pow_le_pow_right c hk) h
theorem and_one (a : Nat) (ha : a < 9223372036854775808) : bits .and .i64 (a : Int) 1 = ((a % 2 : Nat) : Int) := by
  have h1 : (BitVec.ofInt 64 (a : Int)).toNat = a := by
    rw [BitVec.ofInt_natCast, BitVec.toNat_ofNat]; exact Nat.mod_eq_of_lt (by omega)
  show IntKind.i64.wrap ((BitVec.ofInt 64 (a : Int) &&& BitVec.ofInt 64 (1 : Int)).toNat : Int) = _
  rw [BitVec.toNat_and, h1, show (BitVec.ofInt 64 (1 : Int)).toNat = 1 by decide, Nat.and_one_is_mod, IntWalk.i64_left, IntWalk.wrap64_in _ ⟨by omega, by omega⟩]
theorem bit_step (n i : Nat) : n / 2 ^ i = 2 * (n / 2 ^ (i + 1)) + n / 2 ^ i % 2 := by
  rw [Nat.pow_succ, ← Nat.div_div_eq_div_mul]; omega

set_option maxRecDepth 100000 in
set_option maxHeartbeats 2000000 in
theorem power_ok (b n : Nat) (hb : b < B) (hn : n ≤ 9223372036854775807) (hf : b ^ n < B ^ 128) (w : World) :
    Calls Tryd.prog 28 #[.int .u64 (b : Int), .int .i64 (n : Int)] w fun e w' => ∃ v, e = .returned (.tuple #[v, .nilIface]) ∧ NatV w' v (b ^ n) ∧ Below w.heap.size w w' := by
  obtain ⟨K, eK, hK, hnK⟩ := blen_nat (x := n) (by unfold B; omega)
  have LN := fun W => len_any n (by unfold B; omega) W
  rw [eK] at LN
  have O1 := fun W => of_any 1 (by decide) W
  have O2 := fun W => of_any b hb W
  have HF : Hid (b ^ n < B ^ 128 ∧ n < 2 ^ K) := ⟨hf, hnK⟩
  clear hf hnK eK
  go_enter Tryd.func28, Tryd.ntmps28
  go_wp2_with fail
  refine (O1 _).mono ?_
  rintro e w1 ⟨v1, rfl, nv1, hb1⟩
  go_wp2_with fail
  refine (O2 _).mono ?_
  rintro e w2 ⟨v2, rfl, nv2, hb2⟩
  have hB2 : Below w.heap.size w w2 := hb1.trans (hb2.mono hb1.size)
  have nv1' := nv1.below hb2
  go_wp2_with fail
  refine (LN _).mono ?_
  rintro e w3 ⟨rfl, rfl⟩
  clear LN O1 O2
  go_wp2
  go_loopw [6, 8] (fun z i wr => ∃ k : Nat, i = .int .i64 ((k : Int) - 1) ∧ k ≤ K ∧ NatV wr z (b ^ (n / 2 ^ k)) ∧ NatV wr v2 b ∧ Below w.heap.size w wr) (fun _ i _ => (intOf i + 1).toNat)
  case atStart => exact ⟨K, rfl, Nat.le_refl _, by rw [Nat.div_eq_of_lt HF.out.2, Nat.pow_zero]; exact nv1', nv2, hB2⟩
  case round =>
    obtain ⟨k, rfl, hk, nz, nf, hbl⟩ := hrel
    by_cases c1 : 0 < k
    · obtain ⟨i, rfl⟩ : ∃ i, k = i + 1 := ⟨k - 1, by omega⟩
      obtain ⟨ao, zn, zc, zb, zo, f, rfl, S, t, hv, hzn⟩ := nz
      have nf' := nf
      obtain ⟨bo, fn, fc, fb, fo, G, rfl, S', t', hv', hfn⟩ := nf'
      have M1 := multiply_any S S (by omega) (by omega)
      rw [hv] at M1
      have hfit : b ^ (n / 2 ^ i) < B ^ 128 := pow_le_fit HF.out.1 (Nat.div_le_self _ _)
      have hst := bit_step n i
      have hand : bits BinOp.and IntKind.i64 ((n : Int) / 2 ^ i) 1 = ((n / 2 ^ i % 2 : Nat) : Int) := by
        have q := and_one (n / 2 ^ i) (Nat.lt_of_le_of_lt (Nat.div_le_self _ _) (by omega))
        rw [← q, pow_cast]; rfl
      have HB : Hid (Below w.heap.size w wr ∧ NatV wr (.slice bo fn fc) b) := ⟨hbl, nf⟩
      have hi63 : i < 64 := by omega
      clear t t' nf hv
      have hn0 : (0 : Int) ≤ (n : Int) / 2 ^ i := by rw [pow_cast]; exact Int.natCast_nonneg (n / 2 ^ i)
      rw [show ((i + 1 : Nat) : Int) - 1 = (i : Int) by omega]
      rcases Nat.mod_two_eq_zero_or_one (n / 2 ^ i) with hb0 | hb0
      · rw [hb0] at hand hst
        have hX : b ^ (n / 2 ^ (i + 1)) * b ^ (n / 2 ^ (i + 1)) = b ^ (n / 2 ^ i) := by rw [← Nat.pow_add, hst]; congr 1; omega
        rw [hX] at M1
        clear hb0 hst hX
        go_wp2_with fail
        refine M1.mono ?_
        rintro e w4 ⟨rfl, hb4, F4, R4, hv4⟩
        obtain ⟨nv, hl⟩ := natv_tl R4 (by unfold maxLen; omega) hv4 hfit
        have FT := fit_ok (row_sl0 R4 (by unfold maxLen; omega)) hl
        have H4 : Hid (NatV w4 (.slice (some ⟨wr.heap.size, 0, none⟩) (tl F4 (zn + zn)) (tl F4 (zn + zn))) (b ^ (n / 2 ^ i)) ∧ NatV w4 (.slice bo fn fc) b ∧ Below w.heap.size w w4) := ⟨nv, HB.out.2.below hb4, HB.out.1.trans (hb4.mono HB.out.1.size)⟩
        clear nv hl hv4 R4 hbl
        generalize tl F4 (zn + zn) = tz at *
        go_wp2_with fail
        refine FT.mono ?_
        rintro e w5 ⟨rfl, rfl⟩
        go_wp2
        go_roundw
        case rel => exact ⟨i, by go_num, by omega, H4.out.1, H4.out.2.1, H4.out.2.2⟩
        case measure => first | (simp [intOf]; done) | (simp [intOf]; omega)
      · rw [hb0] at hand hst
        have hX : b ^ (n / 2 ^ (i + 1)) * b ^ (n / 2 ^ (i + 1)) * b = b ^ (n / 2 ^ i) := by rw [← Nat.pow_add, hst, ← Nat.pow_succ]; congr 1; omega
        clear hb0 hst
        go_wp2_with fail
        refine M1.mono ?_
        rintro e w4 ⟨rfl, hb4, F4, R4, hv4⟩
        have M2 := multiply_any (row_sl0 R4 (by unfold maxLen; omega)) (S'.below hb4) (by omega) (by omega)
        rw [hv4, hv', hX] at M2
        have H4 : Hid (NatV w4 (.slice bo fn fc) b ∧ Below w.heap.size w w4) := ⟨HB.out.2.below hb4, HB.out.1.trans (hb4.mono HB.out.1.size)⟩
        clear hv4 R4 hbl
        go_wp2_with fail
        refine M2.mono ?_
        rintro e w5 ⟨rfl, hb5, F5, R5, hv5⟩
        obtain ⟨nv, hl⟩ := natv_tl R5 (by unfold maxLen; omega) hv5 hfit
        have FT := fit_ok (row_sl0 R5 (by unfold maxLen; omega)) hl
        have H5 : Hid (NatV w5 (.slice (some ⟨w4.heap.size, 0, none⟩) (tl F5 (zn + zn + fn)) (tl F5 (zn + zn + fn))) (b ^ (n / 2 ^ i)) ∧ NatV w5 (.slice bo fn fc) b ∧ Below w.heap.size w w5) := ⟨nv, H4.out.1.below hb5, H4.out.2.trans (hb5.mono H4.out.2.size)⟩
        clear nv hl hv5 R5
        generalize tl F5 (zn + zn + fn) = tz at *
        go_wp2_with fail
        refine FT.mono ?_
        rintro e w6 ⟨rfl, rfl⟩
        go_wp2
        go_roundw
        case rel => exact ⟨i, by go_num, by omega, H5.out.1, H5.out.2.1, H5.out.2.2⟩
        case measure => first | (simp [intOf]; done) | (simp [intOf]; omega)
    · obtain rfl : k = 0 := by omega
      rw [Nat.pow_zero, Nat.div_one] at nz
      have HB : Hid (Below w.heap.size w wr) := hbl
      clear hbl c1
      go_wp2
      refine bodyPost_ret (v := .tuple #[u6, .nilIface]) (by simp [results, Tryd.results28, go_sem]) rfl ⟨_, rfl, nz, HB.out⟩

end Go.Proofs.YtkkgancmodhghaaDoor
