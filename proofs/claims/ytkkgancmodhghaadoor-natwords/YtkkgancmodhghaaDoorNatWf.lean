/-
  What nat's and the document's DivWord and Power answer, errors too; the document's Small.
-/
import Derived.Test.YtkkgancmodhghaaDoorNatPf
namespace Go.Proofs.YtkkgancmodhghaaDoor
open Go.RowKit

set_option maxRecDepth 100000 in
set_option maxHeartbeats 2000000 in
theorem power_full (b n : Nat) (hb : b < B) (hn : n ≤ 9223372036854775807) (w : World) :
    Calls Tryd.prog 28 #[.int .u64 (b : Int), .int .i64 (n : Int)] w fun e w' => ∃ v, e = .returned (.tuple #[v, errV (wE (b ^ n))]) ∧ NatV w' v (wR (b ^ n)) ∧ Below w.heap.size w w' := by
  obtain ⟨K, eK, hK, hnK⟩ := blen_nat (x := n) (by unfold B; omega)
  have LN := fun W => len_any n (by unfold B; omega) W
  rw [eK] at LN
  have O1 := fun W => of_any 1 (by decide) W
  have O2 := fun W => of_any b hb W
  have HF : Hid (n < 2 ^ K) := hnK
  clear hnK eK
  go_enter Tryd.func28, Tryd.ntmps28
  go_wp2_with fail
  refine (O1 _).mono ?_
  rintro e w1 ⟨v1, rfl, nv1, hb1⟩
  go_wp2_with fail
  refine (O2 _).mono ?_
  rintro e w2 ⟨v2, rfl, nv2, hb2⟩
  have hB2 : Below w.heap.size w w2 := hb1.trans (hb2.mono hb1.size)
  have nv1' := nv1.below hb2
  go_wp2_with fail
  refine (LN _).mono ?_
  rintro e w3 ⟨rfl, rfl⟩
  clear LN O1 O2
  go_wp2
  go_loopw [6, 8] (fun z i wr => ∃ k : Nat, i = .int .i64 ((k : Int) - 1) ∧ k ≤ K ∧ NatV wr z (b ^ (n / 2 ^ k)) ∧ NatV wr v2 b ∧ Below w.heap.size w wr) (fun _ i _ => (intOf i + 1).toNat)
  case atStart => exact ⟨K, rfl, Nat.le_refl _, by rw [Nat.div_eq_of_lt HF.out, Nat.pow_zero]; exact nv1', nv2, hB2⟩
  case round =>
    obtain ⟨k, rfl, hk, nz, nf, hbl⟩ := hrel
    by_cases c1 : 0 < k
    · obtain ⟨i, rfl⟩ : ∃ i, k = i + 1 := ⟨k - 1, by omega⟩
      obtain ⟨ao, zn, zc, zb, zo, f, rfl, S, t, hv, hzn⟩ := nz
      have nf' := nf
      obtain ⟨bo, fn, fc, fb, fo, G, rfl, S', t', hv', hfn⟩ := nf'
      have M1 := multiply_any S S (by omega) (by omega)
      rw [hv] at M1
      have hst := bit_step n i
      have hand : bits BinOp.and IntKind.i64 ((n : Int) / 2 ^ i) 1 = ((n / 2 ^ i % 2 : Nat) : Int) := by
        have q := and_one (n / 2 ^ i) (Nat.lt_of_le_of_lt (Nat.div_le_self _ _) (by omega))
        rw [← q, pow_cast]; rfl
      have HB : Hid (Below w.heap.size w wr ∧ NatV wr (.slice bo fn fc) b) := ⟨hbl, nf⟩
      have hi63 : i < 64 := by omega
      clear t t' nf hv
      have hn0 : (0 : Int) ≤ (n : Int) / 2 ^ i := by rw [pow_cast]; exact Int.natCast_nonneg (n / 2 ^ i)
      rw [show ((i + 1 : Nat) : Int) - 1 = (i : Int) by omega]
      rcases Nat.mod_two_eq_zero_or_one (n / 2 ^ i) with hb0 | hb0
      · rw [hb0] at hand hst
        have hX : b ^ (n / 2 ^ (i + 1)) * b ^ (n / 2 ^ (i + 1)) = b ^ (n / 2 ^ i) := by rw [← Nat.pow_add, hst]; congr 1; omega
        rw [hX] at M1
        clear hb0 hst hX
        go_wp2_with fail
        refine M1.mono ?_
        rintro e w4 ⟨rfl, hb4, F4, R4, hv4⟩
        by_cases hfit : b ^ (n / 2 ^ i) < B ^ 128
        · skip
          obtain ⟨nv, hl⟩ := natv_tl R4 (by unfold maxLen; omega) hv4 hfit
          have FT := fit_ok (row_sl0 R4 (by unfold maxLen; omega)) hl
          have H4 : Hid (NatV w4 (.slice (some ⟨wr.heap.size, 0, none⟩) (tl F4 (zn + zn)) (tl F4 (zn + zn))) (b ^ (n / 2 ^ i)) ∧ NatV w4 (.slice bo fn fc) b ∧ Below w.heap.size w w4) := ⟨nv, HB.out.2.below hb4, HB.out.1.trans (hb4.mono HB.out.1.size)⟩
          clear nv hl hv4 R4 hbl
          generalize tl F4 (zn + zn) = tz at *
          go_wp2_with fail
          refine FT.mono ?_
          rintro e w5 ⟨rfl, rfl⟩
          go_wp2
          go_roundw
          case rel => exact ⟨i, by go_num, by omega, H4.out.1, H4.out.2.1, H4.out.2.2⟩
          case measure => first | (simp [intOf]; done) | (simp [intOf]; omega)
        · skip
          have hl : 128 < tl F4 (zn + zn) := by
            rcases Nat.lt_or_ge 128 (tl F4 (zn + zn)) with z | z
            · exact z
            · exfalso
              have p := Nat.lt_of_lt_of_le (V_lt R4.ws (tl F4 (zn + zn))) (Nat.pow_le_pow_right B_pos z)
              rw [tl_V, hv4] at p
              exact hfit p
          have FT : Calls Tryd.prog 45 #[.slice (some ⟨wr.heap.size, 0, none⟩) (zn + zn) (zn + zn)] w4 fun e w' => e = .returned (.tuple #[.slice none 0 0, .iface 82 (.int .i64 20)]) ∧ w' = w4 := fit_big (row_sl0 R4 (by unfold maxLen; omega)) hl
          have HN : Hid (wE (b ^ n) = 20 ∧ wR (b ^ n) = 0 ∧ Below w.heap.size w w4) := by
            have nl : ¬ b ^ n < B ^ 128 := fun z => hfit (pow_le_fit z (Nat.div_le_self _ _))
            exact ⟨by unfold wE; rw [if_neg nl], by unfold wR; rw [if_neg nl], HB.out.1.trans (hb4.mono HB.out.1.size)⟩
          clear hfit hl hv4 R4
          go_wp2_with fail
          refine FT.mono ?_
          rintro e w4 ⟨rfl, rfl⟩
          go_wp2
          refine bodyPost_ret (v := .tuple #[.slice none 0 0, .iface 82 (.int .i64 20)]) (by simp [results, Tryd.results28, go_sem]) rfl ⟨_, by rw [HN.out.1]; rfl, by rw [HN.out.2.1]; exact natv_nil _, HN.out.2.2⟩
      · rw [hb0] at hand hst
        have hX : b ^ (n / 2 ^ (i + 1)) * b ^ (n / 2 ^ (i + 1)) * b = b ^ (n / 2 ^ i) := by rw [← Nat.pow_add, hst, ← Nat.pow_succ]; congr 1; omega
        clear hb0 hst
        go_wp2_with fail
        refine M1.mono ?_
        rintro e w4 ⟨rfl, hb4, F4, R4, hv4⟩
        have M2 := multiply_any (row_sl0 R4 (by unfold maxLen; omega)) (S'.below hb4) (by omega) (by omega)
        rw [hv4, hv', hX] at M2
        have H4 : Hid (NatV w4 (.slice bo fn fc) b ∧ Below w.heap.size w w4) := ⟨HB.out.2.below hb4, HB.out.1.trans (hb4.mono HB.out.1.size)⟩
        clear hv4 R4 hbl
        go_wp2_with fail
        refine M2.mono ?_
        rintro e w5 ⟨rfl, hb5, F5, R5, hv5⟩
        by_cases hfit : b ^ (n / 2 ^ i) < B ^ 128
        · skip
          obtain ⟨nv, hl⟩ := natv_tl R5 (by unfold maxLen; omega) hv5 hfit
          have FT := fit_ok (row_sl0 R5 (by unfold maxLen; omega)) hl
          have H5 : Hid (NatV w5 (.slice (some ⟨w4.heap.size, 0, none⟩) (tl F5 (zn + zn + fn)) (tl F5 (zn + zn + fn))) (b ^ (n / 2 ^ i)) ∧ NatV w5 (.slice bo fn fc) b ∧ Below w.heap.size w w5) := ⟨nv, H4.out.1.below hb5, H4.out.2.trans (hb5.mono H4.out.2.size)⟩
          clear nv hl hv5 R5
          generalize tl F5 (zn + zn + fn) = tz at *
          go_wp2_with fail
          refine FT.mono ?_
          rintro e w6 ⟨rfl, rfl⟩
          go_wp2
          go_roundw
          case rel => exact ⟨i, by go_num, by omega, H5.out.1, H5.out.2.1, H5.out.2.2⟩
          case measure => first | (simp [intOf]; done) | (simp [intOf]; omega)
        · skip
          have hl : 128 < tl F5 (zn + zn + fn) := by
            rcases Nat.lt_or_ge 128 (tl F5 (zn + zn + fn)) with z | z
            · exact z
            · exfalso
              have p := Nat.lt_of_lt_of_le (V_lt R5.ws (tl F5 (zn + zn + fn))) (Nat.pow_le_pow_right B_pos z)
              rw [tl_V, hv5] at p
              exact hfit p
          have FT : Calls Tryd.prog 45 #[.slice (some ⟨w4.heap.size, 0, none⟩) (zn + zn + fn) (zn + zn + fn)] w5 fun e w' => e = .returned (.tuple #[.slice none 0 0, .iface 82 (.int .i64 20)]) ∧ w' = w5 := fit_big (row_sl0 R5 (by unfold maxLen; omega)) hl
          have HN : Hid (wE (b ^ n) = 20 ∧ wR (b ^ n) = 0 ∧ Below w.heap.size w w5) := by
            have nl : ¬ b ^ n < B ^ 128 := fun z => hfit (pow_le_fit z (Nat.div_le_self _ _))
            exact ⟨by unfold wE; rw [if_neg nl], by unfold wR; rw [if_neg nl], H4.out.2.trans (hb5.mono H4.out.2.size)⟩
          clear hfit hl hv5 R5
          go_wp2_with fail
          refine FT.mono ?_
          rintro e w5 ⟨rfl, rfl⟩
          go_wp2
          refine bodyPost_ret (v := .tuple #[.slice none 0 0, .iface 82 (.int .i64 20)]) (by simp [results, Tryd.results28, go_sem]) rfl ⟨_, by rw [HN.out.1]; rfl, by rw [HN.out.2.1]; exact natv_nil _, HN.out.2.2⟩
    · obtain rfl : k = 0 := by omega
      rw [Nat.pow_zero, Nat.div_one] at nz
      have HB : Hid (Below w.heap.size w wr) := hbl
      clear hbl c1
      go_wp2
      have hlt : b ^ n < B ^ 128 := by
        obtain ⟨_, _, _, _, _, _, _, S, _, hv, hl⟩ := nz
        rw [← hv]
        exact V_small S.ws hl
      have HN : Hid (wE (b ^ n) = 0 ∧ wR (b ^ n) = b ^ n) := ⟨by unfold wE; rw [if_pos hlt], by unfold wR; rw [if_pos hlt]⟩
      refine bodyPost_ret (v := .tuple #[u6, .nilIface]) (by simp [results, Tryd.results28, go_sem]) rfl ⟨_, by rw [HN.out.1]; rfl, by rw [HN.out.2]; exact nz, HB.out⟩


/-- The error of an exponent. -/
def sgn (s : Int) : Nat := if s < 0 then 1 else 0
theorem sgn_neg {s : Int} (h : s < 0) : sgn s = 1 := if_pos h
theorem sgn_nat (k : Nat) : sgn (k : Int) = 0 := if_neg (by omega)

set_option maxHeartbeats 1000000 in
theorem powerN_any (b : Nat) (hb : b < B) (s : Int) (hs : s < 9223372036854775808) (w : World) :
    Calls Tryd.prog 28 #[.int .u64 (b : Int), .int .i64 s] w fun e w' => ∃ v, e = .returned (.tuple #[v, errV (err2 (sgn s) (wE (b ^ s.toNat)))]) ∧ NatV w' v (num2 (sgn s) (wR (b ^ s.toNat))) ∧ Below w.heap.size w w' := by
  by_cases g : s < 0
  · rw [sgn_neg g, num2_bad (by omega), err2_bad (by omega)]
    unfold errV
    clear hs
    go_enter Tryd.func28, Tryd.ntmps28
    go_wp2
    refine bodyPost_ret (v := .tuple #[.slice none 0 0, .iface 82 (.int .i64 1)]) (by simp [results, Tryd.results28, go_sem]) rfl ⟨_, rfl, natv_nil _, Below.refl _ _⟩
  · obtain ⟨k, rfl⟩ := Int.eq_ofNat_of_zero_le (Int.not_lt.1 g)
    rw [Int.toNat_natCast, sgn_nat, num2_zero, err2_zero]
    exact power_full b k hb (by omega) w

theorem small_nat (x : Nat) (hx : x < B) (w : World) :
    Calls Tryd.prog 61 #[.int .u64 (x : Int)] w fun e w' => ∃ v, e = .returned v ∧ Big.NatV w' v x ∧ Below w.heap.size w w' := by
  have e1 := lo32 x
  have e2 := hi32 hx
  have h1 : x % Big.B < Big.B := Nat.mod_lt _ Big.B_pos
  have h2 : x / Big.B < Big.B := half_lt hx
  have hS : ∀ W : World, Big.Sl (W.alloc (.cells #[.int .u32 ((x % Big.B : Nat) : Int), .int .u32 ((x / Big.B : Nat) : Int)] 116)) (some ⟨W.heap.size, 0, none⟩) 2 2 W.heap.size 0 (halves (fun _ => x)) := fun W =>
    ⟨Nat.le_refl _, by unfold maxLen; omega, fun _ => rfl, fun _ => by simp, fun i hi => by
      rcases (by omega : i = 0 ∨ i = 1) with rfl | rfl
      · simp [halves]
      · simp [halves], halves_Ws (fun _ => hx)⟩
  have hV : Big.V (halves (fun _ => x)) 2 = x := by
    have := halves_V (fun _ => x) 1
    rw [this, V_succ, V_zero, Nat.pow_zero]; omega
  have HS : Hid (∀ W : World, Big.Sl (W.alloc (.cells #[.int .u32 ((x % Big.B : Nat) : Int), .int .u32 ((x / Big.B : Nat) : Int)] 116)) (some ⟨W.heap.size, 0, none⟩) 2 2 W.heap.size 0 (halves (fun _ => x))) := hS
  have HV : Hid (Big.V (halves (fun _ => x)) 2 = x) := hV
  clear hS hV
  generalize x % Big.B = lo at *
  generalize x / Big.B = hi at *
  have T := Big.trim_any (HS.out w)
  have NV := (HS.out w).trimmed
  rw [HV.out] at NV
  go_enter Tryd.func61, Tryd.ntmps61
  go_wp2_with fail
  refine T.mono ?_
  rintro e wa ⟨rfl, rfl⟩
  go_wp2
  go_ret
  exact ⟨_, rfl, NV, (Below.refl _ _).alloc (Nat.le_refl _) _⟩

theorem D_B : Big.B ^ 256 = B ^ 128 := (BB_pow 128).symm

set_option maxRecDepth 100000 in
set_option maxHeartbeats 1000000 in
theorem rpower_long {w : World} (b : Nat) (hb : b < B) (n : Nat) (hn : n < 9223372036854775808) (h0 : n ≠ 0) (hb0 : b ≠ 0) (hb1 : b ≠ 1) :
    Calls Tryd.prog 29 #[.int .u64 (b : Int), .int .i64 (n : Int)] w fun e w' => ∃ v, e = .returned (.tuple #[v, .int .i64 (wE (b ^ n) : Int)]) ∧ NatV w' v (wR (b ^ n)) ∧ Below w.heap.size w w' := by
  have k0 : (0 : Int) ≤ (n : Int) := by omega
  have k1 : ((n : Int) == 0) = false := beq_eq_false_iff_ne.mpr (by omega)
  have k2 : ((b : Int) == 0) = false := beq_eq_false_iff_ne.mpr (by omega)
  have k3 : ((b : Int) == 1) = false := beq_eq_false_iff_ne.mpr (by omega)
  have HB : Hid (b < B) := hb
  have S1 := fun W => small_nat 1 (by decide) W
  have S2 := fun W => small_nat b hb W
  have fb : Fits 2 b := Fits.word (n := 1) (by rw [Nat.pow_one]; exact hb)
  have HFB : Hid (Fits 2 b) := fb
  clear hb fb
  go_enter Tryd.func29, Tryd.ntmps29
  go_wp2_with fail
  refine (S1 _).mono ?_
  rintro e w1 ⟨v1, rfl, n1, b1⟩
  go_wp2
  go_loopw [6, 7] (fun z i wr => ∃ k : Nat, i = .int .i64 (k : Int) ∧ k ≤ n ∧ Big.NatV wr z (b ^ k) ∧ Hid (Fits 256 (b ^ k)) ∧ Below w.heap.size w wr) (fun _ i _ => n - (intOf i).toNat)
  case atStart => exact ⟨0, rfl, Nat.zero_le _, by rw [Nat.pow_zero]; exact n1, ⟨1, by omega, by rw [Nat.pow_zero]; decide⟩, b1⟩
  case round =>
    obtain ⟨k, rfl, hk, nz, HF, hbl⟩ := hrel
    by_cases c1 : k < n
    · have c1' : (k : Int) < (n : Int) := by omega
      go_wp2_with fail
      refine (S2 _).mono ?_
      rintro e w2 ⟨v2, rfl, n2, b2⟩
      have B2 : Below w.heap.size w w2 := hbl.trans (b2.mono hbl.size)
      have T := times_nat (nz.below b2) n2 (HF.out.up (by omega)) (HFB.out.up (by omega))
      rw [← Nat.pow_succ] at T
      clear nz n2 b2 hbl
      go_wp2_with fail
      refine T.mono ?_
      rintro e w3 ⟨v3, rfl, n3, b3⟩
      have B3 : Below w.heap.size w w3 := B2.trans (b3.mono B2.size)
      have n3' := n3
      obtain ⟨ao, l, c, bk, o, f, rfl, S, t, hv⟩ := n3'
      have HNV : Hid (Big.NatV w3 (.slice ao l c) (b ^ (k + 1))) := n3
      have hll := big_len t (L := 258) (by rw [hv, Nat.pow_succ]; exact HF.out.mul HFB.out)
      clear T b3 B2 n3
      by_cases c2 : 256 < l
      · have c2' : (256 : Int) < (l : Int) := by omega
        have HN : Hid (wE (b ^ n) = 20 ∧ wR (b ^ n) = 0) := by
          have nl : ¬ b ^ n < B ^ 128 := by
            intro z
            have q := pow_le_fit z (show k + 1 ≤ n by omega)
            rw [← hv, ← D_B] at q
            have := Big.len_le t q
            omega
          exact ⟨by unfold wE; rw [if_neg nl], by unfold wR; rw [if_neg nl]⟩
        clear S t hv
        go_wp2
        refine bodyPost_ret (v := .tuple #[.slice none 0 0, .int .i64 20]) (by simp [results, Tryd.results29, go_sem]) rfl ⟨_, by rw [HN.out.1]; rfl, by rw [HN.out.2]; exact natv_nil _, B3⟩
      · have c2' : ¬ (256 : Int) < (l : Int) := by omega
        have HF3 : Hid (Fits 256 (b ^ (k + 1))) := ⟨l, by omega, by rw [← hv]; exact Big.V_lt S.ws l⟩
        clear S t hv
        go_wp2
        go_roundw
        case rel => exact ⟨k + 1, by go_num, by omega, HNV.out, HF3, B3⟩
        case measure => simp [intOf]; omega
    · obtain rfl : k = n := by omega
      have c1' : ¬ (k : Int) < (k : Int) := by omega
      have lt : b ^ k < B ^ 128 := by rw [← D_B]; exact HF.out.lt
      have W := words_in nz lt
      have HN : Hid (wE (b ^ k) = 0 ∧ wR (b ^ k) = b ^ k) := ⟨by unfold wE; rw [if_pos lt], by unfold wR; rw [if_pos lt]⟩
      clear lt c1'
      go_wp2_with fail
      refine W.mono ?_
      rintro e w2 ⟨v2, rfl, n2, b2⟩
      go_wp2
      refine bodyPost_ret (v := .tuple #[v2, .int .i64 0]) (by simp [results, Tryd.results29, go_sem]) rfl ⟨_, by rw [HN.out.1]; rfl, by rw [HN.out.2]; exact n2, hbl.trans (b2.mono hbl.size)⟩

set_option maxHeartbeats 1000000 in
theorem rpower_any (b : Nat) (hb : b < B) (s : Int) (hs : s < 9223372036854775808) (w : World) :
    Calls Tryd.prog 29 #[.int .u64 (b : Int), .int .i64 s] w fun e w' => ∃ v, e = .returned (.tuple #[v, .int .i64 (err2 (sgn s) (wE (b ^ s.toNat)) : Int)]) ∧ NatV w' v (num2 (sgn s) (wR (b ^ s.toNat))) ∧ Below w.heap.size w w' := by
  have one : (1 : Nat) < B ^ 128 := Nat.one_lt_pow (by omega) (by decide)
  have nought : (0 : Nat) < B ^ 128 := Bp_pos 128
  by_cases g : s < 0
  · rw [sgn_neg g, num2_bad (by omega), err2_bad (by omega)]
    clear hs one nought
    go_enter Tryd.func29, Tryd.ntmps29
    go_wp2
    refine bodyPost_ret (v := .tuple #[.slice none 0 0, .int .i64 1]) (by simp [results, Tryd.results29, go_sem]) rfl ⟨_, rfl, natv_nil _, Below.refl _ _⟩
  · obtain ⟨k, rfl⟩ := Int.eq_ofNat_of_zero_le (Int.not_lt.1 g)
    rw [Int.toNat_natCast, sgn_nat, num2_zero, err2_zero]
    have k0 : (0 : Int) ≤ (k : Int) := by omega
    have k1 : k < 9223372036854775808 := by omega
    clear g hs
    by_cases h0 : k = 0
    · subst h0
      rw [Nat.pow_zero]
      unfold wE wR
      rw [if_pos one, if_pos one]
      clear one nought
      go_enter Tryd.func29, Tryd.ntmps29
      go_wp2
      refine bodyPost_ret (v := .tuple #[.slice (some ⟨w.heap.size, 0, none⟩) 1 1, .int .i64 0]) (by simp [results, Tryd.results29, go_sem]) rfl ⟨_, rfl, natv_lit (x := 1) (by decide) (by decide) _, (Below.refl _ _).alloc (Nat.le_refl _) _⟩
    · have kz : ((k : Int) == 0) = false := beq_eq_false_iff_ne.mpr (by omega)
      by_cases h1 : b = 1
      · subst h1
        rw [Nat.one_pow]
        unfold wE wR
        rw [if_pos one, if_pos one]
        clear one nought
        go_enter Tryd.func29, Tryd.ntmps29
        go_wp2
        refine bodyPost_ret (v := .tuple #[.slice (some ⟨w.heap.size, 0, none⟩) 1 1, .int .i64 0]) (by simp [results, Tryd.results29, go_sem]) rfl ⟨_, rfl, natv_lit (x := 1) (by decide) (by decide) _, (Below.refl _ _).alloc (Nat.le_refl _) _⟩
      · by_cases h2 : b = 0
        · subst h2
          rw [Nat.zero_pow (by omega)]
          unfold wE wR
          rw [if_pos nought]
          clear one nought
          go_enter Tryd.func29, Tryd.ntmps29
          go_wp2
          refine bodyPost_ret (v := .tuple #[.slice none 0 0, .int .i64 0]) (by simp [results, Tryd.results29, go_sem]) rfl ⟨_, rfl, natv_nil _, Below.refl _ _⟩
        · exact rpower_long b hb k k1 h0 h2 h1

/-- A slice of one word, or of none: the number of a word. -/
def wordF (d : Nat) (i : Nat) : Nat := if i = 0 then d else 0
theorem wordF_V (d : Nat) : V (wordF d) 1 = d := by rw [V_succ, V_zero, Nat.pow_zero]; unfold wordF; simp
theorem wordF_Ws {d : Nat} (h : d < B) : Ws (wordF d) := by
  intro i; unfold wordF; split
  · exact h
  · exact B_pos
theorem verr2_word {f : Nat → Nat} {n d : Nat} (h : d ≠ 0) : verr2 f n (wordF d) 1 = verr f n := by
  have e : verr (wordF d) 1 = 0 := verr_ok (by omega) (Or.inr (by unfold wordF; simpa using h))
  unfold verr2
  by_cases q : verr f n = 0
  · rw [if_pos q, e, q]
  · rw [if_neg q]
theorem verr2_none {f g : Nat → Nat} {n : Nat} : verr2 f n g 0 = verr f n := by
  have e : verr g 0 = 0 := verr_ok (by omega) (Or.inl rfl)
  unfold verr2
  by_cases q : verr f n = 0
  · rw [if_pos q, e, q]
  · rw [if_neg q]
theorem dM_lt {k X d : Nat} (hd : d < B) : dM k X d < B := by
  unfold dM num2
  split
  · split
    · exact B_pos
    · exact Nat.lt_trans (Nat.mod_lt _ (by omega)) hd
  · exact B_pos
/-- A number below B is its lowest word. -/
theorem natv_word {w : World} {v : Value} {X : Nat} (h : NatV w v X) (hX : X < B) : (∃ ao c, v = .slice ao 0 c ∧ X = 0) ∨ (∃ b o c, v = .slice (some ⟨b, o, none⟩) 1 c ∧ w.cell? ⟨b, o, none⟩ = some (.int .u64 (X : Int))) := by
  obtain ⟨ao, n, c, b, o, f, rfl, S, t, hv, hn⟩ := h
  have hl := len_le t (k := 1) (by rw [hv, Nat.pow_one]; exact hX)
  rcases (by omega : n = 0 ∨ n = 1) with rfl | rfl
  · exact Or.inl ⟨ao, c, rfl, hv.symm⟩
  · obtain rfl := S.addr (by omega)
    have hc := S.cell 0 (by omega)
    rw [Nat.add_zero] at hc
    rw [V_succ, V_zero, Nat.pow_zero, Nat.zero_add, Nat.mul_one] at hv
    rw [hv] at hc
    exact Or.inr ⟨b, o, c, rfl, hc⟩

set_option maxRecDepth 100000 in
set_option maxHeartbeats 1000000 in
theorem rdivword_any {w : World} {ao : Option Addr} {n c b o : Nat} {f : Nat → Nat} (S : Sl w ao n c b o f) (d : Nat) (hd : d < B) :
    Calls Tryd.prog 27 #[.slice ao n c, .int .u64 (d : Int)] w fun e w' => ∃ v, e = .returned (.tuple #[v, .int .u64 (dM (verr f n) (V f n) d : Int), .int .i64 (dE (verr f n) d : Int)]) ∧ NatV w' v (dQ (verr f n) (V f n) d) ∧ Below w.heap.size w w' := by
  have HS : Hid (Sl w ao n c b o f) := S
  have HM : Hid (dM (verr f n) (V f n) d < B) := dM_lt hd
  by_cases h0 : d = 0
  · have Sn : Sl w none 0 0 0 0 (fun _ => 0) := ⟨Nat.le_refl _, Nat.zero_le _, fun h => absurd h (by omega), fun h => absurd h (by omega), fun i h => absurd h (by omega), fun _ => B_pos⟩
    have D := rdiv_any S Sn
    rw [verr2_none, show V (fun _ => 0) 0 = 0 from rfl] at D
    have HZ : Hid (dM (verr f n) (V f n) 0 = 0) := by
      show _ = _
      by_cases q : verr f n = 0
      · rw [q]; exact dM_zero _
      · exact dM_bad q
    rw [h0, HZ.out]
    rw [HZ.out] at D
    generalize dE (verr f n) 0 = E at *
    clear S Sn HM
    go_enter Tryd.func27, Tryd.ntmps27
    go_wp2_with fail
    refine D.mono ?_
    rintro e w1 ⟨v1, v2, rfl, n1, n2, b1⟩
    rcases natv_word n2 B_pos with ⟨ao2, c2, rfl, _⟩ | ⟨b2, o2, c2, rfl, hc⟩
    · clear n2
      go_wp2
      refine bodyPost_ret (v := .tuple #[v1, .int .u64 0, .int .i64 (E : Int)]) (by simp [results, Tryd.results27, go_sem]) rfl ⟨_, rfl, n1, b1⟩
    · exfalso
      obtain ⟨_, n', _, _, _, f', e, S2, t, hv, _⟩ := n2
      have e' : n' = 1 := by injection e with _ h _; exact h.symm
      subst e'
      have := Top_ge t (by omega)
      have := Bp_pos (1 - 1)
      omega
  · obtain ⟨i0, hi, hz0, hz1, hz2⟩ := info_parts info_u64
    have hd0 : (0 : Int) < (d : Int) := by omega
    go_enter Tryd.func27, Tryd.ntmps27
    go_wp2_with (first
      | (at_builtin; refine wpList_append_own _ rfl _ _ 22 rfl w.heap.size 35 i0 (.int .u64 0) 1 8 und_wordsB hi hz0 hz1 hz2 rfl (by decide) _ _ _ rfl ((World.ownsRow_nil _ _ _ _).alloc _) ⟨w.heap.size, 0, none⟩ 1 1 [.int .u64 (d : Int)] rfl rfl (World.news_of_block (cs := #[.int .u64 (d : Int)]) (t := 35) (fr := (0, 0)) (heap_alloc_new w _)) (by simp [Value.oneCell']) (by unfold maxLen; omega) (by omega) (by rw [World.size_alloc]; omega) ?_)
      | go_in)
    intro v' w3 hown' hgrow hnil
    have hb3 : Below w.heap.size w w3 := ((Below.refl _ _).alloc (Nat.le_refl _) _).grown hgrow (by rw [World.size_alloc]; omega) (fun q hq => by cases hq)
    have hown2 : w3.ownsRow w.heap.size 35 1 v' 1 (dV .u64 (wordF d) 1) := hown'
    obtain ⟨ao', c', b', rfl, S3, _⟩ := own_sl hown2 (wordF_Ws hd)
    have D := rdiv_any (HS.out.below hb3) S3
    rw [verr2_word h0, wordF_V] at D
    clear hown' hown2 hgrow hnil S S3
    go_wp2_with fail
    refine D.mono ?_
    rintro e w1 ⟨v1, v2, rfl, n1, n2, b1⟩
    have B1 : Below w.heap.size w w1 := hb3.trans (b1.mono hb3.size)
    rcases natv_word n2 HM.out with ⟨ao2, c2, rfl, hz⟩ | ⟨b2, o2, c2, rfl, hc⟩
    · have HZ : Hid (dM (verr f n) (V f n) d = 0) := hz
      clear n2 hz D
      go_wp2
      refine bodyPost_ret (v := .tuple #[v1, .int .u64 0, .int .i64 (dE (verr f n) d : Int)]) (by simp [results, Tryd.results27, go_sem]) rfl ⟨_, by rw [HZ.out]; rfl, n1, B1⟩
    · clear n2 D
      generalize hr : dM (verr f n) (V f n) d = r at *
      have HR : Hid (dM (verr f n) (V f n) d = r) := hr
      clear hr
      go_wp2
      go_region
      all_goals
        go_wp2
        refine bodyPost_ret (v := .tuple #[v1, .int .u64 (r : Int), .int .i64 (dE (verr f n) d : Int)]) (by simp [results, Tryd.results27, go_sem]) rfl ⟨_, by rw [HR.out], n1.below ((Below.refl _ _).drew), B1.drew⟩

set_option maxRecDepth 100000 in
set_option maxHeartbeats 1000000 in
theorem divwordN_any {w : World} {ao : Option Addr} {n c b o : Nat} {f : Nat → Nat} (S : Sl w ao n c b o f) (d : Nat) (hd : d < B) :
    Calls Tryd.prog 26 #[.slice ao n c, .int .u64 (d : Int)] w fun e w' => ∃ v, e = .returned (.tuple #[v, .int .u64 (dM (verr f n) (V f n) d : Int), errV (dE (verr f n) d)]) ∧ NatV w' v (dQ (verr f n) (V f n) d) ∧ Below w.heap.size w w' := by
  have h1 := valid_any S
  by_cases q : verr f n = 0
  · obtain ⟨hn, t⟩ := verr_nat q
    rw [q] at h1 ⊢
    by_cases z : d = 0
    · subst z
      rw [dE_zero, dQ_zero, dM_zero]
      unfold errV at h1 ⊢
      clear q S t
      go_enter Tryd.func26, Tryd.ntmps26
      go_wp2_with fail
      refine h1.mono ?_
      rintro e wa ⟨rfl, hba⟩
      go_wp2
      refine bodyPost_ret (v := .tuple #[.slice none 0 0, .int .u64 0, .iface 82 (.int .i64 10)]) (by simp [results, Tryd.results26, go_sem]) rfl ⟨_, rfl, natv_nil _, hba⟩
    · rw [dE_ok z, dQ_ok, dM_ok z]
      unfold errV at h1 ⊢
      have hz : ((d : Int) == 0) = false := beq_eq_false_iff_ne.mpr (by omega)
      have hmk := run_make_row' (P := Tryd.prog) 23 35 (.int .u64 0) 8 und_nat info_u64 rfl .i64 .i64 n (by omega) (by omega)
      have HS : Hid (Sl w ao n c b o f) := S
      have HD : Hid (0 < d ∧ d < B ∧ V f n / d < B ^ 128) := ⟨Nat.pos_of_ne_zero z, hd, Nat.lt_of_le_of_lt (Nat.div_le_self _ _) (V_small S.ws hn)⟩
      clear q S t
      go_enter Tryd.func26, Tryd.ntmps26
      go_wp2_with fail
      refine h1.mono ?_
      rintro e wb ⟨rfl, hb1⟩
      have S1 := HS.out.below hb1
      have bA : Below wb.heap.size wb (wb.alloc (.cells (madeCells #[.int .u64 0] n) 35)) := (Below.refl _ _).alloc (Nat.le_refl _) _
      obtain ⟨w2, hcp, R2, hg2⟩ := copy_run (cz := n) (made_row wb n) (S1.below bA) (Nat.le_refl n)
      have b2 : Below wb.heap.size wb w2 := below_grown bA hg2 (Nat.le_refl _)
      have eV : V (fun i => if i < n then f i else 0) n = V f n := V_congr fun i hi => by show (if i < n then f i else 0) = f i; rw [if_pos hi]
      have D := divideBy_any (c := n) R2 (Nat.le_refl n) (by omega) d HD.out.1 HD.out.2.1
      rw [eV] at D
      have b3 : Below w.heap.size w w2 := hb1.trans (b2.mono hb1.size)
      have hsz := hb1.size
      clear R2 hg2 bA b2 eV
      go_wp2_with fail
      refine D.mono ?_
      rintro e w3 ⟨rfl, hg3, F, R3, hv⟩
      have b4 : Below w.heap.size w w3 := below_grown b3 hg3 hsz
      obtain ⟨nv, hl⟩ := natv_tl R3 (by unfold maxLen; omega) hv HD.out.2.2
      have TT := trim_any (row_sl0 R3 (by unfold maxLen; omega))
      go_wp2_with fail
      refine TT.mono ?_
      rintro e w4 ⟨rfl, rfl⟩
      go_wp2
      refine bodyPost_ret (v := .tuple #[.slice (some ⟨wb.heap.size, 0, none⟩) (tl F n) (tl F n), .int .u64 ((V f n % d : Nat) : Int), .nilIface]) (by simp [results, Tryd.results26, go_sem]) rfl ⟨_, rfl, nv, b4⟩
  · rw [dE_bad q, dQ_bad q, dM_bad q]
    rw [errV_succ q] at h1 ⊢
    generalize verr f n = k at *
    go_enter Tryd.func26, Tryd.ntmps26
    go_wp2_with fail
    refine h1.mono ?_
    rintro e wa ⟨rfl, hba⟩
    go_wp2
    refine bodyPost_ret (v := .tuple #[.slice none 0 0, .int .u64 0, .iface 82 (.int .i64 (k : Int))]) (by simp [results, Tryd.results26, go_sem]) rfl ⟨_, rfl, natv_nil _, hba⟩

end Go.Proofs.YtkkgancmodhghaaDoor
