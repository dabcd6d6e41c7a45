/-
  What the document's Shl, Bits and bit of layer 13 answer.
-/
import Derived.Test.YtohbggdkopmpfaaDoorPwS
namespace Go.Proofs.YtohbggdkopmpfaaDoor
open Go.RowKit

theorem made_dV64 (q : Nat) : (madeCells #[.int .u64 0] q).toList = dV .u64 (fun _ => 0) q := by
  apply List.ext_getElem?
  intro i
  by_cases h : i < q
  · rw [dV_get h]; simp [madeCells, h, Nat.mod_one]
  · simp [madeCells, dV, h]
theorem wrap_nat64 {t : Nat} (h : t < 18446744073709551616) : IntKind.u64.wrap (t : Int) = (t : Int) := by rw [IntKind.wrap_u64]; omega
theorem and_one64 (a : Nat) (ha : a < 18446744073709551616) : bits .and .u64 (a : Int) 1 = ((a % 2 : Nat) : Int) := by
  have h := bits_and_u64_nat a 1 ha (by omega)
  rw [Nat.and_one_is_mod] at h
  exact h

set_option maxRecDepth 100000 in
set_option maxHeartbeats 2000000 in
theorem dshl_big {w : World} {ao : Option Addr} {n c b o : Nat} {f : Nat → Nat} (S : Big.D.Sl w ao n c b o f) (hn : n ≤ 1000) (s q p : Nat) (hsq : s = 32 * q + p) (hp : p < 32) (hq : q ≤ 1000) :
    Calls Tryd.prog 31 #[.slice ao n c, .int .i64 (s : Int)] w fun e w' => ∃ v, e = .returned v ∧ Big.D.NewV w' w.heap.size v (Big.V f n * 2 ^ s) ∧ Below w.heap.size w w' := by
  obtain ⟨i0, hi, hz0, hz1, hz2⟩ := info_parts Big.D.info_u64
  have hmk := run_make_row' (P := Tryd.prog) 66 22 (.int .u64 0) 8 Big.D.und_big13 Big.D.info_u64 rfl .i64 .i64 q (by omega) (by omega)
  have HS : Hid (Big.D.Sl w ao n c b o f) := S
  have d1 : (s : Int) / 32 = (q : Int) := by omega
  have d2 : (s : Int) % 32 = (p : Int) := by omega
  have d3 : (s : Int).tdiv 32 = (q : Int) := by rw [Int.tdiv_eq_ediv_of_nonneg (by omega)]; exact d1
  have d4 : (s : Int).tmod 32 = (p : Int) := by rw [Int.tmod_eq_emod_of_nonneg (by omega)]; exact d2
  have hs : s ≤ 33000 := by omega
  have hpp : 2 ^ p ≤ 2147483648 := by have : 2 ^ p ≤ 2 ^ 31 := Nat.pow_le_pow_right (by omega) (by omega); omega
  have sh1 : IntKind.u64.wrap (1 * (2 : Int) ^ p) = ((2 ^ p : Nat) : Int) := by rw [Int.one_mul, pow_cast]; exact wrap_nat64 (by omega)
  have sh2 : IntKind.u64.wrap ((2 : Int) ^ p) = ((2 ^ p : Nat) : Int) := by rw [pow_cast]; exact wrap_nat64 (by omega)
  have tpos := Nat.two_pow_pos p
  have HQ : Hid (2 ^ s = Big.B ^ q * 2 ^ p) := by
    show _ = _
    rw [hsq, Nat.pow_add, D_pow]
  generalize 2 ^ p = t at *
  clear S hsq
  go_enter Tryd.func31, Tryd.ntmps31
  go_wp2
  go_loopw [5, 7, 8] (fun v cy i wr => ∃ (k z : Nat) (F : Nat → Nat), cy = .int .u64 (z : Int) ∧ i = .int .i64 (k : Int) ∧ k ≤ n ∧ z < t ∧ Big.Ws F ∧ wr.ownsRow w.heap.size 22 1 v (q + k) (dV .u64 F (q + k)) ∧ Below w.heap.size w wr ∧ Hid (Big.V F (q + k) + z * Big.B ^ (q + k) = Big.V f k * 2 ^ s)) (fun _ _ i _ => n - (intOf i).toNat)
  case atStart =>
    refine ⟨0, 0, fun _ => 0, rfl, rfl, Nat.zero_le _, tpos, fun _ => Big.B_pos, ?_, (Below.refl _ _).alloc (Nat.le_refl _) _, ?_⟩
    · have q1 := World.ownsRow_lit (base := w.heap.size) (e := 22) (size := 1) w (madeCells #[.int .u64 0] q) q (Nat.le_refl _) (by unfold maxLen; omega) (by simp [madeCells])
      rw [made_dV64] at q1
      exact q1
    · show Big.V (fun _ => 0) (q + 0) + 0 * _ = Big.V f 0 * _
      rw [Big.V_nought, Big.V_zero]; omega
  case round =>
    obtain ⟨k, z, F, rfl, rfl, hk, hzt, hF, hown, hbl, HV⟩ := hrel
    have hsz := hbl.size
    by_cases c1 : k < n
    · obtain rfl := HS.out.addr (by omega)
      have hc := (HS.out.below hbl).cell k c1
      have hxB := HS.out.ws k
      have hP : (f k + 1) * t ≤ Big.B * t := Nat.mul_le_mul_right _ hxB
      rw [Nat.add_mul, Nat.one_mul] at hP
      have dm := Nat.div_add_mod (f k * t + z) Big.B
      have HST : Hid (Big.V F (q + k) + (f k * t + z) % Big.B * Big.B ^ (q + k) + (f k * t + z) / Big.B * (Big.B ^ (q + k) * Big.B) = Big.V f (k + 1) * 2 ^ s) := by
        show _ = _
        have g := upB_gen (P := Big.B ^ (q + k)) HV.out dm
        rw [g, Big.V_succ, Nat.add_mul, HQ.out]
        congr 1
        rw [Nat.mul_assoc (f k), Nat.pow_add]
        generalize Big.B ^ q = x
        generalize Big.B ^ k = y
        rw [Nat.mul_comm t (x * y), Nat.mul_comm x y, Nat.mul_assoc]
      have hqz : (f k * t + z) / Big.B < t := by
        rw [Nat.div_lt_iff_lt_mul Big.B_pos, Nat.mul_comm t Big.B]
        omega
      have hr : (f k * t + z) % Big.B < Big.B := Nat.mod_lt _ Big.B_pos
      have pm : ((f k : Nat) : Int) * (t : Int) = ((f k * t : Nat) : Int) := by rw [Int.natCast_mul]
      have e1 : (((f k * t : Nat) : Int) + (z : Int)) % 4294967296 = (((f k * t + z) % Big.B : Nat) : Int) := by unfold Big.B; omega
      have e2 : (((f k * t : Nat) : Int) + (z : Int)) / 4294967296 = (((f k * t + z) / Big.B : Nat) : Int) := by unfold Big.B; omega
      have pl : f k * t + z < 18446744073709551616 := by
        unfold Big.B at hP
        omega
      unfold Big.B at hxB
      generalize (f k * t + z) % Big.B = r at *
      generalize (f k * t + z) / Big.B = q2 at *
      generalize f k * t = y at *
      clear dm hP
      go_wp2_with (first
        | (at_builtin; refine wpList_append_own _ rfl _ _ 66 rfl w.heap.size 22 i0 (.int .u64 0) 1 8 Big.D.und_big13 hi hz0 hz1 hz2 rfl (by decide) _ _ _ rfl (hown.alloc _) ⟨wr.heap.size, 0, none⟩ 1 1 [.int .u64 (r : Int)] rfl rfl (World.news_of_block (cs := #[.int .u64 (r : Int)]) (t := 22) (fr := (0, 0)) (heap_alloc_new wr _)) (by simp [Value.oneCell']) (by unfold maxLen; omega) (by omega) (by rw [World.size_alloc]; omega) ?_)
        | go_in)
      intro v' w3 hown' hgrow hnil
      have hb3 : Below w.heap.size w w3 := (hbl.alloc (by omega) _).grown hgrow (by rw [World.size_alloc]; omega) (fun q hq => (hown.lt q hq).1)
      have HO3 : Hid (w3.ownsRow w.heap.size 22 1 v' (q + (k + 1)) (dV .u64 (Big.put F (q + k) r) (q + (k + 1))) ∧ Below w.heap.size w w3) := ⟨by rw [← Nat.add_assoc, dV_put]; exact hown', hb3⟩
      clear hown' hb3 hgrow hnil hown hbl
      go_wp2
      go_roundw
      case rel =>
        refine ⟨k + 1, q2, Big.put F (q + k) r, by rw [e2], by go_num, by omega, hqz, Big.put_Ws hF hr, HO3.out.1, HO3.out.2, ?_⟩
        show _ = _
        rw [← Nat.add_assoc, V_putB, Nat.pow_succ]
        exact HST.out
      case measure => simp [intOf]; omega
    · obtain rfl : k = n := by omega
      have HE : Hid (Big.V (Big.put F (q + k) z) (q + k + 1) = Big.V f k * 2 ^ s) := by
        show _ = _
        rw [V_putB, HV.out]
      have hw : Big.Ws (Big.put F (q + k) z) := Big.put_Ws hF (by unfold Big.B; omega)
      go_wp2_with (first
        | (at_builtin; refine wpList_append_own _ rfl _ _ 66 rfl w.heap.size 22 i0 (.int .u64 0) 1 8 Big.D.und_big13 hi hz0 hz1 hz2 rfl (by decide) _ _ _ rfl (hown.alloc _) ⟨wr.heap.size, 0, none⟩ 1 1 [.int .u64 (z : Int)] rfl rfl (World.news_of_block (cs := #[.int .u64 (z : Int)]) (t := 22) (fr := (0, 0)) (heap_alloc_new wr _)) (by simp [Value.oneCell']) (by unfold maxLen; omega) (by omega) (by rw [World.size_alloc]; omega) ?_)
        | go_in)
      intro v' w3 hown' hgrow hnil
      have hb3 : Below w.heap.size w w3 := (hbl.alloc (by omega) _).grown hgrow (by rw [World.size_alloc]; omega) (fun q hq => (hown.lt q hq).1)
      rw [← dV_put] at hown'
      obtain ⟨ao', c', b', rfl, S3, hnw⟩ := Big.D.own_sl hown' hw
      have T := Big.D.trim_any S3
      have NV := S3.trimmedN hnw
      clear hnw
      rw [HE.out] at NV
      clear hown' hgrow hnil hown hbl
      go_wp2_with fail
      refine T.mono ?_
      rintro e wa ⟨rfl, rfl⟩
      go_wp2
      go_ret
      exact ⟨_, rfl, NV, hb3⟩
theorem dshl_new {w : World} {va : Value} {X : Nat} (ha : Big.D.NatV w va X) (hX : Fits 1000 X) (s : Nat) (hs : s ≤ 32000) :
    Calls Tryd.prog 31 #[va, .int .i64 (s : Int)] w fun e w' => ∃ v, e = .returned v ∧ Big.D.NewV w' w.heap.size v (X * 2 ^ s) ∧ Below w.heap.size w w' := by
  obtain ⟨ao, n, c, b, o, f, rfl, S, t, rfl⟩ := ha
  exact dshl_big S (big_len t hX) s (s / 32) (s % 32) (by omega) (by omega) (by omega)

theorem bit_zero_lt {X j : Nat} (h : X < 2 ^ (j + 1)) (hb : X / 2 ^ j % 2 = 0) : X < 2 ^ j := by
  have p := Nat.two_pow_pos j
  have q : X / 2 ^ j < 2 := by rw [Nat.div_lt_iff_lt_mul p, Nat.mul_comm, ← Nat.pow_succ]; exact h
  have z : X / 2 ^ j = 0 := by generalize X / 2 ^ j = y at q hb ⊢; omega
  rcases Nat.lt_or_ge X (2 ^ j) with c | c
  · exact c
  · have a := Nat.div_le_div_right (c := 2 ^ j) c
    rw [Nat.div_self p] at a
    omega
theorem bit_one_le {X j : Nat} (hb : X / 2 ^ j % 2 ≠ 0) : 2 ^ j ≤ X := by
  rcases Nat.lt_or_ge X (2 ^ j) with c | c
  · rw [Nat.div_eq_of_lt c] at hb; omega
  · exact c

set_option maxRecDepth 100000 in
set_option maxHeartbeats 1000000 in
theorem dbits_big {w : World} {ao : Option Addr} {n c b o : Nat} {f : Nat → Nat} (S : Big.D.Sl w ao n c b o f) (hn : n ≤ 10000) :
    Calls Tryd.prog 46 #[.slice ao n c] w fun e w' => e = .returned (.int .i64 (bl (Big.V f n) : Int)) ∧ w' = w := by
  have HS : Hid (Big.D.Sl w ao n c b o f) := S
  have hlt : Big.V f n < 2 ^ (32 * n) := by rw [← D_pow]; exact Big.V_lt S.ws n
  have HL : Hid (Big.V f n < 2 ^ (32 * n)) := hlt
  clear S hlt
  go_enter Tryd.func46, Tryd.ntmps46
  go_wp2
  go_loop [3] (fun m => ∃ j : Nat, m = .int .i64 (j : Int) ∧ j ≤ 32 * n ∧ Hid (Big.V f n < 2 ^ j)) (fun m => (intOf m).toNat)
  case atStart => exact ⟨32 * n, by go_num, Nat.le_refl _, HL⟩
  case round =>
    obtain ⟨j, rfl, hj, HJ⟩ := hrel
    by_cases c1 : 0 < j
    · obtain ⟨q, p, hqp, hp⟩ : ∃ q p, j - 1 = 32 * q + p ∧ p < 32 := ⟨(j - 1) / 32, (j - 1) % 32, by omega, by omega⟩
      have hq : q < n := by omega
      obtain rfl := HS.out.addr (by omega)
      have hc := HS.out.cell q hq
      have hb := HS.out.ws q
      have e := bit_at HS.out.ws hq hp
      rw [← hqp] at e
      have d1 : ((j : Int) - 1) / 32 = (q : Int) := by omega
      have d2 : ((j : Int) - 1) % 32 = (p : Int) := by omega
      have d3 : ((j : Int) - 1).tdiv 32 = (q : Int) := by rw [Int.tdiv_eq_ediv_of_nonneg (by omega)]; exact d1
      have d4 : ((j : Int) - 1).tmod 32 = (p : Int) := by rw [Int.tmod_eq_emod_of_nonneg (by omega)]; exact d2
      have sh : ((f q : Nat) : Int) / 2 ^ p = ((f q / 2 ^ p : Nat) : Int) := by rw [Int.natCast_ediv]; simp
      have hy : f q / 2 ^ p < 4294967296 := by
        have := Nat.div_le_self (f q) (2 ^ p)
        unfold Big.B at hb
        omega
      generalize hY : f q / 2 ^ p = y at *
      have an := and_one64 y (by omega)
      have HE : Hid (Big.V f n / 2 ^ (j - 1) % 2 = y % 2) := e
      clear e hY hqp hb
      by_cases c2 : y % 2 = 0
      · rw [c2] at an
        have HN : Hid (Big.V f n < 2 ^ (j - 1)) := by
          have a := HJ.out
          rw [show j = j - 1 + 1 by omega] at a
          exact bit_zero_lt a (by rw [HE.out]; exact c2)
        clear c2
        go_wp2
        go_round
        case rel => exact ⟨j - 1, by go_num, by omega, HN⟩
        case measure => simp [intOf]; omega
      · have c3 : y % 2 = 1 := by omega
        rw [c3] at an
        have HR : Hid (bl (Big.V f n) = j) := by
          have a := HJ.out
          rw [show j = j - 1 + 1 by omega] at a
          have r := bl_of (bit_one_le (by rw [HE.out]; exact c2)) a
          show _ = _
          omega
        clear c2 c3
        go_wp2
        go_ret
        exact ⟨by rw [HR.out]; rfl, rfl⟩
    · obtain rfl : j = 0 := by omega
      have HR : Hid (bl (Big.V f n) = 0) := by
        have a := HJ.out
        rw [Nat.pow_zero] at a
        show _ = _
        rw [show Big.V f n = 0 by omega]; rfl
      clear c1
      cases ao with
      | none =>
        go_wp2
        go_ret
        exact ⟨by rw [HR.out]; rfl, rfl⟩
      | some a =>
        go_wp2
        go_ret
        exact ⟨by rw [HR.out]; rfl, rfl⟩
theorem dbits_nat {w : World} {va : Value} {X : Nat} (ha : Big.D.NatV w va X) (hX : Fits 1000 X) :
    Calls Tryd.prog 46 #[va] w fun e w' => e = .returned (.int .i64 (bl X : Int)) ∧ w' = w := by
  obtain ⟨ao, n, c, b, o, f, rfl, S, t, rfl⟩ := ha
  have := big_len t hX
  exact dbits_big S (by omega)

set_option maxRecDepth 100000 in
set_option maxHeartbeats 1000000 in
theorem dbit_nat {w : World} {va : Value} {X : Nat} (ha : Big.D.NatV w va X) (hX : Fits 1000 X) (i : Nat) (hi : i < bl X) :
    Calls Tryd.prog 68 #[va, .int .i64 (i : Int)] w fun e w' => e = .returned (.int .u64 ((X / 2 ^ i % 2 : Nat) : Int)) ∧ w' = w := by
  obtain ⟨ao, n, c, b, o, f, rfl, S, t, rfl⟩ := ha
  have hn := big_len t hX
  have hb1 : bl (Big.V f n) ≤ 32 * n := bl_mono_le (by rw [← D_pow]; exact Big.V_lt S.ws n)
  obtain ⟨q, p, hqp, hp⟩ : ∃ q p, i = 32 * q + p ∧ p < 32 := ⟨i / 32, i % 32, by omega, by omega⟩
  have hq : q < n := by omega
  obtain rfl := S.addr (by omega)
  have hc := S.cell q hq
  have hb := S.ws q
  have e := bit_at S.ws hq hp
  rw [← hqp] at e
  have d1 : (i : Int) / 32 = (q : Int) := by omega
  have d2 : (i : Int) % 32 = (p : Int) := by omega
  have d3 : (i : Int).tdiv 32 = (q : Int) := by rw [Int.tdiv_eq_ediv_of_nonneg (by omega)]; exact d1
  have d4 : (i : Int).tmod 32 = (p : Int) := by rw [Int.tmod_eq_emod_of_nonneg (by omega)]; exact d2
  have sh : ((f q : Nat) : Int) / 2 ^ p = ((f q / 2 ^ p : Nat) : Int) := by rw [Int.natCast_ediv]; simp
  have hy : f q / 2 ^ p < 4294967296 := by
    have := Nat.div_le_self (f q) (2 ^ p)
    unfold Big.B at hb
    omega
  have hi2 : i < 32000 := by omega
  rw [e]
  generalize hY : f q / 2 ^ p = y at *
  have an := and_one64 y (by omega)
  clear e S t hX hY hqp hb hi hb1
  generalize y % 2 = u at *
  go_enter Tryd.func68, Tryd.ntmps68
  go_wp2
  go_ret
  exact ⟨rfl, rfl⟩

end Go.Proofs.YtohbggdkopmpfaaDoor
