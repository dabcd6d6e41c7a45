/-
  Numbers of many words: what the program's calls and the document's answer.
-/
import Derived.Test.YtealnajogkeckaaDoorRn3
namespace Go.Proofs.YtealnajogkeckaaDoor
open Go.RowKit

theorem half_step {t j : Nat} : t / 2 ^ j / 2 = t / 2 ^ (j + 1) := by rw [Nat.div_div_eq_div_mul, Nat.pow_succ]
set_option maxRecDepth 100000 in
set_option maxHeartbeats 1000000 in
theorem length_big {w : World} {ao : Option Addr} {n c b o : Nat} {f : Nat → Nat} (S : Big.Sl w ao n c b o f) (t : Big.Top f n) (hn : n ≤ 10000) :
    Calls Tryd.prog 85 #[.slice ao n c] w fun e w' => e = .returned (.int .i64 (bl (Big.V f n) : Int)) ∧ w' = w := by
  by_cases h0 : n = 0
  · subst h0
    have e : bl (Big.V f 0) = 0 := rfl
    rw [e]
    clear e
    go_enter Tryd.func85, Tryd.ntmps85
    go_wp2
    go_ret
    exact ⟨rfl, rfl⟩
  · obtain ⟨k, rfl⟩ : ∃ k, n = k + 1 := ⟨n - 1, by omega⟩
    have ht : f k ≠ 0 := by
      have := t.resolve_left h0
      rwa [Nat.add_sub_cancel] at this
    obtain rfl := S.addr (by omega)
    have hc := S.cell k (by omega)
    have hz : (((k + 1 : Nat) : Int) == 0) = false := beq_eq_false_iff_ne.mpr (by omega)
    have hb := S.ws k
    have HW : Hid (Big.Ws f) := S.ws
    generalize hf : f k = x at *
    have HF : Hid (f k = x) := hf
    unfold Big.B at hb
    have ix : ((k + 1 : Nat) : Int) - 1 = (k : Int) := by omega
    clear t hf S
    simp only [Int.natCast_add, Int.natCast_one] at hz
    go_enter Tryd.func85, Tryd.ntmps85
    go_wp2
    go_loop [3, 4] (fun m y => ∃ j z : Nat, m = .int .i64 ((32 * k + j : Nat) : Int) ∧ y = .int .u32 (z : Int) ∧ Hid (z = x / 2 ^ j) ∧ j ≤ 32 ∧ z < 4294967296 ∧ (j = 0 ∨ 2 ^ (j - 1) ≤ x)) (fun _ y => (intOf y).toNat)
    case atStart => exact ⟨0, x, by go_num, rfl, by show x = x / 2 ^ 0; rw [Nat.pow_zero, Nat.div_one], by omega, hb, Or.inl rfl⟩
    case round =>
      obtain ⟨j, z, rfl, rfl, HZ, hj, hzb, hlow⟩ := hrel
      have HL : Hid (j = 0 ∨ 2 ^ (j - 1) ≤ x) := hlow
      clear hlow
      by_cases c1 : 0 < z
      · have hle : 2 ^ j ≤ x := by
          rcases Nat.lt_or_ge x (2 ^ j) with q | q
          · have := HZ.out; rw [Nat.div_eq_of_lt q] at this; omega
          · exact q
        have hj32 : j < 32 := by
          rcases Nat.lt_or_ge j 32 with q | q
          · exact q
          · have : 2 ^ 32 ≤ 2 ^ j := Nat.pow_le_pow_right (by omega) q
            omega
        have HH : Hid (2 ^ j ≤ x ∧ z / 2 = x / 2 ^ (j + 1)) := ⟨hle, by rw [HZ.out]; exact half_step⟩
        clear hle
        go_wp2
        go_round
        case rel => exact ⟨j + 1, z / 2, by go_num, by go_num, HH.out.2, by omega, by omega, Or.inr HH.out.1⟩
        case measure => simp [intOf]; omega
      · obtain rfl : z = 0 := by omega
        have HR : Hid (bl (Big.V f (k + 1)) = 32 * k + j) := by
          show _ = _
          have hx2 : x < 2 ^ j := by
            rcases Nat.lt_or_ge x (2 ^ j) with q | q
            · exact q
            · have a := Nat.div_le_div_right (c := 2 ^ j) q
              rw [Nat.div_self (Nat.pow_pos (by omega)), ← HZ.out] at a
              omega
          rcases HL.out with q | q
          · subst q; rw [Nat.pow_zero] at hx2; omega
          · obtain ⟨i, rfl⟩ : ∃ i, j = i + 1 := by
              rcases j with _ | i
              · rw [Nat.pow_zero] at hx2; omega
              · exact ⟨i, rfl⟩
            rw [Nat.add_sub_cancel] at q
            exact bl_top HW.out (by rw [HF.out]; exact q) (by rw [HF.out]; exact hx2)
        clear HZ
        go_wp2
        go_ret
        exact ⟨by rw [HR.out]; rfl, rfl⟩
theorem length_nat {w : World} {va : Value} {X : Nat} (ha : Big.NatV w va X) (hX : Fits 1000 X) :
    Calls Tryd.prog 85 #[va] w fun e w' => e = .returned (.int .i64 (bl X : Int)) ∧ w' = w := by
  obtain ⟨ao, n, c, b, o, f, rfl, S, t, rfl⟩ := ha
  have := big_len t hX
  exact length_big S t (by omega)
theorem bits32_or (a b : Nat) (ha : a < 4294967296) (hb : b < 4294967296) : bits .or .u32 (a : Int) (b : Int) = ((a ||| b : Nat) : Int) := by
  have h1 : (BitVec.ofInt 32 (a : Int)).toNat = a := by
    rw [BitVec.ofInt_natCast, BitVec.toNat_ofNat]; exact Nat.mod_eq_of_lt (by omega)
  have h2 : (BitVec.ofInt 32 (b : Int)).toNat = b := by
    rw [BitVec.ofInt_natCast, BitVec.toNat_ofNat]; exact Nat.mod_eq_of_lt (by omega)
  show IntKind.u32.wrap ((BitVec.ofInt 32 (a : Int) ||| BitVec.ofInt 32 (b : Int)).toNat : Int) = _
  rw [BitVec.toNat_or, h1, h2, IntKind.wrap_u32]
  have := Nat.or_lt_two_pow (n := 32) (x := a) (y := b) (by omega) (by omega)
  omega
theorem and_one32 (a : Nat) (ha : a < 4294967296) : bits .and .u32 (a : Int) 1 = ((a % 2 : Nat) : Int) := by
  have h1 : (BitVec.ofInt 32 (a : Int)).toNat = a := by
    rw [BitVec.ofInt_natCast, BitVec.toNat_ofNat]; exact Nat.mod_eq_of_lt (by omega)
  show IntKind.u32.wrap ((BitVec.ofInt 32 (a : Int) &&& BitVec.ofInt 32 (1 : Int)).toNat : Int) = _
  rw [BitVec.toNat_and, h1, show (BitVec.ofInt 32 (1 : Int)).toNat = 1 by decide, Nat.and_one_is_mod, IntKind.wrap_u32]
  omega
set_option maxRecDepth 100000 in
set_option maxHeartbeats 1000000 in
theorem bit_any {w : World} {va : Value} {X : Nat} (ha : Big.NatV w va X) (hX : Fits 1000 X) (i : Nat) (hi : i < 9223372036854775808) :
    Calls Tryd.prog 89 #[va, .int .i64 (i : Int)] w fun e w' => e = .returned (.bool (tb X i)) ∧ w' = w := by
  obtain ⟨ao, n, c, b, o, f, rfl, S, t, rfl⟩ := ha
  have hn := big_len t hX
  by_cases c1 : i < 32 * n
  · obtain ⟨q, p, hqp, hp⟩ : ∃ q p, i = 32 * q + p ∧ p < 32 := ⟨i / 32, i % 32, by omega, by omega⟩
    have hq : q < n := by omega
    obtain rfl := S.addr (by omega)
    have hc := S.cell q hq
    have hb := S.ws q
    have e := bit_at S.ws hq hp
    rw [← hqp] at e
    have d1 : (i : Int) / 32 = (q : Int) := by omega
    have d2 : (i : Int) % 32 = (p : Int) := by omega
    have d3 : (i : Int).tdiv 32 = (q : Int) := by rw [Int.tdiv_eq_ediv_of_nonneg (by omega)]; exact d1
    have d4 : (i : Int).tmod 32 = (p : Int) := by rw [Int.tmod_eq_emod_of_nonneg (by omega)]; exact d2
    have sh : ((f q : Nat) : Int) / 2 ^ p = ((f q / 2 ^ p : Nat) : Int) := by rw [Int.natCast_ediv]; simp
    have hy : f q / 2 ^ p < 4294967296 := by
      have := Nat.div_le_self (f q) (2 ^ p)
      unfold Big.B at hb
      omega
    generalize hY : f q / 2 ^ p = y at *
    have an := and_one32 y hy
    have HE : Hid (Big.V f n / 2 ^ i % 2 = y % 2) := e
    have hc1 : (i : Int) < 32 * (n : Int) := by omega
    clear e S t hX hY hqp
    by_cases c2 : y % 2 = 1
    · rw [c2] at an
      rw [tb_one (by rw [HE.out]; exact c2)]
      clear c2
      go_enter Tryd.func89, Tryd.ntmps89
      go_wp2
      go_ret
      exact ⟨rfl, rfl⟩
    · have c3 : y % 2 = 0 := by omega
      rw [c3] at an
      rw [tb_none (by rw [HE.out]; exact c2)]
      clear c2 c3
      go_enter Tryd.func89, Tryd.ntmps89
      go_wp2
      go_ret
      exact ⟨rfl, rfl⟩
  · have hV := Big.V_lt S.ws n
    rw [D_pow] at hV
    have hV2 : Big.V f n < 2 ^ i := Nat.lt_of_lt_of_le hV (Nat.pow_le_pow_right (by omega) (by omega))
    rw [tb_big hV2]
    have hc1 : ¬ (i : Int) < 32 * (n : Int) := by omega
    clear hV hV2 S t hX
    go_enter Tryd.func89, Tryd.ntmps89
    go_wp2
    go_ret
    exact ⟨rfl, rfl⟩
theorem two_fits {s k : Nat} (h : s < 32 * k) : Fits k (2 ^ s) := by
  refine ⟨k, Nat.le_refl _, ?_⟩
  rw [D_pow]
  exact Nat.pow_lt_pow_right (by omega) h
theorem made_dV (q : Nat) : (madeCells #[.int .u32 0] q).toList = dV .u32 (fun _ => 0) q := by
  apply List.ext_getElem?
  intro i
  by_cases h : i < q
  · rw [dV_get h]; simp [madeCells, h, Nat.mod_one]
  · simp [madeCells, dV, h]
theorem up_or {x z p : Nat} (hx : x < Big.B) (hp : p < 32) (hz : z < 2 ^ p) : bits .or .u64 (z : Int) (IntKind.u64.wrap ((x : Int) * 2 ^ p)) = ((x * 2 ^ p + z : Nat) : Int) ∧ x * 2 ^ p + z < B := by
  have e := up_lo (x := x) (z := z) (p := p) (by omega) hz
  have h1 : x * 2 ^ p + z < B := by
    have a : (x + 1) * 2 ^ p ≤ Big.B * 2 ^ p := Nat.mul_le_mul_right _ hx
    have b : Big.B * 2 ^ p ≤ Big.B * Big.B := Nat.mul_le_mul_left _ (by rw [D_two]; exact Nat.pow_le_pow_right (by omega) (by omega))
    rw [← BB] at b
    rw [Nat.add_mul, Nat.one_mul] at a
    omega
  rw [Nat.mod_eq_of_lt (by omega)] at e
  exact ⟨e, h1⟩
theorem upB_gen {v z P a x t s d r q : Nat} (hv : v + z * P = a * s) (e : d * q + r = x * t + z) : v + r * P + q * (P * d) = a * s + x * (t * P) := by
  have h : r * P + q * (P * d) = (d * q + r) * P := by grind
  rw [e] at h
  grind
set_option maxRecDepth 100000 in
set_option maxHeartbeats 2000000 in
theorem up_big {w : World} {ao : Option Addr} {n c b o : Nat} {f : Nat → Nat} (S : Big.Sl w ao n c b o f) (h0 : 0 < n) (hn : n ≤ 1000) (s q p : Nat) (hsq : s = 32 * q + p) (hp : p < 32) (hq : q ≤ 1000) :
    Calls Tryd.prog 73 #[.slice ao n c, .int .i64 (s : Int)] w fun e w' => ∃ v, e = .returned v ∧ Big.NewV w' w.heap.size v (Big.V f n * 2 ^ s) ∧ Below w.heap.size w w' := by
  obtain ⟨i0, hi, hz0, hz1, hz2⟩ := info_parts Big.info_u32
  have hmk := run_make_row' (P := Tryd.prog) 74 114 (.int .u32 0) 4 Big.und_big Big.info_u32 rfl .i64 .i64 q (by omega) (by omega)
  have HS : Hid (Big.Sl w ao n c b o f) := S
  obtain rfl := S.addr h0
  have hz : ((n : Int) == 0) = false := beq_eq_false_iff_ne.mpr (by omega)
  have d1 : (s : Int) / 32 = (q : Int) := by omega
  have d2 : (s : Int) % 32 = (p : Int) := by omega
  have d3 : (s : Int).tdiv 32 = (q : Int) := by rw [Int.tdiv_eq_ediv_of_nonneg (by omega)]; exact d1
  have d4 : (s : Int).tmod 32 = (p : Int) := by rw [Int.tmod_eq_emod_of_nonneg (by omega)]; exact d2
  have hs : s ≤ 33000 := by omega
  have HQ : Hid (s = 32 * q + p) := hsq
  clear S hsq
  go_enter Tryd.func73, Tryd.ntmps73
  go_wp2
  go_loopw [5, 6, 7] (fun v cy i wr => ∃ (k z : Nat) (F : Nat → Nat), cy = .int .u64 (z : Int) ∧ i = .int .i64 (k : Int) ∧ k ≤ n ∧ Hid (z < 2 ^ p) ∧ z < 4294967296 ∧ Big.Ws F ∧ wr.ownsRow w.heap.size 114 1 v (q + k) (dV .u32 F (q + k)) ∧ Below w.heap.size w wr ∧ Hid (Big.V F (q + k) + z * Big.B ^ (q + k) = Big.V f k * 2 ^ s)) (fun _ _ i _ => n - (intOf i).toNat)
  case atStart =>
    refine ⟨0, 0, fun _ => 0, rfl, rfl, Nat.zero_le _, (Nat.pow_pos (by omega) : 0 < 2 ^ p), by omega, fun _ => Big.B_pos, ?_, (Below.refl _ _).alloc (Nat.le_refl _) _, ?_⟩
    · have q1 := World.ownsRow_lit (base := w.heap.size) (e := 114) (size := 1) w (madeCells #[.int .u32 0] q) q (Nat.le_refl _) (by unfold maxLen; omega) (by simp [madeCells])
      rw [made_dV] at q1
      exact q1
    · show Big.V (fun _ => 0) (q + 0) + 0 * _ = Big.V f 0 * _
      rw [Big.V_nought, Big.V_zero]; omega
  case round =>
    obtain ⟨k, z, F, rfl, rfl, hk, HZ, hz2', hF, hown, hbl, HV⟩ := hrel
    have hsz := hbl.size
    by_cases c1 : k < n
    · have hc := (HS.out.below hbl).cell k c1
      have hxB := HS.out.ws k
      obtain ⟨o1, o2⟩ := up_or hxB hp HZ.out
      unfold Big.B at hxB
      have dm := Nat.div_add_mod (f k * 2 ^ p + z) Big.B
      have HST : Hid (Big.V F (q + k) + (f k * 2 ^ p + z) % Big.B * Big.B ^ (q + k) + (f k * 2 ^ p + z) / Big.B * (Big.B ^ (q + k) * Big.B) = Big.V f (k + 1) * 2 ^ s) := by
        show _ = _
        have g := upB_gen (P := Big.B ^ (q + k)) HV.out dm
        rw [g, Big.V_succ, Nat.add_mul, HQ.out, D_pow, D_pow]
        congr 1
        rw [Nat.mul_assoc (f k), ← Nat.pow_add, ← Nat.pow_add]
        congr 2
        omega
      have hqz : Hid ((f k * 2 ^ p + z) / Big.B < 2 ^ p) := by
        show _ < _
        rw [Nat.div_lt_iff_lt_mul Big.B_pos]
        have a : (f k + 1) * 2 ^ p ≤ Big.B * 2 ^ p := Nat.mul_le_mul_right _ (HS.out.ws k)
        rw [Nat.add_mul, Nat.one_mul] at a
        have := HZ.out
        rw [Nat.mul_comm (2 ^ p) Big.B]
        omega
      have hq4 : (f k * 2 ^ p + z) / Big.B < 4294967296 := half_lt o2
      have hr : (f k * 2 ^ p + z) % Big.B < Big.B := Nat.mod_lt _ Big.B_pos
      have e1 := lo32 (f k * 2 ^ p + z)
      have e2 : ((f k * 2 ^ p + z : Nat) : Int) / 4294967296 = (((f k * 2 ^ p + z) / Big.B : Nat) : Int) := by unfold Big.B; omega
      generalize (f k * 2 ^ p + z) % Big.B = r at *
      generalize (f k * 2 ^ p + z) / Big.B = q2 at *
      generalize f k * 2 ^ p + z = y at *
      clear dm
      unfold B at o2
      go_wp2_with (first
        | (at_builtin; refine wpList_append_own _ rfl _ _ 74 rfl w.heap.size 114 i0 (.int .u32 0) 1 4 Big.und_big hi hz0 hz1 hz2 rfl (by decide) _ _ _ rfl (hown.alloc _) ⟨wr.heap.size, 0, none⟩ 1 1 [.int .u32 (r : Int)] rfl rfl (World.news_of_block (cs := #[.int .u32 (r : Int)]) (t := 114) (fr := (0, 0)) (heap_alloc_new wr _)) (by simp [Value.oneCell']) (by unfold maxLen; omega) (by omega) (by rw [World.size_alloc]; omega) ?_)
        | go_in)
      intro v' w3 hown' hgrow hnil
      have hb3 : Below w.heap.size w w3 := (hbl.alloc (by omega) _).grown hgrow (by rw [World.size_alloc]; omega) (fun q hq => (hown.lt q hq).1)
      have HO3 : Hid (w3.ownsRow w.heap.size 114 1 v' (q + (k + 1)) (dV .u32 (Big.put F (q + k) r) (q + (k + 1))) ∧ Below w.heap.size w w3) := ⟨by rw [← Nat.add_assoc, dV_put]; exact hown', hb3⟩
      clear hown' hb3 hgrow hnil hown hbl
      go_wp2
      go_roundw
      case rel =>
        refine ⟨k + 1, q2, Big.put F (q + k) r, rfl, by go_num, by omega, hqz, hq4, Big.put_Ws hF hr, HO3.out.1, HO3.out.2, ?_⟩
        show _ = _
        rw [← Nat.add_assoc, V_putB, Nat.pow_succ]
        exact HST.out
      case measure => simp [intOf]; omega
    · obtain rfl : k = n := by omega
      have e1 : IntKind.u32.wrap (z : Int) = (z : Int) := by rw [IntKind.wrap_u32]; omega
      have HE : Hid (Big.V (Big.put F (q + k) z) (q + k + 1) = Big.V f k * 2 ^ s) := by
        show _ = _
        rw [V_putB, HV.out]
      have hw : Big.Ws (Big.put F (q + k) z) := Big.put_Ws hF (by unfold Big.B; omega)
      go_wp2_with (first
        | (at_builtin; refine wpList_append_own _ rfl _ _ 74 rfl w.heap.size 114 i0 (.int .u32 0) 1 4 Big.und_big hi hz0 hz1 hz2 rfl (by decide) _ _ _ rfl (hown.alloc _) ⟨wr.heap.size, 0, none⟩ 1 1 [.int .u32 (z : Int)] rfl rfl (World.news_of_block (cs := #[.int .u32 (z : Int)]) (t := 114) (fr := (0, 0)) (heap_alloc_new wr _)) (by simp [Value.oneCell']) (by unfold maxLen; omega) (by omega) (by rw [World.size_alloc]; omega) ?_)
        | go_in)
      intro v' w3 hown' hgrow hnil
      have hb3 : Below w.heap.size w w3 := (hbl.alloc (by omega) _).grown hgrow (by rw [World.size_alloc]; omega) (fun q hq => (hown.lt q hq).1)
      rw [← dV_put] at hown'
      obtain ⟨ao', c', b', rfl, S3, hnw⟩ := Big.own_sl hown' hw
      have T := Big.trim_any S3
      have NV := S3.trimmedN hnw
      clear hnw
      rw [HE.out] at NV
      clear hown' hgrow hnil hown hbl
      go_wp2_with fail
      refine T.mono ?_
      rintro e wa ⟨rfl, rfl⟩
      go_wp2
      go_ret
      exact ⟨_, rfl, NV, hb3⟩
theorem up_new {w : World} {va : Value} {X : Nat} (ha : Big.NatV w va X) (hX : Fits 1000 X) (s : Nat) (hs : s ≤ 32000) :
    Calls Tryd.prog 73 #[va, .int .i64 (s : Int)] w fun e w' => ∃ v, e = .returned v ∧ Big.NewV w' w.heap.size v (X * 2 ^ s) ∧ Below w.heap.size w w' := by
  obtain ⟨ao, n, c, b, o, f, rfl, S, t, rfl⟩ := ha
  have hn := big_len t hX
  by_cases h0 : n = 0
  · subst h0
    rw [show Big.V f 0 * 2 ^ s = 0 by rw [Big.V_zero, Nat.zero_mul]]
    clear S t hX
    go_enter Tryd.func73, Tryd.ntmps73
    go_wp2
    go_ret
    exact ⟨_, rfl, Big.newv_nil _ _, Below.refl _ _⟩
  · exact up_big S (by omega) hn s (s / 32) (s % 32) (by omega) (by omega) (by omega)
theorem up_any {w : World} {va : Value} {X : Nat} (ha : Big.NatV w va X) (hX : Fits 1000 X) (s : Nat) (hs : s ≤ 32000) :
    Calls Tryd.prog 73 #[va, .int .i64 (s : Int)] w fun e w' => ∃ v, e = .returned v ∧ Big.NatV w' v (X * 2 ^ s) ∧ Below w.heap.size w w' :=
  (up_new ha hX s hs).mono fun _ _ ⟨v, e, n, b⟩ => ⟨v, e, n.nat, b⟩
set_option maxRecDepth 100000 in
set_option maxHeartbeats 2000000 in
theorem down_big {w : World} {ao : Option Addr} {n c b o : Nat} {f : Nat → Nat} (S : Big.Sl w ao n c b o f) (hn : n ≤ 1000) (s q p : Nat) (hsq : s = 32 * q + p) (hp : p < 32) (hq : q < n) :
    Calls Tryd.prog 109 #[.slice ao n c, .int .i64 (s : Int)] w fun e w' => ∃ v, e = .returned v ∧ Big.NewV w' w.heap.size v (Big.V f n / 2 ^ s) ∧ Below w.heap.size w w' := by
  obtain ⟨i0, hi, hz0, hz1, hz2⟩ := info_parts Big.info_u32
  have HS : Hid (Big.Sl w ao n c b o f) := S
  obtain rfl := S.addr (by omega)
  have d1 : (s : Int) / 32 = (q : Int) := by omega
  have d2 : (s : Int) % 32 = (p : Int) := by omega
  have d3 : (s : Int).tdiv 32 = (q : Int) := by rw [Int.tdiv_eq_ediv_of_nonneg (by omega)]; exact d1
  have d4 : (s : Int).tmod 32 = (p : Int) := by rw [Int.tmod_eq_emod_of_nonneg (by omega)]; exact d2
  have hs : s ≤ 33000 := by omega
  have hlt : ¬ 32 * (n : Int) ≤ (s : Int) := by omega
  have HQ : Hid (s = 32 * q + p) := hsq
  obtain ⟨Y, hY⟩ : ∃ Y, Y = Big.V f n / 2 ^ s := ⟨_, rfl⟩
  have HY : Hid (Y = Big.V f n / 2 ^ s) := hY
  rw [← hY]
  clear S hsq hY
  go_enter Tryd.func109, Tryd.ntmps109
  go_wp2
  go_loopw [5, 6] (fun v i wr => ∃ k : Nat, i = .int .i64 ((q + k : Nat) : Int) ∧ q + k ≤ n ∧ wr.ownsRow w.heap.size 114 1 v k (dV .u32 (dg Y) k) ∧ Below w.heap.size w wr) (fun _ i _ => n - (intOf i).toNat)
  case atStart => exact ⟨0, by go_num, by omega, World.ownsRow_nil _ _ _ _, Below.refl _ _⟩
  case round =>
    obtain ⟨k, rfl, hk, hown, hbl⟩ := hrel
    have hsz := hbl.size
    by_cases c1 : q + k < n
    · have hc := (HS.out.below hbl).cell (q + k) c1
      have hf1 := HS.out.ws (q + k)
      have hf2 := HS.out.ws (q + k + 1)
      have hd := down_at HS.out.ws c1 hp
      rw [← HQ.out, ← HY.out] at hd
      by_cases c2 : q + k + 1 < n
      · have hc' := (HS.out.below hbl).cell (q + k + 1) c2
        rw [cut_in c2] at hd
        have hor := pair_or hf1 hf2
        have hpl := pair_lt hf1 hf2
        have sh : ((f (q + k) + f (q + k + 1) * Big.B : Nat) : Int) / 2 ^ p = (((f (q + k) + f (q + k + 1) * Big.B) / 2 ^ p : Nat) : Int) := by rw [Int.natCast_ediv]; simp
        have e1 := lo32 ((f (q + k) + f (q + k + 1) * Big.B) / 2 ^ p)
        unfold Big.B at hf1 hf2
        unfold B at hpl
        have HD := (show Hid _ from hd)
        clear hd
        generalize (f (q + k) + f (q + k + 1) * Big.B) / 2 ^ p % Big.B = r at *
        generalize (f (q + k) + f (q + k + 1) * Big.B) / 2 ^ p = y2 at *
        generalize f (q + k) + f (q + k + 1) * Big.B = y at *
        generalize hj : q + k = j at *
        go_wp2_with (first
          | (at_builtin; refine wpList_append_own _ rfl _ _ 74 rfl w.heap.size 114 i0 (.int .u32 0) 1 4 Big.und_big hi hz0 hz1 hz2 rfl (by decide) _ _ _ rfl (hown.alloc _) ⟨wr.heap.size, 0, none⟩ 1 1 [.int .u32 (r : Int)] rfl rfl (World.news_of_block (cs := #[.int .u32 (r : Int)]) (t := 114) (fr := (0, 0)) (heap_alloc_new wr _)) (by simp [Value.oneCell']) (by unfold maxLen; omega) (by omega) (by rw [World.size_alloc]; omega) ?_)
          | go_in)
        intro v' w3 hown' hgrow hnil
        have hb3 : Below w.heap.size w w3 := (hbl.alloc (by omega) _).grown hgrow (by rw [World.size_alloc]; omega) (fun q hq => (hown.lt q hq).1)
        have HO3 : Hid (w3.ownsRow w.heap.size 114 1 v' (k + 1) (dV .u32 (dg Y) (k + 1)) ∧ Below w.heap.size w w3) := ⟨by rw [dV_succ, HD.out]; exact hown', hb3⟩
        clear hown' hb3 hgrow hnil hown hbl
        go_wp2
        go_roundw
        case rel => exact ⟨k + 1, by go_num, by omega, HO3.out.1, HO3.out.2⟩
        case measure => simp [intOf]; omega
      · rw [cut_out c2, Nat.zero_mul, Nat.add_zero] at hd
        have sh : ((f (q + k) : Nat) : Int) / 2 ^ p = ((f (q + k) / 2 ^ p : Nat) : Int) := by rw [Int.natCast_ediv]; simp
        have e1 := lo32 (f (q + k) / 2 ^ p)
        unfold Big.B at hf1 hf2
        have HD := (show Hid _ from hd)
        clear hd
        generalize f (q + k) / 2 ^ p % Big.B = r at *
        generalize f (q + k) / 2 ^ p = y2 at *
        generalize f (q + k) = y at *
        generalize hj : q + k = j at *
        go_wp2_with (first
          | (at_builtin; refine wpList_append_own _ rfl _ _ 74 rfl w.heap.size 114 i0 (.int .u32 0) 1 4 Big.und_big hi hz0 hz1 hz2 rfl (by decide) _ _ _ rfl (hown.alloc _) ⟨wr.heap.size, 0, none⟩ 1 1 [.int .u32 (r : Int)] rfl rfl (World.news_of_block (cs := #[.int .u32 (r : Int)]) (t := 114) (fr := (0, 0)) (heap_alloc_new wr _)) (by simp [Value.oneCell']) (by unfold maxLen; omega) (by omega) (by rw [World.size_alloc]; omega) ?_)
          | go_in)
        intro v' w3 hown' hgrow hnil
        have hb3 : Below w.heap.size w w3 := (hbl.alloc (by omega) _).grown hgrow (by rw [World.size_alloc]; omega) (fun q hq => (hown.lt q hq).1)
        have HO3 : Hid (w3.ownsRow w.heap.size 114 1 v' (k + 1) (dV .u32 (dg Y) (k + 1)) ∧ Below w.heap.size w w3) := ⟨by rw [dV_succ, HD.out]; exact hown', hb3⟩
        clear hown' hb3 hgrow hnil hown hbl
        go_wp2
        go_roundw
        case rel => exact ⟨k + 1, by go_num, by omega, HO3.out.1, HO3.out.2⟩
        case measure => simp [intOf]; omega
    · have hkn : k = n - q := by omega
      obtain ⟨ao', c', b', rfl, S3, hnw⟩ := Big.own_sl hown (dg_Ws Y)
      have T := Big.trim_any S3
      have NV := S3.trimmedN hnw
      clear hnw
      have hfit := down_fits (p := p) HS.out.ws hq
      rw [← HQ.out, ← HY.out, ← hkn] at hfit
      rw [dg_V, Nat.mod_eq_of_lt hfit] at NV
      clear hown hkn hfit
      generalize hj : q + k = j at *
      go_wp2_with fail
      refine T.mono ?_
      rintro e wa ⟨rfl, rfl⟩
      go_wp2
      go_ret
      exact ⟨_, rfl, NV, hbl⟩
theorem down_new {w : World} {va : Value} {X : Nat} (ha : Big.NatV w va X) (hX : Fits 1000 X) (s : Nat) :
    Calls Tryd.prog 109 #[va, .int .i64 (s : Int)] w fun e w' => ∃ v, e = .returned v ∧ Big.NewV w' w.heap.size v (X / 2 ^ s) ∧ Below w.heap.size w w' := by
  obtain ⟨ao, n, c, b, o, f, rfl, S, t, rfl⟩ := ha
  have hn := big_len t hX
  by_cases h0 : 32 * n ≤ s
  · have hz : Big.V f n / 2 ^ s = 0 := by
      refine Nat.div_eq_of_lt (Nat.lt_of_lt_of_le (Big.V_lt S.ws n) ?_)
      rw [D_pow]
      exact Nat.pow_le_pow_right (by omega) h0
    rw [hz]
    have h0' : 32 * (n : Int) ≤ (s : Int) := by omega
    clear S t hX hz
    go_enter Tryd.func109, Tryd.ntmps109
    go_wp2
    go_ret
    exact ⟨_, rfl, Big.newv_nil _ _, Below.refl _ _⟩
  · exact down_big S hn s (s / 32) (s % 32) (by omega) (by omega) (by omega)
set_option maxRecDepth 100000 in
set_option maxHeartbeats 1000000 in
theorem length_any {w : World} {ao : Option Addr} {n c b o : Nat} {f : Nat → Nat} (S : Sl w ao n c b o f) (h0 : 0 < n) (hn : n ≤ 1000) :
    Calls Tryd.prog 47 #[.slice ao n c] w fun e w' => e = .returned (.int .i64 (((n : Int) - 1) * 64 + blen (f (n - 1) : Int))) ∧ Below w.heap.size w w' := by
  obtain rfl := S.addr h0
  have hc := S.cell (n - 1) (by omega)
  have hw := S.ws (n - 1)
  unfold B at hw
  have hb := blen_01 (f (n - 1) : Int) (by omega) (by omega)
  have e1 : ((n : Int) == 0) = false := beq_eq_false_iff_ne.mpr (by omega)
  have HL := len64_any (f (n - 1) : Int) ⟨by omega, by omega⟩ w
  generalize blen (f (n - 1) : Int) = L at *
  go_enter Tryd.func47, Tryd.ntmps47
  go_wp2_with fail
  refine HL.mono ?_
  rintro e w' ⟨rfl, rfl⟩
  go_wp2
  go_ret
  exact ⟨rfl, Below.refl _ _⟩
theorem twoB_pow (k : Nat) : B ^ k = 2 ^ (64 * k) := by
  rw [Nat.pow_mul]
  rfl
/-- A number of n words with its top word: at least 2 to its length less one. -/
theorem length_le {f : Nat → Nat} {n : Nat} (hf : Ws f) (t : Top f n) (h0 : 0 < n) : ∃ L : Nat, ((n : Int) - 1) * 64 + blen (f (n - 1) : Int) = (L : Int) + 1 ∧ 2 ^ L ≤ V f n := by
  obtain ⟨k, rfl⟩ : ∃ k, n = k + 1 := ⟨n - 1, by omega⟩
  have tk : f k ≠ 0 := by
    rcases t with z | z
    · omega
    · simpa using z
  have hw := hf k
  have hw' : f k < 18446744073709551616 := hw
  obtain ⟨m, e, hm, h1, _⟩ := blen_bounds (f k : Int) (by omega) (by omega)
  refine ⟨64 * k + m, ?_, ?_⟩
  · rw [show k + 1 - 1 = k by omega, e]
    omega
  · rw [V_succ, Nat.pow_add, ← twoB_pow]
    have h1' : 2 ^ m ≤ f k := by exact_mod_cast h1
    have := Nat.mul_le_mul_left (B ^ k) h1'
    rw [Nat.mul_comm (B ^ k) (f k)] at this
    omega
set_option maxRecDepth 100000 in
set_option maxHeartbeats 1000000 in
theorem shl_ok {w : World} {va : Value} {X : Nat} (ha : NatV w va X) (s : Nat) (h : X * 2 ^ s < B ^ 128) (hs : s ≤ 8192) :
    Calls Tryd.prog 22 #[va, .int .i64 (s : Int)] w fun e w' => ∃ v, e = .returned (.tuple #[v, .nilIface]) ∧ NatV w' v (X * 2 ^ s) ∧ Below w.heap.size w w' := by
  obtain ⟨ao, n, c, b, o, f, rfl, S, t, rfl, hn⟩ := ha
  have h1 := valid_any S
  rw [verr_ok hn t] at h1
  unfold errV at h1
  by_cases h0 : n = 0
  · subst h0
    go_enter Tryd.func22, Tryd.ntmps22
    go_wp2_with fail
    refine h1.mono ?_
    rintro e wa ⟨rfl, hba⟩
    go_wp2
    refine bodyPost_ret (v := .tuple #[.slice none 0 0, .nilIface]) (by simp [results, Tryd.results22, go_sem]) rfl ⟨_, rfl, ?_, hba⟩
    rw [V_zero, Nat.zero_mul]
    exact natv_nil _
  · have e1 : ((n : Int) == 0) = false := beq_eq_false_iff_ne.mpr (by omega)
    obtain ⟨L, eL, hL⟩ := length_le S.ws t (by omega)
    have hLs : L + s < 8192 := by
      obtain ⟨M, hM, hBM⟩ : ∃ M, M = 8192 ∧ B ^ 128 = 2 ^ M := ⟨64 * 128, rfl, twoB_pow 128⟩
      have q : 2 ^ (L + s) < 2 ^ M := by
        rw [Nat.pow_add]
        refine Nat.lt_of_le_of_lt (Nat.mul_le_mul_right _ hL) ?_
        rw [hBM] at h
        exact h
      have := (Nat.pow_lt_pow_iff_right (a := 2) (by omega)).1 q
      omega
    have HH : Hid (V f n * 2 ^ s < B ^ 128) := h
    have HS : Hid (Sl w ao n c b o f) := S
    obtain ⟨q, p, hsq, hp⟩ : ∃ q p, s = 64 * q + p ∧ p < 64 := ⟨s / 64, s % 64, by omega, by omega⟩
    have hq : q ≤ 1000 := by omega
    have cL : ¬ (8192 : Int) - ((L : Int) + 1) < (s : Int) := by omega
    have cL2 : (0 : Int) ≤ (s : Int) := by omega
    have HQ : Hid (s = 64 * q + p) := hsq
    clear h hL S t hsq
    go_enter Tryd.func22, Tryd.ntmps22
    go_wp2_with fail
    refine h1.mono ?_
    rintro e wa ⟨rfl, hba⟩
    have LN := length_any (HS.out.below hba) (by omega) (by omega)
    rw [eL] at LN
    clear h1
    go_wp2_with fail
    refine LN.mono ?_
    rintro e wb ⟨rfl, hbb⟩
    have BB : Below w.heap.size w wb := hba.trans (hbb.mono hba.size)
    have SU := shiftUp_any (HS.out.below BB) (by omega) s q p HQ.out hp hq
    clear LN eL hba hbb
    go_wp2_with fail
    refine SU.mono ?_
    rintro e wc ⟨rfl, hbc, F, R, hv⟩
    obtain ⟨nv, hl⟩ := natv_tl R (by unfold maxLen; omega) hv HH.out
    have BC : Below w.heap.size w wc := BB.trans (hbc.mono BB.size)
    have TT := trim_any (row_sl0 R (by unfold maxLen; omega))
    go_wp2_with fail
    refine TT.mono ?_
    rintro e w4 ⟨rfl, rfl⟩
    go_wp2
    refine bodyPost_ret (v := .tuple #[.slice (some ⟨wb.heap.size, 0, none⟩) (tl F (q + n + 1)) (tl F (q + n + 1)), .nilIface]) (by simp [results, Tryd.results22, go_sem]) rfl ⟨_, rfl, nv, BC⟩
theorem length_eq {f : Nat → Nat} {n : Nat} (hf : Ws f) (t : Top f n) (h0 : 0 < n) : ((n : Int) - 1) * 64 + blen (f (n - 1) : Int) = (bl (V f n) : Int) := by
  obtain ⟨k, rfl⟩ : ∃ k, n = k + 1 := ⟨n - 1, by omega⟩
  have tk : f k ≠ 0 := by
    rcases t with z | z
    · omega
    · simpa using z
  have hw' : f k < 18446744073709551616 := hf k
  obtain ⟨m, e, hm, h1, h2⟩ := blen_bounds (f k : Int) (by omega) (by omega)
  have h1' : 2 ^ m ≤ f k := by exact_mod_cast h1
  have h2' : f k < 2 ^ (m + 1) := by exact_mod_cast h2
  have lo := V_lt hf k
  rw [twoB_pow] at lo
  have ev : V f (k + 1) = V f k + f k * 2 ^ (64 * k) := by rw [V_succ, twoB_pow]
  have hb : bl (V f (k + 1)) = 64 * k + m + 1 := by
    rw [ev]
    refine bl_of ?_ ?_
    · rw [Nat.pow_add, Nat.mul_comm (2 ^ (64 * k))]
      have := Nat.mul_le_mul_right (2 ^ (64 * k)) h1'
      omega
    · rw [Nat.add_assoc, Nat.pow_add, Nat.mul_comm (2 ^ (64 * k))]
      have := Nat.mul_le_mul_right (2 ^ (64 * k)) (Nat.succ_le_of_lt h2')
      rw [Nat.succ_mul] at this
      omega
  rw [show k + 1 - 1 = k by omega, e, hb]
  omega
theorem length_full {w : World} {ao : Option Addr} {n c b o : Nat} {f : Nat → Nat} (S : Sl w ao n c b o f) (t : Top f n) (hn : n ≤ 1000) :
    Calls Tryd.prog 47 #[.slice ao n c] w fun e w' => e = .returned (.int .i64 (bl (V f n) : Int)) ∧ Below w.heap.size w w' := by
  by_cases h0 : n = 0
  · subst h0
    have e : bl (V f 0) = 0 := rfl
    rw [e]
    clear e
    go_enter Tryd.func47, Tryd.ntmps47
    go_wp2
    go_ret
    exact ⟨rfl, Below.refl _ _⟩
  · rw [← length_eq S.ws t (by omega)]
    exact length_any S (by omega) hn
set_option maxHeartbeats 1000000 in
theorem bitsN_any {w : World} {ao : Option Addr} {n c b o : Nat} {f : Nat → Nat} (S : Sl w ao n c b o f) :
    Calls Tryd.prog 61 #[.slice ao n c] w fun e w' => e = .returned (.tuple #[.int .i64 (num2 (verr f n) (bl (V f n)) : Int), errV (verr f n)]) ∧ Below w.heap.size w w' := by
  have h1 := valid_any S
  by_cases q : verr f n = 0
  · obtain ⟨hn, t⟩ := verr_nat q
    rw [q] at h1 ⊢
    rw [num2_zero]
    unfold errV at h1 ⊢
    have HS : Hid (Sl w ao n c b o f ∧ Top f n) := ⟨S, t⟩
    clear S t q
    go_enter Tryd.func61, Tryd.ntmps61
    go_wp2_with fail
    refine h1.mono ?_
    rintro e wa ⟨rfl, hba⟩
    have T := length_full (HS.out.1.below hba) HS.out.2 (by omega)
    go_wp2_with fail
    refine T.mono ?_
    rintro e wb ⟨rfl, hbb⟩
    go_wp2
    refine bodyPost_ret (v := .tuple #[.int .i64 (bl (V f n) : Int), .nilIface]) (by simp [results, Tryd.results61, go_sem]) rfl ⟨rfl, hba.trans (hbb.mono hba.size)⟩
  · rw [num2_bad q]
    rw [errV_succ q] at h1 ⊢
    generalize verr f n = k at *
    go_enter Tryd.func61, Tryd.ntmps61
    go_wp2_with fail
    refine h1.mono ?_
    rintro e wa ⟨rfl, hba⟩
    go_wp2
    refine bodyPost_ret (v := .tuple #[.int .i64 0, .iface 76 (.int .i64 (k : Int))]) (by simp [results, Tryd.results61, go_sem]) rfl ⟨rfl, hba⟩
/-- A row of N digits that fills the block g. -/
structure Big.Row (w : World) (g N : Nat) (F : Nat → Nat) : Prop where
  row : w.rowIs g 114 N (fun i => .int .u32 (F i : Int))
  ws : Big.Ws F
theorem Big.Row.set {w : World} {g N : Nat} {F : Nat → Nat} (R : Big.Row w g N F) (i : Nat) {r : Nat} (hr : r < Big.B) : Big.Row (w.setCell ⟨g, i, none⟩ (.int .u32 (r : Int))) g N (Big.put F i r) := by
  refine ⟨(R.row.set i (.int .u32 (r : Int))).congr fun j hj => ?_, Big.put_Ws R.ws hr⟩
  unfold Big.put
  by_cases c : j = i
  · rw [if_pos c, if_pos c]
  · rw [if_neg c, if_neg c]
theorem Big.Row.below {w w' : World} {g N : Nat} {F : Nat → Nat} (R : Big.Row w g N F) (h : Below w.heap.size w w') : Big.Row w' g N F :=
  ⟨R.row.of_block (h.block g R.row.lt), R.ws⟩
theorem Big.Row.sl0 {w : World} {g N : Nat} {F : Nat → Nat} (R : Big.Row w g N F) (hN : N ≤ maxLen) : Big.Sl w (some ⟨g, 0, none⟩) N N g 0 F :=
  ⟨Nat.le_refl _, hN, fun _ => rfl, fun _ => R.row.lt, fun i hi => by rw [Nat.zero_add]; exact R.row.cell hi, R.ws⟩
theorem Big.made_row (w : World) (n : Nat) : Big.Row (w.alloc (.cells (madeCells #[.int .u32 0] n) 114)) w.heap.size n (fun _ => 0) := ⟨World.rowIs_made _ _ _ _, fun _ => Big.B_pos⟩
theorem Big.Sl.kept {w w' : World} {ao : Option Addr} {n c b o g : Nat} {f : Nat → Nat} (S : Big.Sl w ao n c b o f) (h : w.grownBy w' (some g)) (hne : 0 < n → b ≠ g) : Big.Sl w' ao n c b o f :=
  ⟨S.le, S.cap, S.addr, fun q => Nat.lt_of_lt_of_le (S.blk q) h.size, fun i hi => by
    rw [World.cell?_of_block (w := w) (h.block b (S.blk (by omega)) (fun e => hne (by omega) (Option.some.inj e)))]; exact S.cell i hi, S.ws⟩
/-- A number that does not lie in the block g. -/
def ApV (w : World) (g : Nat) (v : Value) (X : Nat) : Prop := ∃ ao n c b o f, v = .slice ao n c ∧ Big.Sl w ao n c b o f ∧ Big.Top f n ∧ Big.V f n = X ∧ (0 < n → b ≠ g)
theorem ApV.nat {w : World} {g : Nat} {v : Value} {X : Nat} (h : ApV w g v X) : Big.NatV w v X := by
  obtain ⟨ao, n, c, b, o, f, e, S, t, r, _⟩ := h
  exact ⟨ao, n, c, b, o, f, e, S, t, r⟩
theorem ApV.below {w w' : World} {g : Nat} {v : Value} {X : Nat} (h : ApV w g v X) (hb : Below w.heap.size w w') : ApV w' g v X := by
  obtain ⟨ao, n, c, b, o, f, e, S, r⟩ := h
  exact ⟨ao, n, c, b, o, f, e, S.below hb, r⟩
theorem ApV.set {w : World} {g : Nat} {v : Value} {X : Nat} (h : ApV w g v X) (i : Nat) (u : Value) : ApV (w.setCell ⟨g, i, none⟩ u) g v X := by
  obtain ⟨ao, n, c, b, o, f, e, S, t, r, a⟩ := h
  exact ⟨ao, n, c, b, o, f, e, S.kept (grown_set (World.grownBy.refl _ _) u) a, t, r, a⟩
theorem Big.NewV.apart {w : World} {base g : Nat} {v : Value} {X : Nat} (h : Big.NewV w base v X) (hg : g < base) : ApV w g v X := by
  obtain ⟨ao, n, c, b, o, f, e, S, t, r, a⟩ := h
  exact ⟨ao, n, c, b, o, f, e, S, t, r, fun q => by have := a q; omega⟩
theorem ord_neg' {x y : Nat} (h : ord x y < 0) : x < y := by
  unfold ord at h
  split at h
  · assumption
  · split at h <;> omega
theorem wrap_nat32 {t : Nat} (h : t < 4294967296) : IntKind.u32.wrap (t : Int) = (t : Int) := by rw [IntKind.wrap_u32]; omega
/-- A bit that is 0, set. -/
theorem set_bit {x p : Nat} (h : x / 2 ^ p % 2 = 0) : x ||| 2 ^ p = x + 2 ^ p := by
  have h2 : x = 2 ^ (p + 1) * (x / 2 ^ p / 2) + x % 2 ^ p := by
    have a := Nat.div_add_mod x (2 ^ p)
    have b := Nat.div_add_mod (x / 2 ^ p) 2
    rw [h, Nat.add_zero] at b
    rw [Nat.pow_succ, Nat.mul_assoc, b]
    exact a.symm
  have l1 : x % 2 ^ p < 2 ^ p := Nat.mod_lt _ (Nat.pow_pos (by omega))
  generalize x / 2 ^ p / 2 = y at *
  generalize x % 2 ^ p = l at *
  subst h2
  have e1 : l ||| 2 ^ p = 2 ^ p * 1 + l := by rw [Nat.or_comm, Nat.two_pow_add_eq_or_of_lt l1, Nat.mul_one]
  have l2 : l < 2 ^ (p + 1) := by rw [Nat.pow_succ]; omega
  have l3 : 2 ^ p * 1 + l < 2 ^ (p + 1) := by rw [Nat.pow_succ]; omega
  rw [Nat.two_pow_add_eq_or_of_lt l2, Nat.or_assoc, e1, ← Nat.two_pow_add_eq_or_of_lt l3, ← Nat.two_pow_add_eq_or_of_lt l2]
  omega
theorem set_room {x p : Nat} (hx : x < Big.B) (hp : p < 32) (h : x / 2 ^ p % 2 = 0) : x + 2 ^ p < Big.B := by
  rw [← set_bit h, D_two]
  exact Nat.or_lt_two_pow (by rw [← D_two]; exact hx) (Nat.pow_lt_pow_right (by omega) hp)
/-- The number with a digit more in the place k. -/
theorem V_put {F : Nat → Nat} {k N r : Nat} (hk : k < N) : Big.V (Big.put F k (F k + r)) N = Big.V F N + r * Big.B ^ k := by
  have s1 := Big.V_split (Big.put F k (F k + r)) (k + 1) (N - (k + 1))
  have s2 := Big.V_split F (k + 1) (N - (k + 1))
  rw [show k + 1 + (N - (k + 1)) = N by omega] at s1 s2
  rw [s1, s2, Big.V_succ, Big.V_succ, Big.put_at, Big.V_put_low (Nat.le_refl _), Big.V_congr (f := fun i => Big.put F k (F k + r) (k + 1 + i)) (g := fun i => F (k + 1 + i)) (fun i hi => Big.put_ne (by omega)), Nat.add_mul]
  omega
theorem bl_fits {L X : Nat} (h : Fits L X) : bl X ≤ 32 * L := bl_mono_le (by rw [← D_pow]; exact h.lt)
/-- One round of the division: the place k + 1 is done, the place k comes. -/
theorem over_sub {X R Y Q k : Nat} (h : X = R + Y * Q) (hr : R < Y * 2 ^ (k + 1)) (hd : Y * 2 ^ k ≤ R) : X = R - Y * 2 ^ k + Y * (Q + 2 ^ k) ∧ R - Y * 2 ^ k < Y * 2 ^ k := by
  rw [Nat.pow_succ] at hr
  rw [Nat.mul_add]
  have : Y * (2 ^ k * 2) = Y * 2 ^ k + Y * 2 ^ k := by grind
  omega
theorem over_mod {Q k : Nat} (h : Q % 2 ^ (k + 1) = 0) : (Q + 2 ^ k) % 2 ^ k = 0 ∧ Q % 2 ^ k = 0 ∧ Q / 2 ^ k % 2 = 0 := by
  have a := low_mono h (show k ≤ k + 1 by omega)
  refine ⟨by rw [Nat.add_mod_right]; exact a, a, ?_⟩
  have b := low_step a
  rw [h] at b
  have p : 0 < 2 ^ k := Nat.pow_pos (by omega)
  rcases Nat.mul_eq_zero.1 b.symm with q | q
  · omega
  · exact q
theorem over_half {Y k : Nat} : Y * 2 ^ (k + 1) / 2 = Y * 2 ^ k := by
  rw [Nat.pow_succ, ← Nat.mul_assoc, Nat.mul_div_cancel _ (by omega)]
set_option maxRecDepth 100000 in
set_option maxHeartbeats 4000000 in
theorem over_wide {w : World} {va vb : Value} {X Y : Nat} (ha : Big.NatV w va X) (hb : Big.NatV w vb Y) (hX : Fits 999 X) (hY : Fits 999 Y) (h0 : Y ≠ 0) :
    Calls Tryd.prog 87 #[va, vb] w fun e w' => ∃ v1 v2, e = .returned (.tuple #[v1, v2]) ∧ Big.NatV w' v1 (X / Y) ∧ Big.NatV w' v2 (X % Y) ∧ Below w.heap.size w w' := by
  have L1 := length_nat ha (hX.up (by omega))
  have L2 := length_nat hb (hY.up (by omega))
  have bX := bl_fits hX
  have bY := bl_fits hY
  by_cases c1 : bl X < bl Y
  · have lt : X < Y := by
      have a := bl_lt X
      have b := bl_le h0
      have c : 2 ^ bl X ≤ 2 ^ (bl Y - 1) := Nat.pow_le_pow_right (by omega) (by omega)
      omega
    rw [Nat.div_eq_of_lt lt, Nat.mod_eq_of_lt lt]
    clear lt hX hY hb h0
    have HA : Hid (Big.NatV w va X) := ha
    clear ha
    generalize bl X = x at *
    generalize bl Y = y at *
    have c1' : (x : Int) - (y : Int) < 0 := by omega
    go_enter Tryd.func87, Tryd.ntmps87
    go_wp2_with fail
    refine L1.mono ?_
    rintro e w ⟨rfl, rfl⟩
    go_wp2_with fail
    refine L2.mono ?_
    rintro e w ⟨rfl, rfl⟩
    go_wp2
    refine bodyPost_ret (v := .tuple #[.slice none 0 0, va]) (by simp [results, Tryd.results87, go_sem]) rfl ⟨_, _, rfl, Big.natv_nil _, HA.out, Below.refl _ _⟩
  · obtain ⟨n, hn⟩ : ∃ n, bl X = bl Y + n := ⟨bl X - bl Y, by omega⟩
    have start : X < Y * 2 ^ (n + 1) := by
      have a := bl_lt X
      have b := Nat.mul_le_mul_right (2 ^ (n + 1)) (bl_le h0)
      have p := bl_pos h0
      rw [← Nat.pow_add, show bl Y - 1 + (n + 1) = bl X by omega] at b
      omega
    have HST : Hid (X < Y * 2 ^ (n + 1)) := start
    have hn2 : n ≤ 31968 := by omega
    have fd : Fits 1000 (Y * 2 ^ n) := by
      refine (two_fits (s := bl X) (k := 1000) (by omega)).le ?_
      have a := Nat.mul_le_mul_right (2 ^ n) (Nat.le_of_lt (bl_lt Y))
      rw [← Nat.pow_add, ← hn] at a
      exact a
    have HF : Hid (Fits 999 X ∧ Fits 999 Y ∧ Fits 1000 (Y * 2 ^ n) ∧ Y ≠ 0) := ⟨hX, hY, fd, h0⟩
    have d12 : ((bl X : Nat) : Int) - ((bl Y : Nat) : Int) = (n : Int) := by omega
    have hmk := run_make_row' (P := Tryd.prog) 74 114 (.int .u32 0) 4 Big.und_big Big.info_u32 rfl .i64 .i64 (n / 32 + 1) (by omega) (by omega)
    simp only [Int.natCast_add, Int.natCast_one] at hmk
    have hdv : (n : Int) / 32 = ((n / 32 : Nat) : Int) := by omega
    have HAB : Hid (Big.NatV w va X ∧ Big.NatV w vb Y) := ⟨ha, hb⟩
    have hap : ∀ W : World, Below w.heap.size w W → ApV W w.heap.size va X := fun W hW => by
      obtain ⟨ao, k, c, b, o, f, e, S, t, r⟩ := ha
      exact ⟨ao, k, c, b, o, f, e, S.below hW, t, r, fun q => Nat.ne_of_lt (S.blk q)⟩
    have HAP : Hid (∀ W : World, Below w.heap.size w W → ApV W w.heap.size va X) := hap
    have hN : n / 32 + 1 ≤ 1000 := by omega
    have HN : Hid (n < 32 * (n / 32 + 1)) := (by omega : n < 32 * (n / 32 + 1))
    generalize n / 32 = N at *
    generalize bl X = x at *
    generalize bl Y = y at *
    clear start fd hX hY h0 hn c1 ha hb hap
    go_enter Tryd.func87, Tryd.ntmps87
    go_wp2_with fail
    refine L1.mono ?_
    rintro e w ⟨rfl, rfl⟩
    go_wp2_with fail
    refine L2.mono ?_
    rintro e w ⟨rfl, rfl⟩
    clear L1 L2
    have bA : Below w.heap.size w (w.alloc (.cells (madeCells #[.int .u32 0] (N + 1)) 114)) := (Below.refl _ _).alloc (Nat.le_refl _) _
    have U := up_new (HAB.out.2.below bA) (HF.out.2.1.up (by omega)) n (by omega)
    have R0 := Big.made_row w (N + 1)
    go_wp2_with fail
    refine U.mono ?_
    rintro e w1 ⟨vd, rfl, nd, b1⟩
    replace R0 := R0.below b1
    have B1 : Below w.heap.size w w1 := bA.trans (b1.mono (by simp))
    have ad : ApV w1 w.heap.size vd (Y * 2 ^ n) := nd.apart (by simp)
    have ar : ApV w1 w.heap.size va X := HAP.out w1 B1
    clear U nd b1 bA
    go_wp2
    go_loopw [8, 9, 10] (fun vd vr i wr => ∃ (k R : Nat) (Q : Nat → Nat), i = .int .i64 ((k : Int) - 1) ∧ k ≤ n + 1 ∧ Big.Row wr w.heap.size (N + 1) Q ∧ Below w.heap.size w wr ∧ ApV wr w.heap.size vd (Y * 2 ^ k / 2) ∧ ApV wr w.heap.size vr R ∧ Hid (X = R + Y * Big.V Q (N + 1) ∧ R < Y * 2 ^ k ∧ Big.V Q (N + 1) % 2 ^ k = 0)) (fun _ _ i _ => (intOf i + 1).toNat)
    case atStart =>
      refine ⟨n + 1, X, fun _ => 0, by go_num, Nat.le_refl _, R0, B1, by rw [over_half]; exact ad, ar, ?_⟩
      refine ⟨?_, HST.out, ?_⟩
      · rw [Big.V_nought, Nat.mul_zero, Nat.add_zero]
      · rw [Big.V_nought, Nat.zero_mod]
    case round =>
      clear ad ar R0 B1
      obtain ⟨k, R, Q, rfl, hk, RQ, hbl, ad, ar, HI⟩ := hrel
      have HRQ : Hid (Big.Row wr w.heap.size (N + 1) Q) := RQ
      have HB : Hid (Below w.heap.size w wr) := hbl
      have hsz := hbl.size
      have hgl : w.heap.size < wr.heap.size := RQ.row.lt
      by_cases c1 : k = 0
      · subst c1
        have T := Big.trim_any (RQ.sl0 (by unfold maxLen; omega))
        have NV := (RQ.sl0 (by unfold maxLen; omega)).trimmed
        have HD : Hid (Big.V Q (N + 1) = X / Y ∧ R = X % Y) := by
          obtain ⟨i1, i2, _⟩ := HI.out
          rw [Nat.pow_zero, Nat.mul_one] at i2
          have yp : 0 < Y := Nat.pos_of_ne_zero HF.out.2.2.2
          refine ⟨?_, ?_⟩
          · rw [i1, Nat.add_mul_div_left _ _ yp, Nat.div_eq_of_lt i2, Nat.zero_add]
          · rw [i1, Nat.add_mul_mod_self_left, Nat.mod_eq_of_lt i2]
        rw [HD.out.1] at NV
        have nr := ar.nat
        rw [HD.out.2] at nr
        clear RQ ad ar
        go_wp2_with fail
        refine T.mono ?_
        rintro e wa ⟨rfl, rfl⟩
        go_wp2
        refine bodyPost_ret (v := .tuple #[_, _]) (by simp [results, Tryd.results87, go_sem]) rfl ⟨_, _, rfl, NV, nr, HB.out⟩
      · obtain ⟨j, rfl⟩ : ∃ j, k = j + 1 := ⟨k - 1, by omega⟩
        rw [over_half] at ad
        have ij : ((j + 1 : Nat) : Int) - 1 = (j : Int) := by omega
        have hj0 : (0 : Int) ≤ (j : Int) := by omega
        have CM := bcmp_nat ar.nat ad.nat
        obtain ⟨m1, m2, m3⟩ := over_mod HI.out.2.2
        have fR : Fits 999 R := by
          refine HF.out.1.le ?_
          rw [HI.out.1]; exact Nat.le_add_right _ _
        have fD : Fits 1000 (Y * 2 ^ j) := HF.out.2.2.1.le (Nat.mul_le_mul_left _ (Nat.pow_le_pow_right (by omega) (by omega)))
        have HFF : Hid (Fits 999 R ∧ Fits 1000 (Y * 2 ^ j)) := ⟨fR, fD⟩
        have HM : Hid ((Big.V Q (N + 1) + 2 ^ j) % 2 ^ j = 0 ∧ Big.V Q (N + 1) % 2 ^ j = 0 ∧ Big.V Q (N + 1) / 2 ^ j % 2 = 0) := ⟨m1, m2, m3⟩
        clear m1 m2 m3 fR fD
        by_cases c2 : R < Y * 2 ^ j
        · rw [ord_lt c2] at CM
          have HLT : Hid (R < Y * 2 ^ j) := c2
          clear c2 RQ
          simp only [Int.natCast_add, Int.natCast_one] at ij
          go_wp2_with fail
          refine CM.mono ?_
          rintro e w2 ⟨rfl, b2⟩
          have ad2 := ad.below b2
          have ar2 := ar.below b2
          have B2 : Below w.heap.size w w2 := HB.out.trans (b2.mono hsz)
          have DN := down_new ad2.nat (HFF.out.2.up (by omega)) 1
          have h2 : w.heap.size < w2.heap.size := Nat.lt_of_lt_of_le hgl b2.size
          have HR2 : Hid (Big.Row w2 w.heap.size (N + 1) Q) := HRQ.out.below b2
          clear CM b2 ad ar
          go_wp2_with fail
          refine DN.mono ?_
          rintro e w3 ⟨vd3, rfl, nd3, b3⟩
          have B3 : Below w.heap.size w w3 := B2.trans (b3.mono (by omega))
          have ad3 := nd3.apart h2
          rw [Nat.pow_one] at ad3
          have ar3 := ar2.below b3
          have HR3 : Hid (Big.Row w3 w.heap.size (N + 1) Q) := HR2.out.below b3
          clear DN b3 nd3 ad2 ar2 B2
          go_wp2
          go_roundw
          case rel => exact ⟨j, R, Q, by go_num, by omega, HR3.out, B3, ad3, ar3, ⟨HI.out.1, HLT.out, HM.out.2.1⟩⟩
          case measure => simp [intOf]
        · have ho : ¬ ord R (Y * 2 ^ j) < 0 := fun z => c2 (ord_neg' z)
          have HLE : Hid (Y * 2 ^ j ≤ R) := Nat.le_of_not_lt c2
          obtain ⟨i, p, hip, hp⟩ : ∃ i p, j = 32 * i + p ∧ p < 32 := ⟨j / 32, j % 32, by omega, by omega⟩
          have hiN : i < N + 1 := by have := HN.out; omega
          have hbit := HM.out.2.2
          rw [hip, bit_at RQ.ws hiN hp] at hbit
          have hor := bits32_or (Q i) (2 ^ p) (RQ.ws i) (by have : 2 ^ p < 2 ^ 32 := Nat.pow_lt_pow_right (by omega) hp; omega)
          rw [set_bit hbit] at hor
          have hroom := set_room (RQ.ws i) hp hbit
          have hpp : 2 ^ p < 4294967296 := by have : 2 ^ p < 2 ^ 32 := Nat.pow_lt_pow_right (by omega) hp; omega
          have sh1 : IntKind.u32.wrap (1 * (2 : Int) ^ p) = ((2 ^ p : Nat) : Int) := by rw [Int.one_mul, pow_cast]; exact wrap_nat32 hpp
          have sh2 : IntKind.u32.wrap ((2 : Int) ^ p) = ((2 ^ p : Nat) : Int) := by rw [pow_cast]; exact wrap_nat32 hpp
          have d1 : (j : Int) / 32 = (i : Int) := by omega
          have d2 : (j : Int) % 32 = (p : Int) := by omega
          have d3 : (j : Int).tdiv 32 = (i : Int) := by rw [Int.tdiv_eq_ediv_of_nonneg (by omega)]; exact d1
          have d4 : (j : Int).tmod 32 = (p : Int) := by rw [Int.tmod_eq_emod_of_nonneg (by omega)]; exact d2
          have HVP : Hid (Big.V (Big.put Q i (Q i + 2 ^ p)) (N + 1) = Big.V Q (N + 1) + 2 ^ j) := by
            show _ = _
            rw [V_put hiN, hip, Nat.pow_add, ← D_pow, Nat.mul_comm (2 ^ p)]
          obtain ⟨o1, o2⟩ := over_sub HI.out.1 HI.out.2.1 HLE.out
          have HO : Hid (X = R - Y * 2 ^ j + Y * (Big.V Q (N + 1) + 2 ^ j) ∧ R - Y * 2 ^ j < Y * 2 ^ j) := ⟨o1, o2⟩
          have HRM : Hid (Q i + 2 ^ p < Big.B) := hroom
          generalize 2 ^ p = t at *
          generalize hk1 : ord R (Y * 2 ^ j) = o at *
          clear c2 RQ o1 o2 hbit hip hk1 hroom
          simp only [Int.natCast_add, Int.natCast_one] at ij
          go_wp2_with fail
          refine CM.mono ?_
          rintro e w2 ⟨rfl, b2⟩
          have ad2 := ad.below b2
          have ar2 := ar.below b2
          have B2 : Below w.heap.size w w2 := HB.out.trans (b2.mono hsz)
          have h2 : w.heap.size < w2.heap.size := Nat.lt_of_lt_of_le hgl b2.size
          have HR2 : Hid (Big.Row w2 w.heap.size (N + 1) Q) := HRQ.out.below b2
          have MN := minus_new ar2.nat ad2.nat (HFF.out.1.up (by omega)) HLE.out
          clear CM b2 ad ar
          go_wp2_with fail
          refine MN.mono ?_
          rintro e w3 ⟨vr3, rfl, nr3, b3⟩
          have B3 : Below w.heap.size w w3 := B2.trans (b3.mono (by omega))
          have ad3 := ad2.below b3
          have ar3 := nr3.apart h2
          have R3 := HR2.out.below b3
          have HR3 : Hid (Big.Row w3 w.heap.size (N + 1) Q) := R3
          have h3 : w.heap.size < w3.heap.size := Nat.lt_of_lt_of_le h2 b3.size
          have cz := R3.row.cell (i := i) hiN
          have fz := R3.row.frozen i
          clear MN b3 nr3 ad2 ar2 B2 R3
          obtain ⟨w4, hw4⟩ : ∃ w4, w4 = w3.setCell ⟨w.heap.size, i, none⟩ (.int .u32 (((Q i : Nat) : Int) + (t : Int))) := ⟨_, rfl⟩
          have B4 : Below w.heap.size w w4 := by rw [hw4]; exact B3.setCell (Nat.le_refl _) _
          have R4 : Big.Row w4 w.heap.size (N + 1) (Big.put Q i (Q i + t)) := by rw [hw4, ← Int.natCast_add]; exact HR3.out.set i HRM.out
          have ad4 : ApV w4 w.heap.size u8 (Y * 2 ^ j) := by rw [hw4]; exact ad3.set i _
          have ar4 : ApV w4 w.heap.size vr3 (R - Y * 2 ^ j) := by rw [hw4]; exact ar3.set i _
          have h4 : w.heap.size < w4.heap.size := by rw [hw4, World.size_setCell]; exact h3
          have HW4 : Hid (w4 = w3.setCell ⟨w.heap.size, i, none⟩ (.int .u32 (((Q i : Nat) : Int) + (t : Int)))) := hw4
          clear hw4
          go_wp2_with fail
          rw [← HW4.out]
          have DN := down_new ad4.nat (HFF.out.2.up (by omega)) 1
          have HR4 : Hid (Big.Row w4 w.heap.size (N + 1) (Big.put Q i (Q i + t))) := R4
          refine DN.mono ?_
          rintro e w5 ⟨vd5, rfl, nd5, b5⟩
          have B5 : Below w.heap.size w w5 := B4.trans (b5.mono (by omega))
          have ad5 := nd5.apart h4
          rw [Nat.pow_one] at ad5
          have ar5 := ar4.below b5
          have HR5 : Hid (Big.Row w5 w.heap.size (N + 1) (Big.put Q i (Q i + t))) := HR4.out.below b5
          clear DN b5 nd5 ad4 ar4 B4 R4
          go_wp2
          go_roundw
          case rel => exact ⟨j, R - Y * 2 ^ j, Big.put Q i (Q i + t), by go_num, by omega, HR5.out, B5, ad5, ar5, ⟨by rw [HVP.out]; exact HO.out.1, HO.out.2, by rw [HVP.out]; exact HM.out.1⟩⟩
          case measure => simp [intOf]
theorem small_nat (x : Nat) (hx : x < B) (w : World) :
    Calls Tryd.prog 38 #[.int .u64 (x : Int)] w fun e w' => ∃ v, e = .returned v ∧ Big.NatV w' v x ∧ Below w.heap.size w w' := by
  have e1 := lo32 x
  have e2 := hi32 hx
  have h1 : x % Big.B < Big.B := Nat.mod_lt _ Big.B_pos
  have h2 : x / Big.B < Big.B := half_lt hx
  have hS : ∀ W : World, Big.Sl (W.alloc (.cells #[.int .u32 ((x % Big.B : Nat) : Int), .int .u32 ((x / Big.B : Nat) : Int)] 114)) (some ⟨W.heap.size, 0, none⟩) 2 2 W.heap.size 0 (halves (fun _ => x)) := fun W =>
    ⟨Nat.le_refl _, by unfold maxLen; omega, fun _ => rfl, fun _ => by simp, fun i hi => by
      rcases (by omega : i = 0 ∨ i = 1) with rfl | rfl
      · simp [halves]
      · simp [halves], halves_Ws (fun _ => hx)⟩
  have hV : Big.V (halves (fun _ => x)) 2 = x := by
    have := halves_V (fun _ => x) 1
    rw [this, V_succ, V_zero, Nat.pow_zero]; omega
  have HS : Hid (∀ W : World, Big.Sl (W.alloc (.cells #[.int .u32 ((x % Big.B : Nat) : Int), .int .u32 ((x / Big.B : Nat) : Int)] 114)) (some ⟨W.heap.size, 0, none⟩) 2 2 W.heap.size 0 (halves (fun _ => x))) := hS
  have HV : Hid (Big.V (halves (fun _ => x)) 2 = x) := hV
  clear hS hV
  generalize x % Big.B = lo at *
  generalize x / Big.B = hi at *
  have T := Big.trim_any (HS.out w)
  have NV := (HS.out w).trimmed
  rw [HV.out] at NV
  go_enter Tryd.func38, Tryd.ntmps38
  go_wp2_with fail
  refine T.mono ?_
  rintro e wa ⟨rfl, rfl⟩
  go_wp2
  go_ret
  exact ⟨_, rfl, NV, (Below.refl _ _).alloc (Nat.le_refl _) _⟩
set_option maxRecDepth 100000 in
set_option maxHeartbeats 1000000 in
theorem bword_nat {w : World} {va : Value} {X : Nat} (ha : Big.NatV w va X) (hX : X < 18446744073709551616) :
    Calls Tryd.prog 92 #[va] w fun e w' => e = .returned (.int .u64 (X : Int)) ∧ w' = w := by
  obtain ⟨ao, n, c, b, o, f, rfl, S, t, rfl⟩ := ha
  have hn : n ≤ 2 := big_len t ⟨2, Nat.le_refl _, by unfold Big.B; omega⟩
  have HS : Hid (Big.Sl w ao n c b o f) := S
  obtain ⟨X, hX'⟩ : ∃ X, X = Big.V f n := ⟨_, rfl⟩
  rw [← hX'] at hX ⊢
  have HX : Hid (X = Big.V f n) := hX'
  clear hX' S t
  go_enter Tryd.func92, Tryd.ntmps92
  go_wp2
  go_loop [3, 4] (fun a i => ∃ k y : Nat, i = .int .i64 (k : Int) ∧ a = .int .u64 (y : Int) ∧ k ≤ n ∧ Hid (y = Big.V f k)) (fun _ i => n - (intOf i).toNat)
  case atStart => exact ⟨0, 0, rfl, rfl, Nat.zero_le _, rfl⟩
  case round =>
    obtain ⟨k, y, rfl, rfl, hk, HY⟩ := hrel
    by_cases c1 : k < n
    · have hc := HS.out.cell k c1
      obtain rfl := HS.out.addr (by omega)
      rcases (by omega : k = 0 ∨ k = 1) with rfl | rfl
      · have y0 : y = 0 := HY.out
        subst y0
        rw [Nat.add_zero] at hc
        have f0 := HS.out.ws 0
        unfold Big.B at f0
        have HV : Hid (f 0 = Big.V f 1) := by show _ = _; rw [Big.V_succ, Big.V_zero, Nat.pow_zero]; omega
        generalize f 0 = z at *
        have zo : bits .or .u64 0 (z : Int) = (z : Int) := by
          have := bits_or_u64_nat 0 z (by omega) (by omega)
          rw [Nat.zero_or] at this
          exact this
        have zw : IntKind.u64.wrap (z : Int) = (z : Int) := by rw [IntKind.wrap_u64]; omega
        clear HY
        go_wp2
        go_round
        case rel => exact ⟨1, z, rfl, by first | rfl | rw [zo], by omega, HV⟩
        case measure => simp [intOf]; omega
      · have y1 : y = f 0 := by rw [HY.out, Big.V_succ, Big.V_zero, Nat.pow_zero]; omega
        have f0 := HS.out.ws 0
        have f1 := HS.out.ws 1
        have po := pair_or f0 f1
        have HV : Hid (f 0 + f 1 * Big.B = Big.V f 2) := by show _ = _; rw [Big.V_succ, Big.V_succ, Big.V_zero, Nat.pow_zero, Nat.pow_one]; omega
        subst y1
        unfold Big.B at f0 f1
        generalize hs : f 0 + f 1 * Big.B = s at *
        clear hs
        generalize f 0 = z0 at *
        generalize f 1 = z1 at *
        have zw : IntKind.u64.wrap ((z1 : Int) * 4294967296) = (z1 : Int) * 4294967296 := by rw [IntKind.wrap_u64]; omega
        clear HY
        go_wp2
        go_round
        case rel => exact ⟨2, s, rfl, by first | rfl | rw [po], by omega, HV⟩
        case measure => simp [intOf]; omega
    · obtain rfl : k = n := by omega
      have yx : y = X := by rw [HY.out, HX.out]
      subst yx
      have c2 : ¬ (k : Int) < (k : Int) := by omega
      go_wp2
      go_ret
      exact ⟨rfl, rfl⟩
end Go.Proofs.YtealnajogkeckaaDoor
