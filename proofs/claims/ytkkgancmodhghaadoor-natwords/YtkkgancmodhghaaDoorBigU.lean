/-
  What the document's Low, Up, Down answer.
-/
import Derived.Test.YtkkgancmodhghaaDoorBigL
import Derived.Test.YtkkgancmodhghaaDoorBigW
namespace Go.Proofs.YtkkgancmodhghaaDoor
open Go.RowKit

theorem two_fits {s k : Nat} (h : s < 32 * k) : Fits k (2 ^ s) := by
  refine ⟨k, Nat.le_refl _, ?_⟩
  rw [D_pow]
  exact Nat.pow_lt_pow_right (by omega) h

/-- Is one of the lowest n bits 1? -/
def lowB (X n : Nat) : Bool := decide (X % 2 ^ n ≠ 0)

set_option maxRecDepth 100000 in
set_option maxHeartbeats 1000000 in
theorem low_any {w : World} {va : Value} {X : Nat} (ha : Big.NatV w va X) (hX : Fits 1000 X) (s : Nat) (hs : s < 9223372036854775808) :
    Calls Tryd.prog 67 #[va, .int .i64 (s : Int)] w fun e w' => e = .returned (.bool (lowB X s)) ∧ w' = w := by
  have HA : Hid (Big.NatV w va X) := ha
  have HX : Hid (Fits 1000 X) := hX
  obtain ⟨ao, n, c, b, o, f, rfl, S, t, hV⟩ := ha
  have hn : n ≤ 1000 := big_len t (by rw [hV]; exact hX)
  have hlt : X < 2 ^ (32 * n) := by rw [← hV, ← D_pow]; exact Big.V_lt S.ws n
  have HL : Hid (X < 2 ^ (32 * n)) := hlt
  clear S t hV hX hlt
  go_enter Tryd.func67, Tryd.ntmps67
  go_wp2
  go_loop [5] (fun i => ∃ k : Nat, i = .int .i64 (k : Int) ∧ k ≤ s ∧ k ≤ 32 * n ∧ Hid (X % 2 ^ k = 0)) (fun i => 32 * n - (intOf i).toNat)
  case atStart => exact ⟨0, rfl, Nat.zero_le _, Nat.zero_le _, by show X % 2 ^ 0 = 0; rw [Nat.pow_zero, Nat.mod_one]⟩
  case round =>
    obtain ⟨k, rfl, hk, hk2, HK⟩ := hrel
    by_cases c1 : k < s
    · have c1' : (k : Int) < (s : Int) := by omega
      by_cases c2 : k < 32 * n
      · have c2' : (k : Int) < 32 * (n : Int) := by omega
        have T := bit_any HA.out HX.out k (by omega)
        by_cases c3 : X / 2 ^ k % 2 = 1
        · rw [tb_one c3] at T
          have HR : Hid (lowB X s = true) := by
            refine decide_eq_true ?_
            intro z
            have a := low_mono z (show k + 1 ≤ s by omega)
            rw [low_step HK.out, c3, Nat.mul_one] at a
            have : 0 < 2 ^ k := Nat.pow_pos (by omega)
            omega
          clear c3
          go_wp2_with fail
          refine T.mono ?_
          rintro e w ⟨rfl, rfl⟩
          go_wp2
          go_ret
          exact ⟨by rw [HR.out]; rfl, rfl⟩
        · rw [tb_none c3] at T
          have HR : Hid (X % 2 ^ (k + 1) = 0) := by
            show _ = _
            rw [low_step HK.out, show X / 2 ^ k % 2 = 0 by omega, Nat.mul_zero]
          clear c3
          go_wp2_with fail
          refine T.mono ?_
          rintro e w ⟨rfl, rfl⟩
          go_wp2
          go_round
          case rel => exact ⟨k + 1, by go_num, by omega, by omega, HR⟩
          case measure => simp [intOf]; omega
      · have c2' : ¬ (k : Int) < 32 * (n : Int) := by omega
        have HR : Hid (lowB X s = false) := by
          refine decide_eq_false ?_
          intro z
          apply z
          have e : k = 32 * n := by omega
          have a := HK.out
          rw [e, Nat.mod_eq_of_lt HL.out] at a
          rw [a, Nat.zero_mod]
        go_wp2
        go_ret
        exact ⟨by rw [HR.out]; rfl, rfl⟩
    · have c1' : ¬ (k : Int) < (s : Int) := by omega
      have HR : Hid (lowB X s = false) := by
        refine decide_eq_false ?_
        intro z
        apply z
        have e : k = s := by omega
        rw [← e]; exact HK.out
      go_wp2
      go_ret
      exact ⟨by rw [HR.out]; rfl, rfl⟩

theorem made_dV (q : Nat) : (madeCells #[.int .u32 0] q).toList = dV .u32 (fun _ => 0) q := by
  apply List.ext_getElem?
  intro i
  by_cases h : i < q
  · rw [dV_get h]; simp [madeCells, h, Nat.mod_one]
  · simp [madeCells, dV, h]

theorem up_or {x z p : Nat} (hx : x < Big.B) (hp : p < 32) (hz : z < 2 ^ p) : bits .or .u64 (z : Int) (IntKind.u64.wrap ((x : Int) * 2 ^ p)) = ((x * 2 ^ p + z : Nat) : Int) ∧ x * 2 ^ p + z < B := by
  have e := up_lo (x := x) (z := z) (p := p) (by omega) hz
  have h1 : x * 2 ^ p + z < B := by
    have a : (x + 1) * 2 ^ p ≤ Big.B * 2 ^ p := Nat.mul_le_mul_right _ hx
    have b : Big.B * 2 ^ p ≤ Big.B * Big.B := Nat.mul_le_mul_left _ (by rw [D_two]; exact Nat.pow_le_pow_right (by omega) (by omega))
    rw [← BB] at b
    rw [Nat.add_mul, Nat.one_mul] at a
    omega
  rw [Nat.mod_eq_of_lt (by omega)] at e
  exact ⟨e, h1⟩
theorem upB_gen {v z P a x t s d r q : Nat} (hv : v + z * P = a * s) (e : d * q + r = x * t + z) : v + r * P + q * (P * d) = a * s + x * (t * P) := by
  have h : r * P + q * (P * d) = (d * q + r) * P := by grind
  rw [e] at h
  grind

set_option maxRecDepth 100000 in
set_option maxHeartbeats 2000000 in
theorem up_big {w : World} {ao : Option Addr} {n c b o : Nat} {f : Nat → Nat} (S : Big.Sl w ao n c b o f) (h0 : 0 < n) (hn : n ≤ 1000) (s q p : Nat) (hsq : s = 32 * q + p) (hp : p < 32) (hq : q ≤ 1000) :
    Calls Tryd.prog 64 #[.slice ao n c, .int .i64 (s : Int)] w fun e w' => ∃ v, e = .returned v ∧ Big.NewV w' w.heap.size v (Big.V f n * 2 ^ s) ∧ Below w.heap.size w w' := by
  obtain ⟨i0, hi, hz0, hz1, hz2⟩ := info_parts Big.info_u32
  have hmk := run_make_row' (P := Tryd.prog) 78 116 (.int .u32 0) 4 Big.und_big Big.info_u32 rfl .i64 .i64 q (by omega) (by omega)
  have HS : Hid (Big.Sl w ao n c b o f) := S
  obtain rfl := S.addr h0
  have hz : ((n : Int) == 0) = false := beq_eq_false_iff_ne.mpr (by omega)
  have d1 : (s : Int) / 32 = (q : Int) := by omega
  have d2 : (s : Int) % 32 = (p : Int) := by omega
  have d3 : (s : Int).tdiv 32 = (q : Int) := by rw [Int.tdiv_eq_ediv_of_nonneg (by omega)]; exact d1
  have d4 : (s : Int).tmod 32 = (p : Int) := by rw [Int.tmod_eq_emod_of_nonneg (by omega)]; exact d2
  have hs : s ≤ 33000 := by omega
  have HQ : Hid (s = 32 * q + p) := hsq
  clear S hsq
  go_enter Tryd.func64, Tryd.ntmps64
  go_wp2
  go_loopw [5, 6, 7] (fun v cy i wr => ∃ (k z : Nat) (F : Nat → Nat), cy = .int .u64 (z : Int) ∧ i = .int .i64 (k : Int) ∧ k ≤ n ∧ Hid (z < 2 ^ p) ∧ z < 4294967296 ∧ Big.Ws F ∧ wr.ownsRow w.heap.size 116 1 v (q + k) (dV .u32 F (q + k)) ∧ Below w.heap.size w wr ∧ Hid (Big.V F (q + k) + z * Big.B ^ (q + k) = Big.V f k * 2 ^ s)) (fun _ _ i _ => n - (intOf i).toNat)
  case atStart =>
    refine ⟨0, 0, fun _ => 0, rfl, rfl, Nat.zero_le _, (Nat.pow_pos (by omega) : 0 < 2 ^ p), by omega, fun _ => Big.B_pos, ?_, (Below.refl _ _).alloc (Nat.le_refl _) _, ?_⟩
    · have q1 := World.ownsRow_lit (base := w.heap.size) (e := 116) (size := 1) w (madeCells #[.int .u32 0] q) q (Nat.le_refl _) (by unfold maxLen; omega) (by simp [madeCells])
      rw [made_dV] at q1
      exact q1
    · show Big.V (fun _ => 0) (q + 0) + 0 * _ = Big.V f 0 * _
      rw [Big.V_nought, Big.V_zero]; omega
  case round =>
    obtain ⟨k, z, F, rfl, rfl, hk, HZ, hz2', hF, hown, hbl, HV⟩ := hrel
    have hsz := hbl.size
    by_cases c1 : k < n
    · have hc := (HS.out.below hbl).cell k c1
      have hxB := HS.out.ws k
      obtain ⟨o1, o2⟩ := up_or hxB hp HZ.out
      unfold Big.B at hxB
      have dm := Nat.div_add_mod (f k * 2 ^ p + z) Big.B
      have HST : Hid (Big.V F (q + k) + (f k * 2 ^ p + z) % Big.B * Big.B ^ (q + k) + (f k * 2 ^ p + z) / Big.B * (Big.B ^ (q + k) * Big.B) = Big.V f (k + 1) * 2 ^ s) := by
        show _ = _
        have g := upB_gen (P := Big.B ^ (q + k)) HV.out dm
        rw [g, Big.V_succ, Nat.add_mul, HQ.out, D_pow, D_pow]
        congr 1
        rw [Nat.mul_assoc (f k), ← Nat.pow_add, ← Nat.pow_add]
        congr 2
        omega
      have hqz : Hid ((f k * 2 ^ p + z) / Big.B < 2 ^ p) := by
        show _ < _
        rw [Nat.div_lt_iff_lt_mul Big.B_pos]
        have a : (f k + 1) * 2 ^ p ≤ Big.B * 2 ^ p := Nat.mul_le_mul_right _ (HS.out.ws k)
        rw [Nat.add_mul, Nat.one_mul] at a
        have := HZ.out
        rw [Nat.mul_comm (2 ^ p) Big.B]
        omega
      have hq4 : (f k * 2 ^ p + z) / Big.B < 4294967296 := half_lt o2
      have hr : (f k * 2 ^ p + z) % Big.B < Big.B := Nat.mod_lt _ Big.B_pos
      have e1 := lo32 (f k * 2 ^ p + z)
      have e2 : ((f k * 2 ^ p + z : Nat) : Int) / 4294967296 = (((f k * 2 ^ p + z) / Big.B : Nat) : Int) := by unfold Big.B; omega
      generalize (f k * 2 ^ p + z) % Big.B = r at *
      generalize (f k * 2 ^ p + z) / Big.B = q2 at *
      generalize f k * 2 ^ p + z = y at *
      clear dm
      unfold B at o2
      go_wp2_with (first
        | (at_builtin; refine wpList_append_own _ rfl _ _ 78 rfl w.heap.size 116 i0 (.int .u32 0) 1 4 Big.und_big hi hz0 hz1 hz2 rfl (by decide) _ _ _ rfl (hown.alloc _) ⟨wr.heap.size, 0, none⟩ 1 1 [.int .u32 (r : Int)] rfl rfl (World.news_of_block (cs := #[.int .u32 (r : Int)]) (t := 116) (fr := (0, 0)) (heap_alloc_new wr _)) (by simp [Value.oneCell']) (by unfold maxLen; omega) (by omega) (by rw [World.size_alloc]; omega) ?_)
        | go_in)
      intro v' w3 hown' hgrow hnil
      have hb3 : Below w.heap.size w w3 := (hbl.alloc (by omega) _).grown hgrow (by rw [World.size_alloc]; omega) (fun q hq => (hown.lt q hq).1)
      have HO3 : Hid (w3.ownsRow w.heap.size 116 1 v' (q + (k + 1)) (dV .u32 (Big.put F (q + k) r) (q + (k + 1))) ∧ Below w.heap.size w w3) := ⟨by rw [← Nat.add_assoc, dV_put]; exact hown', hb3⟩
      clear hown' hb3 hgrow hnil hown hbl
      go_wp2
      go_roundw
      case rel =>
        refine ⟨k + 1, q2, Big.put F (q + k) r, rfl, by go_num, by omega, hqz, hq4, Big.put_Ws hF hr, HO3.out.1, HO3.out.2, ?_⟩
        show _ = _
        rw [← Nat.add_assoc, V_putB, Nat.pow_succ]
        exact HST.out
      case measure => simp [intOf]; omega
    · obtain rfl : k = n := by omega
      have e1 : IntKind.u32.wrap (z : Int) = (z : Int) := by rw [IntKind.wrap_u32]; omega
      have HE : Hid (Big.V (Big.put F (q + k) z) (q + k + 1) = Big.V f k * 2 ^ s) := by
        show _ = _
        rw [V_putB, HV.out]
      have hw : Big.Ws (Big.put F (q + k) z) := Big.put_Ws hF (by unfold Big.B; omega)
      go_wp2_with (first
        | (at_builtin; refine wpList_append_own _ rfl _ _ 78 rfl w.heap.size 116 i0 (.int .u32 0) 1 4 Big.und_big hi hz0 hz1 hz2 rfl (by decide) _ _ _ rfl (hown.alloc _) ⟨wr.heap.size, 0, none⟩ 1 1 [.int .u32 (z : Int)] rfl rfl (World.news_of_block (cs := #[.int .u32 (z : Int)]) (t := 116) (fr := (0, 0)) (heap_alloc_new wr _)) (by simp [Value.oneCell']) (by unfold maxLen; omega) (by omega) (by rw [World.size_alloc]; omega) ?_)
        | go_in)
      intro v' w3 hown' hgrow hnil
      have hb3 : Below w.heap.size w w3 := (hbl.alloc (by omega) _).grown hgrow (by rw [World.size_alloc]; omega) (fun q hq => (hown.lt q hq).1)
      rw [← dV_put] at hown'
      obtain ⟨ao', c', b', rfl, S3, hnw⟩ := Big.own_sl hown' hw
      have T := Big.trim_any S3
      have NV := S3.trimmedN hnw
      clear hnw
      rw [HE.out] at NV
      clear hown' hgrow hnil hown hbl
      go_wp2_with fail
      refine T.mono ?_
      rintro e wa ⟨rfl, rfl⟩
      go_wp2
      go_ret
      exact ⟨_, rfl, NV, hb3⟩
theorem up_new {w : World} {va : Value} {X : Nat} (ha : Big.NatV w va X) (hX : Fits 1000 X) (s : Nat) (hs : s ≤ 32000) :
    Calls Tryd.prog 64 #[va, .int .i64 (s : Int)] w fun e w' => ∃ v, e = .returned v ∧ Big.NewV w' w.heap.size v (X * 2 ^ s) ∧ Below w.heap.size w w' := by
  obtain ⟨ao, n, c, b, o, f, rfl, S, t, rfl⟩ := ha
  have hn := big_len t hX
  by_cases h0 : n = 0
  · subst h0
    rw [show Big.V f 0 * 2 ^ s = 0 by rw [Big.V_zero, Nat.zero_mul]]
    clear S t hX
    go_enter Tryd.func64, Tryd.ntmps64
    go_wp2
    go_ret
    exact ⟨_, rfl, Big.newv_nil _ _, Below.refl _ _⟩
  · exact up_big S (by omega) hn s (s / 32) (s % 32) (by omega) (by omega) (by omega)

theorem up_any {w : World} {va : Value} {X : Nat} (ha : Big.NatV w va X) (hX : Fits 1000 X) (s : Nat) (hs : s ≤ 32000) :
    Calls Tryd.prog 64 #[va, .int .i64 (s : Int)] w fun e w' => ∃ v, e = .returned v ∧ Big.NatV w' v (X * 2 ^ s) ∧ Below w.heap.size w w' :=
  (up_new ha hX s hs).mono fun _ _ ⟨v, e, n, b⟩ => ⟨v, e, n.nat, b⟩

set_option maxRecDepth 100000 in
set_option maxHeartbeats 2000000 in
theorem down_big {w : World} {ao : Option Addr} {n c b o : Nat} {f : Nat → Nat} (S : Big.Sl w ao n c b o f) (hn : n ≤ 1000) (s q p : Nat) (hsq : s = 32 * q + p) (hp : p < 32) (hq : q < n) :
    Calls Tryd.prog 66 #[.slice ao n c, .int .i64 (s : Int)] w fun e w' => ∃ v, e = .returned v ∧ Big.NewV w' w.heap.size v (Big.V f n / 2 ^ s) ∧ Below w.heap.size w w' := by
  obtain ⟨i0, hi, hz0, hz1, hz2⟩ := info_parts Big.info_u32
  have HS : Hid (Big.Sl w ao n c b o f) := S
  obtain rfl := S.addr (by omega)
  have d1 : (s : Int) / 32 = (q : Int) := by omega
  have d2 : (s : Int) % 32 = (p : Int) := by omega
  have d3 : (s : Int).tdiv 32 = (q : Int) := by rw [Int.tdiv_eq_ediv_of_nonneg (by omega)]; exact d1
  have d4 : (s : Int).tmod 32 = (p : Int) := by rw [Int.tmod_eq_emod_of_nonneg (by omega)]; exact d2
  have hs : s ≤ 33000 := by omega
  have hlt : ¬ 32 * (n : Int) ≤ (s : Int) := by omega
  have HQ : Hid (s = 32 * q + p) := hsq
  obtain ⟨Y, hY⟩ : ∃ Y, Y = Big.V f n / 2 ^ s := ⟨_, rfl⟩
  have HY : Hid (Y = Big.V f n / 2 ^ s) := hY
  rw [← hY]
  clear S hsq hY
  go_enter Tryd.func66, Tryd.ntmps66
  go_wp2
  go_loopw [5, 6] (fun v i wr => ∃ k : Nat, i = .int .i64 ((q + k : Nat) : Int) ∧ q + k ≤ n ∧ wr.ownsRow w.heap.size 116 1 v k (dV .u32 (dg Y) k) ∧ Below w.heap.size w wr) (fun _ i _ => n - (intOf i).toNat)
  case atStart => exact ⟨0, by go_num, by omega, World.ownsRow_nil _ _ _ _, Below.refl _ _⟩
  case round =>
    obtain ⟨k, rfl, hk, hown, hbl⟩ := hrel
    have hsz := hbl.size
    by_cases c1 : q + k < n
    · have hc := (HS.out.below hbl).cell (q + k) c1
      have hf1 := HS.out.ws (q + k)
      have hf2 := HS.out.ws (q + k + 1)
      have hd := down_at HS.out.ws c1 hp
      rw [← HQ.out, ← HY.out] at hd
      by_cases c2 : q + k + 1 < n
      · have hc' := (HS.out.below hbl).cell (q + k + 1) c2
        rw [cut_in c2] at hd
        have hor := pair_or hf1 hf2
        have hpl := pair_lt hf1 hf2
        have sh : ((f (q + k) + f (q + k + 1) * Big.B : Nat) : Int) / 2 ^ p = (((f (q + k) + f (q + k + 1) * Big.B) / 2 ^ p : Nat) : Int) := by rw [Int.natCast_ediv]; simp
        have e1 := lo32 ((f (q + k) + f (q + k + 1) * Big.B) / 2 ^ p)
        unfold Big.B at hf1 hf2
        unfold B at hpl
        have HD := (show Hid _ from hd)
        clear hd
        generalize (f (q + k) + f (q + k + 1) * Big.B) / 2 ^ p % Big.B = r at *
        generalize (f (q + k) + f (q + k + 1) * Big.B) / 2 ^ p = y2 at *
        generalize f (q + k) + f (q + k + 1) * Big.B = y at *
        generalize hj : q + k = j at *
        go_wp2_with (first
          | (at_builtin; refine wpList_append_own _ rfl _ _ 78 rfl w.heap.size 116 i0 (.int .u32 0) 1 4 Big.und_big hi hz0 hz1 hz2 rfl (by decide) _ _ _ rfl (hown.alloc _) ⟨wr.heap.size, 0, none⟩ 1 1 [.int .u32 (r : Int)] rfl rfl (World.news_of_block (cs := #[.int .u32 (r : Int)]) (t := 116) (fr := (0, 0)) (heap_alloc_new wr _)) (by simp [Value.oneCell']) (by unfold maxLen; omega) (by omega) (by rw [World.size_alloc]; omega) ?_)
          | go_in)
        intro v' w3 hown' hgrow hnil
        have hb3 : Below w.heap.size w w3 := (hbl.alloc (by omega) _).grown hgrow (by rw [World.size_alloc]; omega) (fun q hq => (hown.lt q hq).1)
        have HO3 : Hid (w3.ownsRow w.heap.size 116 1 v' (k + 1) (dV .u32 (dg Y) (k + 1)) ∧ Below w.heap.size w w3) := ⟨by rw [dV_succ, HD.out]; exact hown', hb3⟩
        clear hown' hb3 hgrow hnil hown hbl
        go_wp2
        go_roundw
        case rel => exact ⟨k + 1, by go_num, by omega, HO3.out.1, HO3.out.2⟩
        case measure => simp [intOf]; omega
      · rw [cut_out c2, Nat.zero_mul, Nat.add_zero] at hd
        have sh : ((f (q + k) : Nat) : Int) / 2 ^ p = ((f (q + k) / 2 ^ p : Nat) : Int) := by rw [Int.natCast_ediv]; simp
        have e1 := lo32 (f (q + k) / 2 ^ p)
        unfold Big.B at hf1 hf2
        have HD := (show Hid _ from hd)
        clear hd
        generalize f (q + k) / 2 ^ p % Big.B = r at *
        generalize f (q + k) / 2 ^ p = y2 at *
        generalize f (q + k) = y at *
        generalize hj : q + k = j at *
        go_wp2_with (first
          | (at_builtin; refine wpList_append_own _ rfl _ _ 78 rfl w.heap.size 116 i0 (.int .u32 0) 1 4 Big.und_big hi hz0 hz1 hz2 rfl (by decide) _ _ _ rfl (hown.alloc _) ⟨wr.heap.size, 0, none⟩ 1 1 [.int .u32 (r : Int)] rfl rfl (World.news_of_block (cs := #[.int .u32 (r : Int)]) (t := 116) (fr := (0, 0)) (heap_alloc_new wr _)) (by simp [Value.oneCell']) (by unfold maxLen; omega) (by omega) (by rw [World.size_alloc]; omega) ?_)
          | go_in)
        intro v' w3 hown' hgrow hnil
        have hb3 : Below w.heap.size w w3 := (hbl.alloc (by omega) _).grown hgrow (by rw [World.size_alloc]; omega) (fun q hq => (hown.lt q hq).1)
        have HO3 : Hid (w3.ownsRow w.heap.size 116 1 v' (k + 1) (dV .u32 (dg Y) (k + 1)) ∧ Below w.heap.size w w3) := ⟨by rw [dV_succ, HD.out]; exact hown', hb3⟩
        clear hown' hb3 hgrow hnil hown hbl
        go_wp2
        go_roundw
        case rel => exact ⟨k + 1, by go_num, by omega, HO3.out.1, HO3.out.2⟩
        case measure => simp [intOf]; omega
    · have hkn : k = n - q := by omega
      obtain ⟨ao', c', b', rfl, S3, hnw⟩ := Big.own_sl hown (dg_Ws Y)
      have T := Big.trim_any S3
      have NV := S3.trimmedN hnw
      clear hnw
      have hfit := down_fits (p := p) HS.out.ws hq
      rw [← HQ.out, ← HY.out, ← hkn] at hfit
      rw [dg_V, Nat.mod_eq_of_lt hfit] at NV
      clear hown hkn hfit
      generalize hj : q + k = j at *
      go_wp2_with fail
      refine T.mono ?_
      rintro e wa ⟨rfl, rfl⟩
      go_wp2
      go_ret
      exact ⟨_, rfl, NV, hbl⟩
theorem down_new {w : World} {va : Value} {X : Nat} (ha : Big.NatV w va X) (hX : Fits 1000 X) (s : Nat) :
    Calls Tryd.prog 66 #[va, .int .i64 (s : Int)] w fun e w' => ∃ v, e = .returned v ∧ Big.NewV w' w.heap.size v (X / 2 ^ s) ∧ Below w.heap.size w w' := by
  obtain ⟨ao, n, c, b, o, f, rfl, S, t, rfl⟩ := ha
  have hn := big_len t hX
  by_cases h0 : 32 * n ≤ s
  · have hz : Big.V f n / 2 ^ s = 0 := by
      refine Nat.div_eq_of_lt (Nat.lt_of_lt_of_le (Big.V_lt S.ws n) ?_)
      rw [D_pow]
      exact Nat.pow_le_pow_right (by omega) h0
    rw [hz]
    have h0' : 32 * (n : Int) ≤ (s : Int) := by omega
    clear S t hX hz
    go_enter Tryd.func66, Tryd.ntmps66
    go_wp2
    go_ret
    exact ⟨_, rfl, Big.newv_nil _ _, Below.refl _ _⟩
  · exact down_big S hn s (s / 32) (s % 32) (by omega) (by omega) (by omega)

theorem down_any {w : World} {va : Value} {X : Nat} (ha : Big.NatV w va X) (hX : Fits 1000 X) (s : Nat) :
    Calls Tryd.prog 66 #[va, .int .i64 (s : Int)] w fun e w' => ∃ v, e = .returned v ∧ Big.NatV w' v (X / 2 ^ s) ∧ Below w.heap.size w w' :=
  (down_new ha hX s).mono fun _ _ ⟨v, e, n, b⟩ => ⟨v, e, n.nat, b⟩

end Go.Proofs.YtkkgancmodhghaaDoor
