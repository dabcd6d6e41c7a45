/-
  What the document's answers of layers 2, 3, 11 and 12 are, as far as layer 14 asks them.
-/
import Derived.Test.YtfoaeholbidngaaGreatDoorEx3b
namespace Go.Proofs.YtfoaeholbidngaaGreatDoor
open Go.RowKit

/-- A size, its sign's bit, its infinity's bits, the fraction's bits, the exponents, the least float's exponent. -/
def Fz (s : Int) (g n f T : Nat) (L : Int) : Prop :=
  (s = 32 ∧ g = 2147483648 ∧ n = 2139095040 ∧ f = 23 ∧ T = 255 ∧ L = -149) ∨ (s = 64 ∧ g = 9223372036854775808 ∧ n = 9218868437227405312 ∧ f = 52 ∧ T = 2047 ∧ L = -1074)
/-- A struct of three fields in a block that may be written. -/
structure GrB (W : World) (K : Nat) (a b c : Value) : Prop where
  lt : K < W.heap.size
  a0 : W.cell? ⟨K, 0, none⟩ = some a
  a1 : W.cell? ⟨K, 1, none⟩ = some b
  a2 : W.cell? ⟨K, 2, none⟩ = some c
  f0 : W.frozen? ⟨K, 0, none⟩ = false
  f1 : W.frozen? ⟨K, 1, none⟩ = false
  f2 : W.frozen? ⟨K, 2, none⟩ = false
theorem GrB.step {W W' : World} {K : Nat} {a b c : Value} (h : GrB W K a b c) (hb : Below W.heap.size W W') : GrB W' K a b c := by
  have k := fun o => hb.cell (p := ⟨K, o, none⟩) h.lt
  have j := fun o => hb.frozen (p := ⟨K, o, none⟩) h.lt
  exact ⟨Nat.lt_of_lt_of_le h.lt hb.size, (k 0).trans h.a0, (k 1).trans h.a1, (k 2).trans h.a2, (j 0).trans h.f0, (j 1).trans h.f1, (j 2).trans h.f2⟩
theorem GrB.new (W : World) (a b c : Value) (T : TypeId) : GrB (W.alloc (.cells #[a, b, c] T)) W.heap.size a b c :=
  ⟨by simp, by simp, by simp, by simp, World.frozen?_alloc_new _ _ _ _, World.frozen?_alloc_new _ _ _ _, World.frozen?_alloc_new _ _ _ _⟩
theorem bl_ln (X : Nat) : bl X = ln X := rfl
theorem rformat_32 (w : World) : Calls Tryz.prog 72 #[.int .i64 32] w fun e w' => e = .returned (.tuple #[.int .i64 24, .int .i64 (-149)]) ∧ w' = w := by
  go_enter Tryz.func72, Tryz.ntmps72
  go_wp2
  go_ret2
  exact ⟨rfl, rfl⟩
theorem rformat_64 (w : World) : Calls Tryz.prog 72 #[.int .i64 64] w fun e w' => e = .returned (.tuple #[.int .i64 53, .int .i64 (-1074)]) ∧ w' = w := by
  go_enter Tryz.func72, Tryz.ntmps72
  go_wp2
  go_ret2
  exact ⟨rfl, rfl⟩
theorem rformat_z {s : Int} {g n f T : Nat} {L : Int} (h : Fz s g n f T L) (w : World) : Calls Tryz.prog 72 #[.int .i64 s] w fun e w' => e = .returned (.tuple #[.int .i64 ((f : Int) + 1), .int .i64 L]) ∧ w' = w := by
  rcases h with ⟨rfl, rfl, rfl, rfl, rfl, rfl⟩ | ⟨rfl, rfl, rfl, rfl, rfl, rfl⟩
  · exact rformat_32 w
  · exact rformat_64 w
theorem rinf_z {s : Int} {g n f T : Nat} {L : Int} (h : Fz s g n f T L) (w : World) : Calls Tryz.prog 24 #[.int .i64 s] w fun e w' => e = .returned (.int .u64 ((T * 2 ^ f : Nat) : Int)) ∧ w' = w := by
  rcases h with ⟨rfl, rfl, rfl, rfl, rfl, rfl⟩ | ⟨rfl, rfl, rfl, rfl, rfl, rfl⟩
  · exact rInf_32 w
  · exact rInf_64 w
theorem rpack_z {s : Int} {g n f T : Nat} {L : Int} (h : Fz s g n f T L) (c : Bool) {m : Nat} {p : Int} (hm : m < 18446744073709551616) (m0 : m ≠ 0) (hp : -4000 ≤ p) (w : World) : Calls Tryz.prog 113 #[.agg #[.bool c, .int .i64 2, .int .u64 (m : Int), .int .i64 p], .int .i64 s] w fun e w' => e = .returned (rpV g c (pk f (T : Int) L m p)) ∧ Below w.heap.size w w' := by
  have n0 : ((m : Int) == 0) = false := by simp; omega
  rcases h with ⟨rfl, rfl, rfl, rfl, rfl, rfl⟩ | ⟨rfl, rfl, rfl, rfl, rfl, rfl⟩
  · by_cases q : 4000 < p
    · rw [show (((255 : Nat) : Int)) = 255 from rfl, pk_high (f := 23) (t := 255) (L := (-149)) (by decide) m0 (by omega)]
      exact rpk_far2_32 c n0 (by omega) q w
    · exact rpk_fine_32 c hm m0 (by omega) q w
  · by_cases q : 4000 < p
    · rw [show (((2047 : Nat) : Int)) = 2047 from rfl, pk_high (f := 52) (t := 2047) (L := (-1074)) (by decide) m0 (by omega)]
      exact rpk_far2_64 c n0 (by omega) q w
    · exact rpk_fine_64 c hm m0 (by omega) q w
theorem big_slice {w : World} {v : Value} {X : Nat} (h : Big.NatV w v X) : ∃ ao n c, v = .slice ao n c ∧ (n = 0 ↔ X = 0) := by
  obtain ⟨ao, n, c, b, o, f, rfl, S, t, rfl⟩ := h
  refine ⟨ao, n, c, rfl, ⟨fun z => by subst z; rfl, fun z => ?_⟩⟩
  apply Nat.eq_zero_of_not_pos
  intro p
  have a := Big.Top_ge t p
  have := Nat.pow_pos (n := n - 1) Big.B_pos
  omega
theorem fits_shl {k X s : Nat} (h : Fits k X) : Fits (k + (s / 32 + 1)) (X * 2 ^ s) := h.mul (two_fits (by omega))
theorem bel_up {X Y : Nat} {E : Int} (h : 0 ≤ E) {e : Nat} (he : E = (e : Int)) : belB X Y E = decide (X < Y * 2 ^ e) := by
  subst he
  unfold belB
  rw [show (-(e : Int)).toNat = 0 from by omega, Int.toNat_natCast, Nat.pow_zero, Nat.mul_one]
theorem bel_dn {X Y : Nat} {E : Int} {e : Nat} (he : E = -(e : Int)) : belB X Y E = decide (X * 2 ^ e < Y) := by
  subst he
  unfold belB
  rw [show (-(e : Int)).toNat = 0 from by omega, show (- -(e : Int)).toNat = e from by omega, Nat.pow_zero, Nat.mul_one]
theorem ord_lt_iff (X Y : Nat) : decide (ord X Y < 0) = decide (X < Y) := by
  unfold ord
  rcases Nat.lt_trichotomy X Y with c | c | c
  · simp [c]
  · subst c; simp
  · simp [Nat.not_lt_of_lt c, c]
set_option maxRecDepth 100000 in
set_option maxHeartbeats 1000000 in
theorem rbelow_ok {w : World} {vn vd : Value} {X Y : Nat} {E : Int} (hn : Big.NatV w vn X) (hd : Big.NatV w vd Y) (fX : Fits 300 X) (fY : Fits 300 Y) (h0 : -9000 ≤ E) (h1 : E ≤ 9000) : Calls Tryz.prog 109 #[vn, vd, .int .i64 E] w fun e w' => e = .returned (.bool (belB X Y E)) ∧ Below w.heap.size w w' := by
  by_cases c : 0 ≤ E
  · obtain ⟨k, rfl⟩ : ∃ k : Nat, E = (k : Int) := ⟨E.toNat, by omega⟩
    rw [bel_up c rfl, ← ord_lt_iff]
    obtain ⟨q, hq⟩ : ∃ q, ord X (Y * 2 ^ k) = q := ⟨_, rfl⟩
    rw [hq]
    have HQ : Hid _ := hq
    have T := up_any hd (fY.up (by omega)) k (by omega)
    have H0 : Hid (Big.NatV w vn X) := hn
    clear hn hd fX fY h0 h1 c hq
    go_enter Tryz.func109, Tryz.ntmps109
    go_wp2_with fail
    refine T.mono ?_
    rintro e w1 ⟨v, rfl, n1, b1⟩
    have T2 := bcmp_nat (H0.out.below b1) n1
    have B1 : Hid (Below w.heap.size w w1) := b1
    rw [HQ.out] at T2
    clear n1 b1 T
    go_wp2_with fail
    refine T2.mono ?_
    rintro e w2 ⟨rfl, b2⟩
    have B2 : Hid (Below w.heap.size w w2) := B1.out.trans (b2.mono B1.out.size)
    clear b2 T2
    go_wp2
    go_ret
    exact ⟨rfl, B2.out⟩
  · obtain ⟨k, ek⟩ : ∃ k : Nat, (k : Int) = -E := ⟨(-E).toNat, by omega⟩
    rw [bel_dn (e := k) (by omega), ← ord_lt_iff]
    obtain ⟨q, hq⟩ : ∃ q, ord (X * 2 ^ k) Y = q := ⟨_, rfl⟩
    rw [hq]
    have HQ : Hid _ := hq
    have T := up_any hn (fX.up (by omega)) k (by omega)
    rw [ek] at T
    have H0 : Hid (Big.NatV w vd Y) := hd
    have k0 : E < 0 := by omega
    clear hn hd fX fY h1 c ek hq
    go_enter Tryz.func109, Tryz.ntmps109
    go_wp2_with fail
    refine T.mono ?_
    rintro e w1 ⟨v, rfl, n1, b1⟩
    have T2 := bcmp_nat n1 (H0.out.below b1)
    have B1 : Hid (Below w.heap.size w w1) := b1
    rw [HQ.out] at T2
    clear n1 b1 T
    go_wp2_with fail
    refine T2.mono ?_
    rintro e w2 ⟨rfl, b2⟩
    have B2 : Hid (Below w.heap.size w w2) := B1.out.trans (b2.mono B1.out.size)
    clear b2 T2
    go_wp2
    go_ret
    exact ⟨rfl, B2.out⟩
set_option maxRecDepth 100000 in
set_option maxHeartbeats 1000000 in
theorem rfrac_ok {s : Int} {g n f T : Nat} {L : Int} (hz : Fz s g n f T L) {w : World} {vn vd : Value} {X Y : Nat} {e : Int} (more : Bool) (hn : Big.NatV w vn X) (hd : Big.NatV w vd Y) (fX : Fits 256 X) (fY : Fits 256 Y) (x0 : X ≠ 0) (y0 : Y ≠ 0) (h0 : -20000 ≤ e) (h1 : e ≤ 20000) : Calls Tryz.prog 79 #[.int .i64 s, vn, vd, .int .i64 e, .bool more] w fun x w' => x = .returned (.tuple #[.int .u64 (((rdA f T L X Y e more).1 : Nat) : Int), .bool (rdA f T L X Y e more).2]) ∧ Below w.heap.size w w' := by
  have HF := fun W => rformat_z hz W
  have L1 := length_nat hn (fX.up (by omega))
  have L2 := length_nat hd (fY.up (by omega))
  have bX := bl_fits fX
  have bY := bl_fits fY
  have TB := rbelow_ok (E := (bl X : Int) - (bl Y : Int)) hn hd (fX.up (by omega)) (fY.up (by omega)) (by omega) (by omega)
  obtain ⟨E, hE⟩ : ∃ E, fE X Y = E := ⟨_, rfl⟩
  have eE : (belB X Y ((bl X : Int) - (bl Y : Int)) = true ∧ (bl X : Int) - (bl Y : Int) - 1 = E) ∨ (belB X Y ((bl X : Int) - (bl Y : Int)) = false ∧ (bl X : Int) - (bl Y : Int) = E) := by
    rw [← hE]
    unfold fE
    rw [bl_ln, bl_ln]
    cases h : belB X Y ((ln X : Int) - (ln Y : Int))
    · right; exact ⟨rfl, by simp⟩
    · left; exact ⟨rfl, by simp⟩
  have E0 : -8193 ≤ E ∧ E ≤ 8192 := by omega
  have H0 : Hid (Big.NatV w vn X ∧ Big.NatV w vd Y ∧ Fits 256 X ∧ Fits 256 Y ∧ X ≠ 0 ∧ Y ≠ 0 ∧ fE X Y = E ∧ Fz s g n f T L) := ⟨hn, hd, fX, fY, x0, y0, hE, hz⟩
  have hL : -1074 ≤ L ∧ L ≤ 0 ∧ f ≤ 52 := by rcases hz with ⟨_, _, _, h, _, h'⟩ | ⟨_, _, _, h, _, h'⟩ <;> omega
  obtain ⟨hL1, hL2, hf⟩ := hL
  obtain ⟨E1, E2⟩ := E0
  have HE : Hid _ := eE
  clear hn hd fX fY x0 y0 hE eE hz
  generalize bl X = N at *
  generalize bl Y = M at *
  generalize belB X Y ((N : Int) - (M : Int)) = q at *
  go_enter Tryz.func79, Tryz.ntmps79
  go_wp2_with fail
  refine (HF _).mono ?_
  rintro x w1 ⟨rfl, rfl⟩
  go_wp2_with fail
  refine L1.mono ?_
  rintro x w2 ⟨rfl, rfl⟩
  go_wp2_with fail
  refine L2.mono ?_
  rintro x w3 ⟨rfl, rfl⟩
  clear L1 L2 HF
  go_wp2_with fail
  refine TB.mono ?_
  rintro x w4 ⟨rfl, b4⟩
  have B4 : Hid (Below w3.heap.size w3 w4) := b4
  clear b4 TB
  go_upto_if 37 with fail
  go_cut [14] (fun u wx => u = .int .i64 E ∧ wx = w4)
  case first =>
    rcases HE.out with ⟨rfl, k⟩ | ⟨rfl, k⟩
    · go_wp2
      go_meet
      exact ⟨rfl, rfl⟩
    · go_wp2
      go_meet
      exact ⟨rfl, rfl⟩
  case rest =>
  clear HE
  obtain ⟨rfl, hcw⟩ := hcut
  subst wc
  go_upto_region 5 with fail
  obtain ⟨l, hl⟩ : ∃ l, max (E + e - f) L = l := ⟨_, rfl⟩
  go_cut [15] (fun u wx => u = .int .i64 l ∧ wx = w4)
  case first =>
    have HL : Hid (max (E + e - f) L = l) := hl
    clear hl
    go_wp2
    all_goals go_meet
    all_goals exact ⟨congrArg (Value.int .i64) (by have := HL.out; omega), rfl⟩
  case rest =>
  obtain ⟨rfl, hcw⟩ := hcut
  subst wc
  have l1 : L ≤ l := by omega
  have l2 : l ≤ 28192 := by omega
  have l3 : e - l ≤ 8245 := by omega
  have l4 : l - e ≤ 20000 := by omega
  have HL : Hid (l = lE' f L X Y e) := by
    show l = _
    unfold lE'
    rw [H0.out.2.2.2.2.2.2.1, hl]
  clear hl
  have fx : Fits 999 (rX X e l) := (fits_shl H0.out.2.2.1).up (by omega)
  have fy : Fits 999 (rY Y e l) := (fits_shl H0.out.2.2.2.1).up (by omega)
  have fr : Fits 990 (rY Y e l) := (fits_shl H0.out.2.2.2.1).up (by omega)
  have FF : Hid (Fits 999 (rX X e l) ∧ Fits 999 (rY Y e l) ∧ Fits 990 (rY Y e l)) := ⟨fx, fy, fr⟩
  clear fx fy fr
  go_upto_if 54 with fail
  go_cut [17, 18] (fun u v wx => Big.NatV wx u (rX X e l) ∧ Big.NatV wx v (rY Y e l) ∧ Below w3.heap.size w3 wx)
  case first =>
    by_cases c : 0 ≤ e - l
    · obtain ⟨k, hk⟩ : ∃ k : Nat, (k : Int) = e - l := ⟨(e - l).toNat, by omega⟩
      have T := up_any (H0.out.1.below B4.out) (H0.out.2.2.1.up (by omega)) k (by omega)
      have e1 : X * 2 ^ k = rX X e l := by unfold rX; rw [← hk, Int.toNat_natCast]
      have e2 : Y = rY Y e l := by unfold rY; rw [show (l - e).toNat = 0 from by omega, Nat.pow_zero, Nat.mul_one]
      rw [hk, e1] at T
      have HE : Hid (Y = rY Y e l) := e2
      clear e1 e2 hk
      go_wp2_with fail
      refine T.mono ?_
      rintro x wa ⟨va, rfl, na, ba⟩
      have N1 : Hid (Big.NatV wa va (rX X e l) ∧ Below w4.heap.size w4 wa) := ⟨na, ba⟩
      clear na ba T
      go_wp2
      go_meet
      exact ⟨N1.out.1, by rw [← HE.out]; exact (H0.out.2.1.below B4.out).below N1.out.2, B4.out.trans (N1.out.2.mono B4.out.size)⟩
    · obtain ⟨k, hk⟩ : ∃ k : Nat, (k : Int) = -(e - l) := ⟨(-(e - l)).toNat, by omega⟩
      have T := up_any (H0.out.2.1.below B4.out) (H0.out.2.2.2.1.up (by omega)) k (by omega)
      have e1 : Y * 2 ^ k = rY Y e l := by unfold rY; rw [show l - e = -(e - l) from by omega, ← hk, Int.toNat_natCast]
      have e2 : X = rX X e l := by unfold rX; rw [show (e - l).toNat = 0 from by omega, Nat.pow_zero, Nat.mul_one]
      rw [hk, e1] at T
      have HE : Hid (X = rX X e l) := e2
      have c' : e - l < 0 := by omega
      clear e1 e2 hk c
      go_wp2_with fail
      refine T.mono ?_
      rintro x wa ⟨va, rfl, na, ba⟩
      have N1 : Hid (Big.NatV wa va (rY Y e l) ∧ Below w4.heap.size w4 wa) := ⟨na, ba⟩
      clear na ba T
      go_wp2
      go_meet
      exact ⟨by rw [← HE.out]; exact (H0.out.1.below B4.out).below N1.out.2, N1.out.1, B4.out.trans (N1.out.2.mono B4.out.size)⟩
  case rest =>
  obtain ⟨n1, n2, b5⟩ := hcut
  have hM : rdM f L X Y e more = rQ more (rX X e l / rY Y e l) (rX X e l % rY Y e l) (rY Y e l) := by unfold rdM; rw [← HL.out]
  have hG := rdM_good (f := f) (L := L) (n := X) (d := Y) e H0.out.2.2.2.2.1 H0.out.2.2.2.2.2.1
  rw [← HL.out] at hG
  have yp : rY Y e l ≠ 0 := Nat.mul_ne_zero H0.out.2.2.2.2.2.1 (Nat.ne_of_gt (Nat.two_pow_pos _))
  have TO := over_wide n1 n2 FF.out.1 FF.out.2.1 yp
  have hr : rX X e l % rY Y e l < rY Y e l := Nat.mod_lt _ (Nat.pos_of_ne_zero yp)
  have B5 : Hid (Below w3.heap.size w3 wc ∧ Big.NatV wc u18 (rY Y e l)) := ⟨b5, n2⟩
  have HM : Hid (rdM f L X Y e more = rQ more (rX X e l / rY Y e l) (rX X e l % rY Y e l) (rY Y e l) ∧ rX X e l / rY Y e l < 2 ^ (f + 1)) := ⟨hM, hG.1⟩
  have FR2 : Hid (Fits 990 (rX X e l % rY Y e l) ∧ Fits 900 (rX X e l / rY Y e l)) := by
    refine ⟨FF.out.2.2.le (Nat.le_of_lt hr), ?_⟩
    have : rX X e l / rY Y e l ≤ 2 ^ 53 := Nat.le_of_lt (Nat.lt_of_lt_of_le hG.1 (Nat.pow_le_pow_right (by omega) (by omega)))
    exact (two_fits (s := 53) (k := 900) (by omega)).le this
  clear n1 n2 b5 hM hG yp hr FF
  generalize rX X e l / rY Y e l = q at *
  generalize rX X e l % rY Y e l = r at *
  generalize rY Y e l = Z at *
  go_wp2_with fail
  refine TO.mono ?_
  rintro x w6 ⟨v1, v2, rfl, n1, n2, b6⟩
  have B6 : Hid (Below w3.heap.size w3 w6 ∧ Big.NatV w6 u18 Z ∧ Big.NatV w6 v1 q) := ⟨B5.out.1.trans (b6.mono B5.out.1.size), B5.out.2.below b6, n1⟩
  have TU := up_any n2 (FR2.out.1.up (by omega)) 1 (by omega)
  rw [show ((1 : Nat) : Int) = 1 from rfl] at TU
  clear n1 n2 b6 TO B5
  go_wp2_with fail
  refine TU.mono ?_
  rintro x w7 ⟨v3, rfl, n3, b7⟩
  have TC := bcmp_nat n3 (B6.out.2.1.below b7)
  have B7 : Hid (Below w3.heap.size w3 w7 ∧ Big.NatV w7 v1 q) := ⟨B6.out.1.trans (b7.mono B6.out.1.size), B6.out.2.2.below b7⟩
  clear n3 b7 TU B6
  have oc : (Z < 2 * r ∧ ord (r * 2 ^ 1) Z = 1) ∨ (2 * r = Z ∧ ord (r * 2 ^ 1) Z = 0) ∨ (2 * r < Z ∧ ord (r * 2 ^ 1) Z = -1) := by
    rw [show r * 2 ^ 1 = 2 * r from by omega]
    unfold ord
    rcases Nat.lt_trichotomy (2 * r) Z with c | c | c
    · right; right; exact ⟨c, by simp [c]⟩
    · right; left; subst c; exact ⟨rfl, by simp⟩
    · left; exact ⟨c, by simp [Nat.not_lt_of_lt c, c]⟩
  generalize ord (r * 2 ^ 1) Z = oz at *
  have HO : Hid _ := oc
  clear oc
  go_wp2_with fail
  refine TC.mono ?_
  rintro x w8 ⟨rfl, b8⟩
  have B8 : Hid (Below w3.heap.size w3 w8 ∧ Big.NatV w8 v1 q) := ⟨B7.out.1.trans (b8.mono B7.out.1.size), B7.out.2.below b8⟩
  clear b8 TC B7
  go_upto_region 13 with fail
  go_cut [84] (fun u wx => u = .bool (rU more q r Z) ∧ wx = w8)
  case first =>
    rcases HO.out with ⟨c, rfl⟩ | ⟨c, rfl⟩ | ⟨c, rfl⟩
    · have e1 : rU more q r Z = true := by unfold rU; rw [decide_eq_true_eq]; exact .inl c
      have E1 : Hid _ := e1
      clear e1 c HO
      go_wp2_with fail
      go_meet
      exact ⟨by rw [E1.out], rfl⟩
    · cases more
      · have e1 : rU false q r Z = tb q 0 := by
          unfold rU tb
          rw [decide_eq_decide]
          simp
          omega
        have E1 : Hid _ := e1
        have TT := bit_any B8.out.2 (FR2.out.2.up (by omega)) 0 (by omega)
        rw [show ((0 : Nat) : Int) = 0 from rfl] at TT
        clear e1 c HO
        go_wp2_with fail
        refine TT.mono ?_
        rintro x w9 ⟨rfl, rfl⟩
        go_wp2_with fail
        go_meet
        exact ⟨by rw [E1.out], rfl⟩
      · have e1 : rU true q r Z = true := by unfold rU; rw [decide_eq_true_eq]; exact .inr ⟨c, .inl rfl⟩
        have E1 : Hid _ := e1
        clear e1 c HO
        go_wp2_with fail
        go_meet
        exact ⟨by rw [E1.out], rfl⟩
    · have e1 : rU more q r Z = false := by unfold rU; rw [decide_eq_false_iff_not]; omega
      have E1 : Hid _ := e1
      clear e1 c HO
      go_wp2_with fail
      go_meet
      exact ⟨by rw [E1.out], rfl⟩
  case rest =>
  obtain ⟨rfl, hcw⟩ := hcut
  subst wc
  clear HO
  have hK : rdM f L X Y e more = q + (if rU more q r Z = true then 1 else 0) := HM.out.1
  have q53 : q < 2 ^ 53 := Nat.lt_of_lt_of_le HM.out.2 (Nat.pow_le_pow_right (by omega) (by omega))
  have fq := FR2.out.2
  go_upto_if 84 with fail
  obtain ⟨K, eK⟩ : ∃ K, rdM f L X Y e more = K := ⟨_, rfl⟩
  have HK : Hid (rdM f L X Y e more = K ∧ K < 18446744073709551616) := by
    refine ⟨eK, ?_⟩
    rw [← eK, hK]
    split <;> omega
  rw [eK] at hK
  clear eK
  go_cut [19] (fun u wx => Big.NatV wx u K ∧ Below w3.heap.size w3 wx)
  case first =>
    generalize rU more q r Z = U at *
    cases U
    · rw [if_neg (by decide), Nat.add_zero] at hK
      have HQ : Hid (K = q) := hK
      clear hK q53 fq
      go_wp2_with fail
      go_meet
      exact ⟨by rw [HQ.out]; exact B8.out.2, B8.out.1⟩
    · rw [if_pos rfl] at hK
      have HQ : Hid (K = q + 1) := hK
      have S1 : ∀ W, Calls Tryz.prog 84 #[.int .u64 1] W fun e w' => ∃ v, e = .returned v ∧ Big.NatV w' v 1 ∧ Below W.heap.size W w' := fun W => small_nat 1 (by unfold B; decide) W
      have FQ : Hid (Fits 900 q) := fq
      clear hK q53 fq
      go_wp2_with fail
      refine (S1 _).mono ?_
      rintro x wa ⟨va, rfl, na, ba⟩
      have TP := plus_any (B8.out.2.below ba) na (FQ.out.up (by omega)) ((two_fits (s := 0) (k := 1) (by omega)).up (by omega))
      have BA : Hid (Below w8.heap.size w8 wa) := ba
      clear na ba
      go_wp2_with fail
      refine TP.mono ?_
      rintro x wb ⟨vb, rfl, nb, bb⟩
      have NB : Hid (Big.NatV wb vb (q + 1) ∧ Below w8.heap.size w8 wb) := ⟨nb, BA.out.trans (bb.mono BA.out.size)⟩
      clear nb bb TP
      go_wp2_with fail
      go_meet
      exact ⟨by rw [HQ.out]; exact NB.out.1, B8.out.1.trans (NB.out.2.mono B8.out.1.size)⟩
  case rest =>
  obtain ⟨nk, bk⟩ := hcut
  have NK : Hid (Big.NatV wc u19 K ∧ Below w3.heap.size w3 wc) := ⟨nk, bk⟩
  clear hK q53 fq B8 HM FR2 nk bk
  obtain ⟨ao, m, cp, rfl, hm0⟩ := big_slice NK.out.1
  have t2 : 2 ≤ T := by rcases H0.out.2.2.2.2.2.2.2 with ⟨_, _, _, _, h, _⟩ | ⟨_, _, _, _, h, _⟩ <;> omega
  have x0 := H0.out.2.2.2.2.1
  have y0 := H0.out.2.2.2.2.2.1
  by_cases k0 : K = 0
  · have m0 : m = 0 := hm0.2 k0
    subst m0
    have hA : rdA f T L X Y e more = (0, false) := by
      obtain ⟨z1, z2⟩ := rdN_zero (T := T) t2 x0 y0 (HK.out.1.trans k0)
      unfold rdA
      rw [if_neg x0, z1, if_pos z2]
    have HA : Hid _ := hA
    clear hA x0 y0 t2 hm0 k0
    go_wp2
    exact bodyPost_ret (v := .tuple #[.int .u64 0, .bool false]) (by simp [results, Tryz.results79, go_sem]) rfl ⟨by rw [HA.out]; rfl, NK.out.2⟩
  · have m0 : ((m : Int) == 0) = false := by
      have : m ≠ 0 := fun z => k0 (hm0.1 z)
      simp; omega
    have TW := bword_nat NK.out.1 HK.out.2
    have hp := rdM_pk (T := T) t2 more x0 y0 (fun z => k0 (HK.out.1.symm.trans z))
    rw [HK.out.1, ← HL.out] at hp
    have TP := fun W => rpack_z H0.out.2.2.2.2.2.2.2 false HK.out.2 k0 (p := l) (by omega) W
    rw [hp] at TP
    have TI := fun W => rinf_z H0.out.2.2.2.2.2.2.2 W
    by_cases c : rdN f L X Y e more < T * 2 ^ f
    · have hA : rdA f T L X Y e more = (rdN f L X Y e more, false) := by unfold rdA; rw [if_neg x0, if_pos c]
      rw [if_pos c] at TP
      have TP2 : ∀ W, Calls Tryz.prog 113 #[.agg #[.bool false, .int .i64 2, .int .u64 (K : Int), .int .i64 l], .int .i64 s] W fun x w' => x = .returned (.tuple #[.int .u64 ((rdN f L X Y e more : Nat) : Int), .int .i64 0]) ∧ Below W.heap.size W w' := TP
      have HA : Hid _ := hA
      clear hA c TP TI hp x0 y0 t2 hm0 k0
      obtain ⟨b, hb⟩ : ∃ b, rdN f L X Y e more = b := ⟨_, rfl⟩
      have HB : Hid _ := hb
      rw [hb] at TP2
      clear hb
      go_wp2_with fail
      refine TW.mono ?_
      rintro x wa ⟨rfl, rfl⟩
      go_wp2_with fail
      refine (TP2 _).mono ?_
      rintro x wb ⟨rfl, bb⟩
      have BB : Hid (Below w3.heap.size w3 wb) := NK.out.2.trans (bb.mono NK.out.2.size)
      clear bb
      go_wp2
      exact bodyPost_ret (v := .tuple #[.int .u64 (b : Int), .bool false]) (by simp [results, Tryz.results79, go_sem]) rfl ⟨by rw [HA.out, HB.out], BB.out⟩
    · have hA : rdA f T L X Y e more = (T * 2 ^ f, true) := by unfold rdA; rw [if_neg x0, if_neg c]
      rw [if_neg c] at TP
      have TP2 : ∀ W, Calls Tryz.prog 113 #[.agg #[.bool false, .int .i64 2, .int .u64 (K : Int), .int .i64 l], .int .i64 s] W fun x w' => x = .returned (.tuple #[.int .u64 0, .int .i64 4]) ∧ Below W.heap.size W w' := TP
      have HA : Hid _ := hA
      clear hA c TP hp x0 y0 t2 hm0 k0
      obtain ⟨b, hb⟩ : ∃ b, T * 2 ^ f = b := ⟨_, rfl⟩
      have HB : Hid _ := hb
      rw [hb] at TI
      clear hb
      go_wp2_with fail
      refine TW.mono ?_
      rintro x wa ⟨rfl, rfl⟩
      go_wp2_with fail
      refine (TP2 _).mono ?_
      rintro x wb ⟨rfl, bb⟩
      have BB : Hid (Below w3.heap.size w3 wb) := NK.out.2.trans (bb.mono NK.out.2.size)
      clear bb
      go_wp2_with fail
      refine (TI _).mono ?_
      rintro x wd ⟨rfl, rfl⟩
      go_wp2
      exact bodyPost_ret (v := .tuple #[.int .u64 (b : Int), .bool true]) (by simp [results, Tryz.results79, go_sem]) rfl ⟨by rw [HA.out, HB.out], BB.out⟩
end Go.Proofs.YtfoaeholbidngaaGreatDoor
