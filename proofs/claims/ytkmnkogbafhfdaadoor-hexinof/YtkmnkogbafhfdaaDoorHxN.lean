/-
  What the document's Nearest of layer 13 answers: a fraction, a hair less or more, rounded with an end, and whether it passed that.
-/
import Derived.Test.YtkmnkogbafhfdaaDoorHxM
import Derived.Test.YtkmnkogbafhfdaaDoorHx3
import Derived.Test.YtkmnkogbafhfdaaDoorHx7
import Derived.Deep.DeepCutAuto
import Derived.Deep.LoopGhost
namespace Go.Proofs.YtkmnkogbafhfdaaDoor
open Go.RowKit

theorem bl_ln (X : Nat) : bl X = ln X := rfl

theorem rfrac_z {s : Int} {g n f T : Nat} {L : Int} (h : Fz s g n f T L) (w : World) : Calls Tryd.prog 47 #[.int .i64 s] w fun e w' => e = .returned (.int .i64 (f : Int)) ∧ w' = w := by
  rcases h with ⟨rfl, rfl, rfl, rfl, rfl, rfl⟩ | ⟨rfl, rfl, rfl, rfl, rfl, rfl⟩
  · exact rfrac_32 w
  · exact rfrac_64 w
theorem rlow_z {s : Int} {g n f T : Nat} {L : Int} (h : Fz s g n f T L) (w : World) : Calls Tryd.prog 49 #[.int .i64 s] w fun e w' => e = .returned (.int .i64 L) ∧ w' = w := by
  rcases h with ⟨rfl, rfl, rfl, rfl, rfl, rfl⟩ | ⟨rfl, rfl, rfl, rfl, rfl, rfl⟩
  · exact rlow_32 w
  · exact rlow_64 w
theorem rsize_z15 {s : Int} {g n f T : Nat} {L : Int} (h : Fz s g n f T L) (w : World) : Calls Tryd.prog 11 #[.int .i64 s] w fun e w' => e = .returned (.bool true) ∧ w' = w := by
  rcases h with ⟨rfl, rfl, rfl, rfl, rfl, rfl⟩ | ⟨rfl, rfl, rfl, rfl, rfl, rfl⟩
  · exact rsize_32 w
  · exact rsize_64 w

/-- The digits of a number below 2^64. -/
theorem two_digits {f : Nat → Nat} {n : Nat} (hf : Big.Ws f) (t : Big.Top f n) (h : Big.V f n < 2 ^ 64) : n ≤ 2 ∧ ∀ k, k < n → Big.V f n / 4294967296 ^ (k + 1) * 4294967296 + f k = Big.V f n / 4294967296 ^ k := by
  have hn : n ≤ 2 := Big.len_le t (by rw [show Big.B ^ 2 = 2 ^ 64 from by decide]; exact h)
  refine ⟨hn, ?_⟩
  have f0 := hf 0
  have f1 := hf 1
  unfold Big.B at f0 f1
  intro k hk
  rcases (by omega : n = 0 ∨ n = 1 ∨ n = 2) with rfl | rfl | rfl
  · omega
  · obtain rfl : k = 0 := by omega
    rw [Big.V_succ, Big.V_zero, show Big.B ^ 0 = 1 from rfl]
    simp only [Nat.zero_add, Nat.pow_one, Nat.pow_zero, Nat.div_one]
    omega
  · rw [Big.V_succ, Big.V_succ, Big.V_zero, show Big.B ^ 0 = 1 from rfl, show Big.B ^ 1 = 4294967296 from rfl]
    rcases (by omega : k = 0 ∨ k = 1) with rfl | rfl
    · simp only [Nat.zero_add, Nat.pow_one, Nat.pow_zero, Nat.div_one]
      omega
    · simp only [Nat.zero_add, Nat.pow_one, show 4294967296 ^ (1 + 1) = 18446744073709551616 from rfl]
      omega
theorem first_digit {f : Nat → Nat} {n : Nat} (h : 0 < n) : f 0 % 2 = Big.V f n % 2 := by
  obtain ⟨m, rfl⟩ : ∃ m, n = m + 1 := ⟨n - 1, by omega⟩
  clear h
  induction m with
  | zero => rw [Big.V_succ, Big.V_zero, show Big.B ^ 0 = 1 from rfl]; omega
  | succ m ih =>
    rw [Big.V_succ, ← Nat.add_mod_mod, ← Nat.mod_add_mod, ← ih]
    have e : f (m + 1) * Big.B ^ (m + 1) % 2 = 0 := by
      rw [Nat.pow_succ, ← Nat.mul_assoc, show Big.B = 2147483648 * 2 from rfl, ← Nat.mul_assoc]
      exact Nat.mul_mod_left _ _
    first
      | (rw [e]; omega)
      | (rw [Nat.mul_comm] at e; rw [e]; omega)
theorem or_digit {x y : Nat} (hx : x < 4294967296) (hy : y < 4294967296) : bits .or .u64 ((y : Int) * 4294967296) (x : Int) = ((y * 4294967296 + x : Nat) : Int) := by
  have e : (y : Int) * 4294967296 = ((y * 2 ^ 32 : Nat) : Int) := by rw [Int.natCast_mul]; rfl
  rw [e, bits_or_u64_nat _ _ (by simp only [Nat.reducePow]; omega) (by omega), Nat.or_comm, or_sum (by simp only [Nat.reducePow]; omega)]
  simp only [Nat.reducePow]
  omega
theorem fits_shl15 {L X s k : Nat} (h : Fits L X) (hs : s < 32 * k) : Fits (L + k) (X * 2 ^ s) := h.mul (two_fits hs)

set_option maxRecDepth 100000 in
set_option maxHeartbeats 1000000 in
theorem dsmall_word (x : Nat) (hx : x < 18446744073709551616) (w : World) :
    Calls Tryd.prog 20 #[.int .u64 (x : Int)] w fun e w' => ∃ v, e = .returned v ∧ Big.D.NatV w' v x ∧ Below w.heap.size w w' := by
  obtain ⟨a, ha⟩ : ∃ a, a = x % 4294967296 := ⟨_, rfl⟩
  obtain ⟨b, hb⟩ : ∃ b, b = x / 4294967296 := ⟨_, rfl⟩
  have e1 : (x : Int) % 4294967296 = (a : Int) := by omega
  have e2 : (x : Int) / 4294967296 = (b : Int) := by omega
  have l1 : a < 4294967296 := by omega
  have l2 : b < 4294967296 := by omega
  have hx2 : x = a + b * 4294967296 := by omega
  clear ha hb
  have S : Big.D.Sl (w.alloc (.cells #[.int .u64 (a : Int), .int .u64 (b : Int)] 24)) (some ⟨w.heap.size, 0, none⟩) 2 2 w.heap.size 0 (fun i => if i = 0 then a else if i = 1 then b else 0) := by
    refine ⟨Nat.le_refl _, by unfold maxLen; omega, fun _ => rfl, fun _ => by simp, fun i hi => ?_, fun i => ?_⟩
    · rcases (by omega : i = 0 ∨ i = 1) with rfl | rfl <;> simp
    · show (if i = 0 then a else if i = 1 then b else 0) < 4294967296
      split
      · exact l1
      · split
        · exact l2
        · decide
  have T := Big.D.trim_any S
  have hV : Big.V (fun i => if i = 0 then a else if i = 1 then b else 0) 2 = x := by
    rw [Big.V_succ, Big.V_succ, Big.V_zero, show Big.B ^ 0 = 1 from rfl, show Big.B ^ 1 = 4294967296 from rfl]
    simp
    omega
  have N := S.trimmed
  rw [hV] at N
  have HN : Hid _ := N
  clear N S hV hx2
  go_enter Tryd.func20, Tryd.ntmps20
  go_wp2_with fail
  refine T.mono ?_
  rintro e wa ⟨rfl, rfl⟩
  go_wp2
  go_ret
  exact ⟨_, rfl, HN.out, (Below.refl _ _).alloc (Nat.le_refl _) _⟩

theorem dlen15 {w : World} {v : Value} {X : Nat} (h : Big.D.NatV w v X) : ∃ ao n c, v = .slice ao n c ∧ (n = 0 ↔ X = 0) ∧ n ≤ maxLen := by
  obtain ⟨ao, n, c, b, o, f, rfl, S, t, rfl⟩ := h
  refine ⟨ao, n, c, rfl, ?_, Nat.le_trans S.le S.cap⟩
  constructor
  · intro z; subst z; rfl
  · intro z
    rcases Nat.eq_zero_or_pos n with q | q
    · exact q
    · have a := Big.Top_ge t q
      have b := Nat.pow_pos (n := n - 1) Big.B_pos
      omega
set_option maxRecDepth 100000 in
set_option maxHeartbeats 1000000 in
theorem near13_zero {s t : Int} {T f : Nat} {L : Int} (hT : 0 < T) {w : World} {vn vd : Value} (hn : Big.D.NatV w vn 0) {d : Nat} (d0 : d ≠ 0) :
    Calls Tryd.prog 35 #[vn, vd, .int .i64 s, .int .i64 t] w fun e w' => ∃ (x : Nat) (ov : Bool), e = .returned (.tuple #[.int .u64 (x : Int), .bool ov]) ∧ NrO f T L 0 d 0 t x ov ∧ Below w.heap.size w w' := by
  obtain ⟨ao, n, c, rfl, hl, _⟩ := dlen15 hn
  obtain rfl := hl.2 rfl
  clear hl hn
  have A : Hid (NrO f T L 0 d 0 t 0 false) := ⟨NrT_nought (Nat.pos_of_ne_zero d0) hT, (decide_eq_false (by have := Nat.mul_pos hT (Nat.two_pow_pos f); omega)).symm⟩
  go_enter Tryd.func35, Tryd.ntmps35
  go_wp2
  go_ret2
  exact ⟨0, false, rfl, A.out, Below.refl _ _⟩

/-- What holds of a place at which it tries. -/
def Qp (f : Nat) (L : Int) (n d : Nat) (q0 q : Int) : Prop := L ≤ q ∧ q0 ≤ q ∧ q ≤ q0 + 1 ∧ (2 ^ f ≤ qN n q / qD d q ∨ q = L) ∧ (q = q0 + 1 → qN n q / qD d q < 2 ^ (f + 1))
theorem Qp.start {f n d : Nat} {L q0 : Int} (n0 : n ≠ 0) (d0 : d ≠ 0) (h : q0 = max ((ln n : Int) - (ln d : Int) - (f + 1)) L) : Qp f L n d q0 q0 := by
  obtain ⟨a, b, _⟩ := q_begin n0 d0 h
  exact ⟨a, Int.le_refl _, by omega, b, fun z => by omega⟩
theorem Qp.bits {f n d : Nat} {L q0 q : Int} (n0 : n ≠ 0) (d0 : d ≠ 0) (h0 : q0 = max ((ln n : Int) - (ln d : Int) - (f + 1)) L) (h : Qp f L n d q0 q) : qN n q / qD d q < 2 ^ (f + 1) ∨ (2 ^ (f + 1) ≤ qN n q / qD d q ∧ q = q0 ∧ Qp f L n d q0 (q + 1)) := by
  obtain ⟨a, b, c, e, g⟩ := h
  rcases Nat.lt_or_ge (qN n q / qD d q) (2 ^ (f + 1)) with z | z
  · exact .inl z
  · have hq : q = q0 := by
      rcases (by omega : q = q0 ∨ q = q0 + 1) with y | y
      · exact y
      · exact absurd (g y) (by omega)
    obtain ⟨k1, k2⟩ := q_next a z
    refine .inr ⟨z, hq, k1, by omega, by omega, .inl k2, fun _ => ?_⟩
    rw [hq]
    exact (q_begin n0 d0 h0).2.2
theorem bl_gt {X k : Nat} : k < bl X ↔ 2 ^ k ≤ X := by
  rw [bl_ln]
  have := ln_iff X k
  constructor
  · intro h
    apply Nat.le_of_not_lt
    intro z
    have := this.2 z
    omega
  · intro h
    apply Nat.lt_of_not_le
    intro z
    have := this.1 z
    omega

set_option maxRecDepth 100000 in
set_option maxHeartbeats 4000000 in
theorem near13_some {s : Int} {g nn f T : Nat} {L : Int} (hz : Fz s g nn f T L) {w : World} {vn vd : Value} {n d : Nat} (hn : Big.D.NatV w vn n) (hd : Big.D.NatV w vd d) (n0 : n ≠ 0) (d0 : d ≠ 0) (fn : Fits 100 n) (fd : Fits 100 d) {t : Int} (ht : t = -1 ∨ t = 0 ∨ t = 1) :
    Calls Tryd.prog 35 #[vn, vd, .int .i64 s, .int .i64 t] w fun e w' => ∃ (x : Nat) (ov : Bool), e = .returned (.tuple #[.int .u64 (x : Int), .bool ov]) ∧ NrO f T L n d 0 t x ov ∧ Below w.heap.size w w' := by
  have hf : 0 < f ∧ f ≤ 52 := by rcases hz with ⟨_, _, _, h, _⟩ | ⟨_, _, _, h, _⟩ <;> omega
  have hL : -1074 ≤ L ∧ L ≤ 0 := by rcases hz with ⟨_, _, _, _, _, h⟩ | ⟨_, _, _, _, _, h⟩ <;> omega
  have hT2 : 2 ≤ T := by rcases hz with ⟨_, _, _, _, h, _⟩ | ⟨_, _, _, _, h, _⟩ <;> omega
  have HTP : Hid (0 < T) := (show 0 < T by omega)
  have bN := bl_fits fn
  have bD := bl_fits fd
  obtain ⟨q0, hq0⟩ : ∃ q0 : Int, q0 = max ((ln n : Int) - (ln d : Int) - (f + 1)) L := ⟨_, rfl⟩
  have HST : Hid (Qp f L n d q0 q0) := Qp.start n0 d0 hq0
  have HB : Hid (∀ q, Qp f L n d q0 q → qN n q / qD d q < 2 ^ (f + 1) ∨ (2 ^ (f + 1) ≤ qN n q / qD d q ∧ q = q0 ∧ Qp f L n d q0 (q + 1))) := fun q hq => hq.bits n0 d0 hq0
  have HNR : Hid (∀ q, Qp f L n d q0 q → qN n q / qD d q < 2 ^ (f + 1) → ∃ b, RDT f L n d 0 t b ∧ ((rQT t (qN n q / qD d q) (qN n q % qD d q) (qD d q) = 0 ∧ b = 0) ∨ (rQT t (qN n q / qD d q) (qN n q % qD d q) (qD d q) ≠ 0 ∧ pk f (T : Int) L (rQT t (qN n q / qD d q) (qN n q % qD d q) (qD d q)) q = if b < T * 2 ^ f then some b else none))) := fun q hq h2 => near_ans hf.1 hT2 d0 t hq.1 hq.2.2.2.1 h2
  have q1 : -1074 ≤ q0 := by omega
  have q2 : q0 ≤ 3300 := by rw [← bl_ln, ← bl_ln] at hq0; omega
  have HF : Hid (Fits 100 n ∧ Fits 100 d ∧ n ≠ 0 ∧ d ≠ 0) := ⟨fn, fd, n0, d0⟩
  have HZ : Hid (Fz s g nn f T L) := hz
  have L1 : Calls Tryd.prog 48 #[vn] w fun e w' => e = .returned (.int .i64 (bl n : Int)) ∧ w' = w := dbits_nat hn (fn.up (by omega))
  have L2 : Calls Tryd.prog 48 #[vd] w fun e w' => e = .returned (.int .i64 (bl d : Int)) ∧ w' = w := dbits_nat hd (fd.up (by omega))
  have LF := rfrac_z hz w
  have LL := rlow_z hz w
  have HI : Hid (Big.D.NatV w vn n ∧ Big.D.NatV w vd d) := ⟨hn, hd⟩
  obtain ⟨ao, nl, c, rfl, hl, hlm⟩ := dlen15 hn
  have hnl : ((nl : Int) == 0) = false := by
    rw [beq_eq_false_iff_ne]
    intro z
    exact n0 (hl.1 (by omega))
  rw [← bl_ln, ← bl_ln] at hq0
  have HQ0 : Hid (q0 = max ((bl n : Int) - (bl d : Int) - (f + 1)) L) := hq0
  generalize bl n = ln1 at *
  generalize bl d = ln2 at *
  clear hq0 hz n0 d0 fn fd hn hd hl hT2
  go_enter Tryd.func35, Tryd.ntmps35
  go_wp2_with fail
  refine LF.mono ?_
  rintro e w ⟨rfl, rfl⟩
  go_upto_region 4 with fail
  go_cut [11] (fun qv wx => wx = w ∧ qv = .int .i64 q0)
  case first =>
    go_wp2_with fail
    refine L1.mono ?_
    rintro e w ⟨rfl, rfl⟩
    go_wp2_with fail
    refine L2.mono ?_
    rintro e w ⟨rfl, rfl⟩
    go_wp2_with fail
    refine LL.mono ?_
    rintro e w ⟨rfl, rfl⟩
    go_wp2
    all_goals go_meet
    all_goals exact ⟨rfl, congrArg (Value.int .i64) (by have := HQ0.out; omega)⟩
  case rest =>
  obtain ⟨hcw, rfl⟩ := hcut
  have hcw2 := hcw.symm
  subst hcw2
  clear L1 L2 LF LL
  go_wp2
  go_loopw [11, 12, 13, 14, 15] (fun qv _ _ _ _ wr => ∃ q : Int, qv = .int .i64 q ∧ q0 ≤ q ∧ q ≤ q0 + 1 ∧ Hid (Qp f L n d q0 q ∧ Big.D.NatV wr (.slice ao nl c) n ∧ Big.D.NatV wr vd d ∧ Below w.heap.size w wr)) (fun qv _ _ _ _ _ => (q0 + 1 - intOf qv).toNat)
  case atStart => exact ⟨q0, rfl, by omega, by omega, HST.out, HI.out.1, HI.out.2, Below.refl _ _⟩
  case round =>
    clear HI HST HQ0
    obtain ⟨q, rfl, hq3, hq4, HR⟩ := hrel
    have HX : Hid (Fits 250 (qN n q) ∧ Fits 250 (qD d q) ∧ qD d q ≠ 0) := ⟨(fits_shl15 (k := 50) HF.out.1 (by omega)).up (by omega), (fits_shl15 (k := 120) HF.out.2.1 (by omega)).up (by omega), Nat.ne_of_gt (qD_pos (Nat.pos_of_ne_zero HF.out.2.2.2) q)⟩
    go_upto_if 42 with fail
    go_cut [12, 13] from 39 to 125 (fun av bv wx => Big.D.NatV wx av (qN n q) ∧ Big.D.NatV wx bv (qD d q) ∧ Big.D.NatV wx (.slice ao nl c) n ∧ Big.D.NatV wx vd d ∧ Below w.heap.size w wx)
    case first =>
      rcases Int.lt_or_le q 0 with cq | cq
      · obtain ⟨k, hk⟩ : ∃ k : Nat, -q = (k : Int) := ⟨(-q).toNat, by omega⟩
        have U := dshl_new HR.out.2.1 (HF.out.1.up (by omega)) k (by omega)
        have eX : n * 2 ^ k = qN n q := by unfold qN; rw [show (-q).toNat = k by omega]
        have eY : d = qD d q := by unfold qD; rw [show q.toNat = 0 by omega, Nat.pow_zero, Nat.mul_one]
        rw [eX] at U
        have HE : Hid (d = qD d q) := eY
        clear eX eY
        generalize qN n q = X at *
        generalize qD d q = Y at *
        go_wp2_with fail
        refine U.mono ?_
        rintro e w1 ⟨v1, rfl, n1, b1⟩
        have H1 : Hid (Big.D.NatV w1 (.slice ao nl c) n ∧ Big.D.NatV w1 vd d ∧ Below w.heap.size w w1) := ⟨HR.out.2.1.below b1, HR.out.2.2.1.below b1, HR.out.2.2.2.trans (b1.mono HR.out.2.2.2.size)⟩
        go_wp2
        go_meet
        exact ⟨n1.nat, by rw [← HE.out]; exact H1.out.2.1, H1.out.1, H1.out.2.1, H1.out.2.2⟩
      · obtain ⟨k, hk⟩ : ∃ k : Nat, q = (k : Int) := ⟨q.toNat, by omega⟩
        have U := dshl_new HR.out.2.2.1 (HF.out.2.1.up (by omega)) k (by omega)
        have eX : n = qN n q := by unfold qN; rw [show (-q).toNat = 0 by omega, Nat.pow_zero, Nat.mul_one]
        have eY : d * 2 ^ k = qD d q := by unfold qD; rw [show q.toNat = k by omega]
        rw [eY] at U
        have HE : Hid (n = qN n q) := eX
        clear eX eY
        rw [← hk] at U
        clear hk
        generalize qN n q = X at *
        generalize qD d q = Y at *
        go_wp2_with fail
        refine U.mono ?_
        rintro e w1 ⟨v1, rfl, n1, b1⟩
        have H1 : Hid (Big.D.NatV w1 (.slice ao nl c) n ∧ Big.D.NatV w1 vd d ∧ Below w.heap.size w w1) := ⟨HR.out.2.1.below b1, HR.out.2.2.1.below b1, HR.out.2.2.2.trans (b1.mono HR.out.2.2.2.size)⟩
        go_wp2
        go_meet
        exact ⟨by rw [← HE.out]; exact H1.out.1, n1.nat, H1.out.1, H1.out.2.1, H1.out.2.2⟩
    case rest =>
    obtain ⟨nA, nB, nn1, nd1, B1⟩ := hcut
    have HP : Hid _ := HB.out q HR.out.1
    have HN : Hid _ := HNR.out q HR.out.1
    have DV := ddiv_any nA nB (HX.out.1.up (by omega)) (HX.out.2.1.up (by omega)) HX.out.2.2
    have HH : Hid (Big.D.NatV wc u13 (qD d q) ∧ Big.D.NatV wc (.slice ao nl c) n ∧ Big.D.NatV wc vd d ∧ Below w.heap.size w wc) := ⟨nB, nn1, nd1, B1⟩
    have HMF : Hid (Fits 250 (qN n q / qD d q) ∧ Fits 250 (qN n q % qD d q)) := ⟨HX.out.1.le (Nat.div_le_self _ _), HX.out.1.le (Nat.mod_le _ _)⟩
    clear nA nB nn1 nd1 B1 HB HNR HR
    generalize qN n q / qD d q = M at *
    generalize qN n q % qD d q = R at *
    generalize qD d q = Y at *
    go_wp2_with fail
    refine DV.mono ?_
    rintro e w2 ⟨vm, vr, rfl, nm, nr, b2⟩
    have H2 : Hid (Big.D.NatV w2 u13 Y ∧ Big.D.NatV w2 (.slice ao nl c) n ∧ Big.D.NatV w2 vd d ∧ Below w.heap.size w w2) := ⟨HH.out.1.below b2, HH.out.2.1.below b2, HH.out.2.2.1.below b2, HH.out.2.2.2.trans (b2.mono HH.out.2.2.2.size)⟩
    have BM := dbits_nat nm (HMF.out.1.up (by omega))
    clear b2 DV HH
    go_wp2_with fail
    refine BM.mono ?_
    rintro e w2 ⟨rfl, rfl⟩
    rcases HP.out with hlt | ⟨hge, hqq, hnext⟩
    rotate_left
    · have hbl : (f : Int) + 1 < (bl M : Int) := by have := bl_gt.2 hge; omega
      have HNX : Hid (Qp f L n d q0 (q + 1) ∧ q = q0) := ⟨hnext, hqq⟩
      generalize bl M = bM at *
      clear hge hnext hqq HP HN nm nr BM
      go_wp2
      go_roundw
      case rel => exact ⟨q + 1, rfl, by omega, by have := HNX.out.2; omega, HNX.out.1, H2.out.2.1, H2.out.2.2.1, H2.out.2.2.2⟩
      case measure =>
        have := HNX.out.2
        simp [intOf]
        omega
    · have hbl : ¬ (f : Int) + 1 < (bl M : Int) := by
        intro z
        have := bl_gt.1 (show f + 1 < bl M by omega)
        omega
      have HA := (show Hid _ from HN.out hlt)
      have HLT : Hid (M < 2 ^ (f + 1)) := hlt
      generalize bl M = bM at *
      clear hlt HP HN BM
      have S1 := dshl_new nr (HMF.out.2.up (by omega)) 1 (by omega)
      have HNM : Hid (Big.D.NatV w2 vm M) := nm
      clear nm nr
      go_wp2_with fail
      refine S1.mono ?_
      rintro e w3 ⟨v3, rfl, n3, b3⟩
      have H3 : Hid (Big.D.NatV w3 u13 Y ∧ Big.D.NatV w3 vm M ∧ Below w.heap.size w w3) := ⟨H2.out.1.below b3, HNM.out.below b3, H2.out.2.2.2.trans (b3.mono H2.out.2.2.2.size)⟩
      have CM := dcmp_nat n3.nat H3.out.1
      clear b3 n3 S1 H2 HNM
      go_wp2_with fail
      refine CM.mono ?_
      rintro e w4 ⟨rfl, b4⟩
      have H4 : Hid (Big.D.NatV w4 vm M ∧ Below w.heap.size w w4) := ⟨H3.out.2.1.below b4, H3.out.2.2.trans (b4.mono H3.out.2.2.size)⟩
      clear b4 H3 CM
      go_upto_region 13 with fail
      go_cut [17] from 39 to 125 (fun ov wx => wx = w4 ∧ ov = .bool (decide (M % 2 = 1)))
      case first =>
        obtain ⟨am, ml, mc, mb, mo, mf, rfl, S, tp, hV⟩ := H4.out.1
        have hml := Nat.le_trans S.le S.cap
        unfold maxLen at hml
        rcases Nat.eq_zero_or_pos ml with z | z
        · subst z
          have hM0 : M = 0 := by rw [← hV]; rfl
          subst hM0
          clear S tp hV
          go_wp2
          go_meet
          exact ⟨rfl, rfl⟩
        · have ha := S.addr z
          subst ha
          have hc0 := S.cell 0 z
          rw [Nat.add_zero] at hc0
          have hw := S.ws 0
          have hp := first_digit (f := mf) z
          rw [hV] at hp
          have zz : (0 : Int) < (ml : Int) := by omega
          have ad := and_one64 (mf 0) (by unfold Big.B at hw; omega)
          generalize mf 0 = m0 at *
          have HPR : Hid (m0 % 2 = M % 2) := hp
          clear S tp hV hp hw
          go_wp2
          go_meet
          exact ⟨rfl, congrArg Value.bool (by
            rw [Bool.eq_iff_iff, beq_iff_eq, decide_eq_true_iff]
            have := HPR.out
            omega)⟩
      case rest =>
      obtain ⟨hcw, rfl⟩ := hcut
      have hcw2 := hcw.symm
      subst hcw2
      go_upto_region 14 with fail
      obtain ⟨U, hU⟩ : ∃ U, U = rUT t M R Y := ⟨_, rfl⟩
      generalize hoc : ord (R * 2) Y = oc at *
      go_cut [92] from 39 to 125 (fun bv wx => wx = w4 ∧ bv = .bool U)
      case first =>
        unfold rUT at hU
        rcases Nat.lt_trichotomy (R * 2) Y with c0 | c0 | c0
        · rw [ord_lt c0] at hoc
          have o1 : ¬ 0 < oc := by omega
          have o2 : (oc == 0) = false := by rw [beq_eq_false_iff_ne]; omega
          clear hoc
          have e : U = false := by rw [hU, decide_eq_false_iff_not]; omega
          subst e
          clear hU
          go_wp2
          go_meet
          exact ⟨rfl, rfl⟩
        · rw [ord_eq c0] at hoc
          have o1 : ¬ 0 < oc := by omega
          have o2 : (oc == 0) = true := by rw [beq_iff_eq]; omega
          clear hoc
          rcases ht with rfl | rfl | rfl
          · have e : U = false := by rw [hU, decide_eq_false_iff_not]; omega
            subst e
            clear hU
            go_wp2
            go_meet
            exact ⟨rfl, rfl⟩
          · have e : U = decide (M % 2 = 1) := by
              rw [hU, Bool.eq_iff_iff, decide_eq_true_iff, decide_eq_true_iff]
              omega
            subst e
            clear hU
            go_wp2
            go_meet
            exact ⟨rfl, rfl⟩
          · have e : U = true := by rw [hU, decide_eq_true_iff]; omega
            subst e
            clear hU
            go_wp2
            go_meet
            exact ⟨rfl, rfl⟩
        · rw [ord_gt c0] at hoc
          have o1 : 0 < oc := by omega
          clear hoc
          have e : U = true := by rw [hU, decide_eq_true_iff]; omega
          subst e
          clear hU
          go_wp2
          go_meet
          exact ⟨rfl, rfl⟩
      case rest =>
      obtain ⟨hcw, rfl⟩ := hcut
      have hcw2 := hcw.symm
      subst hcw2
      clear hoc
      have HQT : Hid (rQT t M R Y = M + if U then 1 else 0) := by show _ = _; unfold rQT; rw [← hU]
      clear hU
      obtain ⟨K, hK⟩ : ∃ K, K = rQT t M R Y := ⟨_, rfl⟩
      rw [← hK] at HA HQT
      clear hK
      go_upto_if 92 with fail
      go_cut [14] from 39 to 125 (fun mv wx => Big.D.NatV wx mv K ∧ Below w.heap.size w wx)
      case first =>
        cases U
        · have e : K = M := by have := HQT.out; simpa using this
          subst e
          go_wp2
          go_meet
          exact H4.out
        · have e : K = M + 1 := by have := HQT.out; simpa using this
          subst e
          have O1 := dnat_one w4
          have AD := dadd_new (H4.out.1.below ((Below.refl w4.heap.size w4).alloc (Nat.le_refl _) (.cells #[.int .u64 1] 24))) O1 (HMF.out.1.up (by omega)) (two_fits (s := 0) (k := 1000) (by omega))
          have B5 : Hid (Below w.heap.size w (w4.alloc (.cells #[.int .u64 1] 24))) := H4.out.2.alloc H4.out.2.size _
          clear O1
          go_wp2_with fail
          refine AD.mono ?_
          rintro e w5 ⟨v5, rfl, n5, b5⟩
          have HN5 : Hid (Big.D.NatV w5 v5 (M + 1) ∧ Below w.heap.size w w5) := ⟨n5.nat, B5.out.trans (b5.mono B5.out.size)⟩
          clear b5 n5 AD
          go_wp2
          go_meet
          exact HN5.out
      case rest =>
      obtain ⟨nk, B6⟩ := hcut
      have HB6 : Hid (Below w.heap.size w wc) := B6
      have hKl : K < 2 ^ 64 := by
        have a := HQT.out
        have b := HLT.out
        have c : 2 ^ (f + 1) ≤ 2 ^ 53 := Nat.pow_le_pow_right (by decide) (by omega)
        have dd : 2 ^ 53 + 1 < 2 ^ 64 := by decide
        split at a <;> omega
      obtain ⟨am, ml, mc, mb, mo, mf, rfl, S, tp, hV⟩ := nk
      obtain ⟨hm2, hdg⟩ := two_digits S.ws tp (by rw [hV]; exact hKl)
      rw [hV] at hdg
      have HDG : Hid (∀ k, k < ml → K / 4294967296 ^ (k + 1) * 4294967296 + mf k = K / 4294967296 ^ k) := hdg
      have HSS : Hid (Big.D.Sl wc am ml mc mb mo mf) := S
      have hstart : K / 4294967296 ^ ml = 0 := by
        rw [Nat.div_eq_zero_iff]
        right
        rw [← hV]
        exact Big.V_lt S.ws ml
      have HKL : Hid (K < 2 ^ 64 ∧ K / 4294967296 ^ ml = 0) := ⟨hKl, hstart⟩
      clear S tp hV hdg hKl hstart B6 H4 HQT HMF HLT HX HF
      generalize decide (M % 2 = 1) = od at *
      go_wp2
      go_loopw [18, 19] (fun nv iv wr => ∃ k : Nat, nv = .int .u64 ((K / 4294967296 ^ k : Nat) : Int) ∧ iv = .int .i64 ((k : Int) - 1) ∧ k ≤ ml ∧ wr = wc) (fun _ iv _ => (intOf iv + 1).toNat)
      case atStart => exact ⟨ml, by rw [HKL.out.2]; rfl, rfl, Nat.le_refl _, rfl⟩
      case round =>
        obtain ⟨k, rfl, rfl, hk, hwr⟩ := hrel
        have hwr2 := hwr.symm
        subst hwr2
        rcases Nat.eq_zero_or_pos k with z | z
        · subst z
          rw [Nat.pow_zero, Nat.div_one]
          obtain ⟨b, hb, hans⟩ := HA.out
          have TP := fun W K0 => rpack_z HZ.out false (m := K) (p := q) HKL.out.1 K0 (by omega) W
          have TI := fun W => rinf_z HZ.out W
          clear HA HSS HDG
          rcases hans with ⟨rfl, rfl⟩ | ⟨K0, hpk⟩
          · have FIN : Hid (NrO f T L n d 0 t 0 false) := ⟨⟨0, hb, by unfold rdE; split <;> omega⟩, (decide_eq_false (by have := Nat.mul_pos HTP.out (Nat.two_pow_pos f); omega)).symm⟩
            clear hb TP TI
            go_wp2
            go_ret2
            first | exact ⟨0, false, rfl, FIN.out, HB6.out⟩ | exact ⟨0, .inl ⟨rfl, FIN.out, HB6.out⟩⟩ | exact ⟨0, .inl ⟨rfl, FIN.out⟩, HB6.out⟩
          · have FIN : Hid (NrO f T L n d 0 t (rdE f T b) (decide (rdE f T b = T * 2 ^ f))) := ⟨⟨b, hb, rfl⟩, rfl⟩
            have TP2 := fun W => TP W K0
            rw [hpk] at TP2
            have kz : ((K : Int) == 0) = false := by rw [beq_eq_false_iff_ne]; omega
            clear hb TP hpk
            by_cases cb : b < T * 2 ^ f
            · rw [if_pos cb] at TP2
              unfold rpV at TP2
              simp only [show sgd g false b = b from rfl] at TP2
              have e : rdE f T b = b := by unfold rdE; rw [if_pos cb]
              rw [e, decide_eq_false (Nat.ne_of_lt cb)] at FIN
              clear e cb TI
              go_wp2_with fail
              refine (TP2 _).mono ?_
              rintro e w7 ⟨rfl, b7⟩
              have B7 : Hid (Below w.heap.size w w7) := (HB6.out.alloc HB6.out.size _).trans (b7.mono (by have := HB6.out.size; simp; omega))
              clear b7
              go_wp2
              go_ret2
              exact ⟨b, false, rfl, FIN.out, B7.out⟩
            · rw [if_neg cb] at TP2
              unfold rpV at TP2
              have e : rdE f T b = T * 2 ^ f := by unfold rdE; rw [if_neg cb]
              rw [e, decide_eq_true rfl] at FIN
              clear e cb
              generalize T * 2 ^ f = inf at *
              go_wp2_with fail
              refine (TP2 _).mono ?_
              rintro e w7 ⟨rfl, b7⟩
              have B7 : Hid (Below w.heap.size w w7) := (HB6.out.alloc HB6.out.size _).trans (b7.mono (by have := HB6.out.size; simp; omega))
              clear b7
              go_wp2_with fail
              refine (TI _).mono ?_
              rintro e w7 ⟨rfl, rfl⟩
              go_wp2
              go_ret2
              exact ⟨inf, true, rfl, FIN.out, B7.out⟩
        · obtain ⟨j, rfl⟩ : ∃ j, k = j + 1 := ⟨k - 1, by omega⟩
          have ha := HSS.out.addr (by omega)
          subst ha
          have hcj := HSS.out.cell j (by omega)
          have hwj := HSS.out.ws j
          have hd := HDG.out j (by omega)
          have hbd : K / 4294967296 ^ (j + 1) < 4294967296 := by
            have p : 4294967296 ≤ 4294967296 ^ (j + 1) := by rw [Nat.pow_succ]; exact Nat.le_mul_of_pos_left _ (Nat.pow_pos (by decide))
            rw [Nat.div_lt_iff_lt_mul (Nat.lt_of_lt_of_le (by decide) p)]
            have a := HKL.out.1
            have b := Nat.mul_le_mul_left 4294967296 p
            omega
          have od := or_digit (x := mf j) (y := K / 4294967296 ^ (j + 1)) (by unfold Big.B at hwj; exact hwj) hbd
          rw [hd] at od
          have hj2 : j < ml := by omega
          have e0 : ((j + 1 : Nat) : Int) - 1 = (j : Int) := by omega
          rw [e0]
          generalize K / 4294967296 ^ (j + 1) = y1 at *
          generalize hy0 : K / 4294967296 ^ j = y0 at *
          have HY0 : Hid (K / 4294967296 ^ j = y0) := hy0
          generalize mf j = dj at *
          unfold Big.B at hwj
          clear hy0 hd
          go_wp2
          exact ⟨⟨j, by rw [HY0.out], rfl, by omega, trivial⟩, by simp [intOf]⟩
theorem near13 {s : Int} {g nn f T : Nat} {L : Int} (hz : Fz s g nn f T L) {w : World} {vn vd : Value} {n d : Nat} (hn : Big.D.NatV w vn n) (hd : Big.D.NatV w vd d) (d0 : d ≠ 0) (fn : Fits 100 n) (fd : Fits 100 d) {t : Int} (ht : t = -1 ∨ t = 0 ∨ t = 1) :
    Calls Tryd.prog 35 #[vn, vd, .int .i64 s, .int .i64 t] w fun e w' => ∃ (x : Nat) (ov : Bool), e = .returned (.tuple #[.int .u64 (x : Int), .bool ov]) ∧ NrO f T L n d 0 t x ov ∧ Below w.heap.size w w' := by
  by_cases n0 : n = 0
  · subst n0
    exact near13_zero (by rcases hz with ⟨_, _, _, _, h, _⟩ | ⟨_, _, _, _, h, _⟩ <;> omega) hn d0
  · exact near13_some hz hn hd n0 d0 fn fd ht
end Go.Proofs.YtkmnkogbafhfdaaDoor
