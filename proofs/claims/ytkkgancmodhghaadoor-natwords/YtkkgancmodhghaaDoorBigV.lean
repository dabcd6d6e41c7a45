/-
  What the document's Over answers: the quotient and the rest of two numbers, bit by bit.
-/
import Derived.Test.YtkkgancmodhghaaDoorBigB
import Derived.Test.YtkkgancmodhghaaDoorBigU
import Derived.Test.YtkkgancmodhghaaDoorBigT
namespace Go.Proofs.YtkkgancmodhghaaDoor
open Go.RowKit

theorem Big.Sl.kept {w w' : World} {ao : Option Addr} {n c b o g : Nat} {f : Nat → Nat} (S : Big.Sl w ao n c b o f) (h : w.grownBy w' (some g)) (hne : 0 < n → b ≠ g) : Big.Sl w' ao n c b o f :=
  ⟨S.le, S.cap, S.addr, fun q => Nat.lt_of_lt_of_le (S.blk q) h.size, fun i hi => by
    rw [World.cell?_of_block (w := w) (h.block b (S.blk (by omega)) (fun e => hne (by omega) (Option.some.inj e)))]; exact S.cell i hi, S.ws⟩
/-- A number that does not lie in the block g. -/
def ApV (w : World) (g : Nat) (v : Value) (X : Nat) : Prop := ∃ ao n c b o f, v = .slice ao n c ∧ Big.Sl w ao n c b o f ∧ Big.Top f n ∧ Big.V f n = X ∧ (0 < n → b ≠ g)
theorem ApV.nat {w : World} {g : Nat} {v : Value} {X : Nat} (h : ApV w g v X) : Big.NatV w v X := by
  obtain ⟨ao, n, c, b, o, f, e, S, t, r, _⟩ := h
  exact ⟨ao, n, c, b, o, f, e, S, t, r⟩
theorem ApV.below {w w' : World} {g : Nat} {v : Value} {X : Nat} (h : ApV w g v X) (hb : Below w.heap.size w w') : ApV w' g v X := by
  obtain ⟨ao, n, c, b, o, f, e, S, r⟩ := h
  exact ⟨ao, n, c, b, o, f, e, S.below hb, r⟩
theorem ApV.set {w : World} {g : Nat} {v : Value} {X : Nat} (h : ApV w g v X) (i : Nat) (u : Value) : ApV (w.setCell ⟨g, i, none⟩ u) g v X := by
  obtain ⟨ao, n, c, b, o, f, e, S, t, r, a⟩ := h
  exact ⟨ao, n, c, b, o, f, e, S.kept (grown_set (World.grownBy.refl _ _) u) a, t, r, a⟩
theorem Big.NewV.apart {w : World} {base g : Nat} {v : Value} {X : Nat} (h : Big.NewV w base v X) (hg : g < base) : ApV w g v X := by
  obtain ⟨ao, n, c, b, o, f, e, S, t, r, a⟩ := h
  exact ⟨ao, n, c, b, o, f, e, S, t, r, fun q => by have := a q; omega⟩

theorem ord_neg' {x y : Nat} (h : ord x y < 0) : x < y := by
  unfold ord at h
  split at h
  · assumption
  · split at h <;> omega
theorem wrap_nat32 {t : Nat} (h : t < 4294967296) : IntKind.u32.wrap (t : Int) = (t : Int) := by rw [IntKind.wrap_u32]; omega
/-- A bit that is 0, set. -/
theorem set_bit {x p : Nat} (h : x / 2 ^ p % 2 = 0) : x ||| 2 ^ p = x + 2 ^ p := by
  have h2 : x = 2 ^ (p + 1) * (x / 2 ^ p / 2) + x % 2 ^ p := by
    have a := Nat.div_add_mod x (2 ^ p)
    have b := Nat.div_add_mod (x / 2 ^ p) 2
    rw [h, Nat.add_zero] at b
    rw [Nat.pow_succ, Nat.mul_assoc, b]
    exact a.symm
  have l1 : x % 2 ^ p < 2 ^ p := Nat.mod_lt _ (Nat.pow_pos (by omega))
  generalize x / 2 ^ p / 2 = y at *
  generalize x % 2 ^ p = l at *
  subst h2
  have e1 : l ||| 2 ^ p = 2 ^ p * 1 + l := by rw [Nat.or_comm, Nat.two_pow_add_eq_or_of_lt l1, Nat.mul_one]
  have l2 : l < 2 ^ (p + 1) := by rw [Nat.pow_succ]; omega
  have l3 : 2 ^ p * 1 + l < 2 ^ (p + 1) := by rw [Nat.pow_succ]; omega
  rw [Nat.two_pow_add_eq_or_of_lt l2, Nat.or_assoc, e1, ← Nat.two_pow_add_eq_or_of_lt l3, ← Nat.two_pow_add_eq_or_of_lt l2]
  omega
theorem set_room {x p : Nat} (hx : x < Big.B) (hp : p < 32) (h : x / 2 ^ p % 2 = 0) : x + 2 ^ p < Big.B := by
  rw [← set_bit h, D_two]
  exact Nat.or_lt_two_pow (by rw [← D_two]; exact hx) (Nat.pow_lt_pow_right (by omega) hp)
/-- The number with a digit more in the place k. -/
theorem V_put {F : Nat → Nat} {k N r : Nat} (hk : k < N) : Big.V (Big.put F k (F k + r)) N = Big.V F N + r * Big.B ^ k := by
  have s1 := Big.V_split (Big.put F k (F k + r)) (k + 1) (N - (k + 1))
  have s2 := Big.V_split F (k + 1) (N - (k + 1))
  rw [show k + 1 + (N - (k + 1)) = N by omega] at s1 s2
  rw [s1, s2, Big.V_succ, Big.V_succ, Big.put_at, Big.V_put_low (Nat.le_refl _), Big.V_congr (f := fun i => Big.put F k (F k + r) (k + 1 + i)) (g := fun i => F (k + 1 + i)) (fun i hi => Big.put_ne (by omega)), Nat.add_mul]
  omega

theorem bl_fits {L X : Nat} (h : Fits L X) : bl X ≤ 32 * L := bl_mono_le (by rw [← D_pow]; exact h.lt)
/-- One round of the division: the place k + 1 is done, the place k comes. -/
theorem over_sub {X R Y Q k : Nat} (h : X = R + Y * Q) (hr : R < Y * 2 ^ (k + 1)) (hd : Y * 2 ^ k ≤ R) : X = R - Y * 2 ^ k + Y * (Q + 2 ^ k) ∧ R - Y * 2 ^ k < Y * 2 ^ k := by
  rw [Nat.pow_succ] at hr
  rw [Nat.mul_add]
  have : Y * (2 ^ k * 2) = Y * 2 ^ k + Y * 2 ^ k := by grind
  omega
theorem over_mod {Q k : Nat} (h : Q % 2 ^ (k + 1) = 0) : (Q + 2 ^ k) % 2 ^ k = 0 ∧ Q % 2 ^ k = 0 ∧ Q / 2 ^ k % 2 = 0 := by
  have a := low_mono h (show k ≤ k + 1 by omega)
  refine ⟨by rw [Nat.add_mod_right]; exact a, a, ?_⟩
  have b := low_step a
  rw [h] at b
  have p : 0 < 2 ^ k := Nat.pow_pos (by omega)
  rcases Nat.mul_eq_zero.1 b.symm with q | q
  · omega
  · exact q
theorem over_half {Y k : Nat} : Y * 2 ^ (k + 1) / 2 = Y * 2 ^ k := by
  rw [Nat.pow_succ, ← Nat.mul_assoc, Nat.mul_div_cancel _ (by omega)]

set_option maxRecDepth 100000 in
set_option maxHeartbeats 4000000 in
theorem over_any {w : World} {va vb : Value} {X Y : Nat} (ha : Big.NatV w va X) (hb : Big.NatV w vb Y) (hX : Fits 256 X) (hY : Fits 256 Y) (h0 : Y ≠ 0) :
    Calls Tryd.prog 58 #[va, vb] w fun e w' => ∃ v1 v2, e = .returned (.tuple #[v1, v2]) ∧ Big.NatV w' v1 (X / Y) ∧ Big.NatV w' v2 (X % Y) ∧ Below w.heap.size w w' := by
  have L1 := length_nat ha (hX.up (by omega))
  have L2 := length_nat hb (hY.up (by omega))
  have bX := bl_fits hX
  have bY := bl_fits hY
  by_cases c1 : bl X < bl Y
  · have lt : X < Y := by
      have a := bl_lt X
      have b := bl_le h0
      have c : 2 ^ bl X ≤ 2 ^ (bl Y - 1) := Nat.pow_le_pow_right (by omega) (by omega)
      omega
    rw [Nat.div_eq_of_lt lt, Nat.mod_eq_of_lt lt]
    clear lt hX hY hb h0
    have HA : Hid (Big.NatV w va X) := ha
    clear ha
    generalize bl X = x at *
    generalize bl Y = y at *
    have c1' : (x : Int) - (y : Int) < 0 := by omega
    go_enter Tryd.func58, Tryd.ntmps58
    go_wp2_with fail
    refine L1.mono ?_
    rintro e w ⟨rfl, rfl⟩
    go_wp2_with fail
    refine L2.mono ?_
    rintro e w ⟨rfl, rfl⟩
    go_wp2
    refine bodyPost_ret (v := .tuple #[.slice none 0 0, va]) (by simp [results, Tryd.results58, go_sem]) rfl ⟨_, _, rfl, Big.natv_nil _, HA.out, Below.refl _ _⟩
  · obtain ⟨n, hn⟩ : ∃ n, bl X = bl Y + n := ⟨bl X - bl Y, by omega⟩
    have start : X < Y * 2 ^ (n + 1) := by
      have a := bl_lt X
      have b := Nat.mul_le_mul_right (2 ^ (n + 1)) (bl_le h0)
      have p := bl_pos h0
      rw [← Nat.pow_add, show bl Y - 1 + (n + 1) = bl X by omega] at b
      omega
    have HST : Hid (X < Y * 2 ^ (n + 1)) := start
    have hn2 : n ≤ 8192 := by omega
    have fd : Fits 600 (Y * 2 ^ n) := (hY.mul (two_fits (k := 257) (by omega))).up (by omega)
    have HF : Hid (Fits 256 X ∧ Fits 256 Y ∧ Fits 600 (Y * 2 ^ n) ∧ Y ≠ 0) := ⟨hX, hY, fd, h0⟩
    have d12 : ((bl X : Nat) : Int) - ((bl Y : Nat) : Int) = (n : Int) := by omega
    have hmk := run_make_row' (P := Tryd.prog) 78 116 (.int .u32 0) 4 Big.und_big Big.info_u32 rfl .i64 .i64 (n / 32 + 1) (by omega) (by omega)
    simp only [Int.natCast_add, Int.natCast_one] at hmk
    have hdv : (n : Int) / 32 = ((n / 32 : Nat) : Int) := by omega
    have HAB : Hid (Big.NatV w va X ∧ Big.NatV w vb Y) := ⟨ha, hb⟩
    have hap : ∀ W : World, Below w.heap.size w W → ApV W w.heap.size va X := fun W hW => by
      obtain ⟨ao, k, c, b, o, f, e, S, t, r⟩ := ha
      exact ⟨ao, k, c, b, o, f, e, S.below hW, t, r, fun q => Nat.ne_of_lt (S.blk q)⟩
    have HAP : Hid (∀ W : World, Below w.heap.size w W → ApV W w.heap.size va X) := hap
    have hN : n / 32 + 1 ≤ 300 := by omega
    have HN : Hid (n < 32 * (n / 32 + 1)) := (by omega : n < 32 * (n / 32 + 1))
    generalize n / 32 = N at *
    generalize bl X = x at *
    generalize bl Y = y at *
    clear start fd hX hY h0 hn c1 ha hb hap
    go_enter Tryd.func58, Tryd.ntmps58
    go_wp2_with fail
    refine L1.mono ?_
    rintro e w ⟨rfl, rfl⟩
    go_wp2_with fail
    refine L2.mono ?_
    rintro e w ⟨rfl, rfl⟩
    clear L1 L2
    have bA : Below w.heap.size w (w.alloc (.cells (madeCells #[.int .u32 0] (N + 1)) 116)) := (Below.refl _ _).alloc (Nat.le_refl _) _
    have U := up_new (HAB.out.2.below bA) (HF.out.2.1.up (by omega)) n (by omega)
    have R0 := Big.made_row w (N + 1)
    go_wp2_with fail
    refine U.mono ?_
    rintro e w1 ⟨vd, rfl, nd, b1⟩
    replace R0 := R0.below b1
    have B1 : Below w.heap.size w w1 := bA.trans (b1.mono (by simp))
    have ad : ApV w1 w.heap.size vd (Y * 2 ^ n) := nd.apart (by simp)
    have ar : ApV w1 w.heap.size va X := HAP.out w1 B1
    clear U nd b1 bA
    go_wp2
    go_loopw [8, 9, 10] (fun vd vr i wr => ∃ (k R : Nat) (Q : Nat → Nat), i = .int .i64 ((k : Int) - 1) ∧ k ≤ n + 1 ∧ Big.Row wr w.heap.size (N + 1) Q ∧ Below w.heap.size w wr ∧ ApV wr w.heap.size vd (Y * 2 ^ k / 2) ∧ ApV wr w.heap.size vr R ∧ Hid (X = R + Y * Big.V Q (N + 1) ∧ R < Y * 2 ^ k ∧ Big.V Q (N + 1) % 2 ^ k = 0)) (fun _ _ i _ => (intOf i + 1).toNat)
    case atStart =>
      refine ⟨n + 1, X, fun _ => 0, by go_num, Nat.le_refl _, R0, B1, by rw [over_half]; exact ad, ar, ?_⟩
      refine ⟨?_, HST.out, ?_⟩
      · rw [Big.V_nought, Nat.mul_zero, Nat.add_zero]
      · rw [Big.V_nought, Nat.zero_mod]
    case round =>
      clear ad ar R0 B1
      obtain ⟨k, R, Q, rfl, hk, RQ, hbl, ad, ar, HI⟩ := hrel
      have HRQ : Hid (Big.Row wr w.heap.size (N + 1) Q) := RQ
      have HB : Hid (Below w.heap.size w wr) := hbl
      have hsz := hbl.size
      have hgl : w.heap.size < wr.heap.size := RQ.row.lt
      by_cases c1 : k = 0
      · subst c1
        have T := Big.trim_any (RQ.sl0 (by unfold maxLen; omega))
        have NV := (RQ.sl0 (by unfold maxLen; omega)).trimmed
        have HD : Hid (Big.V Q (N + 1) = X / Y ∧ R = X % Y) := by
          obtain ⟨i1, i2, _⟩ := HI.out
          rw [Nat.pow_zero, Nat.mul_one] at i2
          have yp : 0 < Y := Nat.pos_of_ne_zero HF.out.2.2.2
          refine ⟨?_, ?_⟩
          · rw [i1, Nat.add_mul_div_left _ _ yp, Nat.div_eq_of_lt i2, Nat.zero_add]
          · rw [i1, Nat.add_mul_mod_self_left, Nat.mod_eq_of_lt i2]
        rw [HD.out.1] at NV
        have nr := ar.nat
        rw [HD.out.2] at nr
        clear RQ ad ar
        go_wp2_with fail
        refine T.mono ?_
        rintro e wa ⟨rfl, rfl⟩
        go_wp2
        refine bodyPost_ret (v := .tuple #[_, _]) (by simp [results, Tryd.results58, go_sem]) rfl ⟨_, _, rfl, NV, nr, HB.out⟩
      · obtain ⟨j, rfl⟩ : ∃ j, k = j + 1 := ⟨k - 1, by omega⟩
        rw [over_half] at ad
        have ij : ((j + 1 : Nat) : Int) - 1 = (j : Int) := by omega
        have hj0 : (0 : Int) ≤ (j : Int) := by omega
        have CM := bcmp_nat ar.nat ad.nat
        obtain ⟨m1, m2, m3⟩ := over_mod HI.out.2.2
        have fR : Fits 256 R := by
          refine HF.out.1.le ?_
          rw [HI.out.1]; exact Nat.le_add_right _ _
        have fD : Fits 600 (Y * 2 ^ j) := HF.out.2.2.1.le (Nat.mul_le_mul_left _ (Nat.pow_le_pow_right (by omega) (by omega)))
        have HFF : Hid (Fits 256 R ∧ Fits 600 (Y * 2 ^ j)) := ⟨fR, fD⟩
        have HM : Hid ((Big.V Q (N + 1) + 2 ^ j) % 2 ^ j = 0 ∧ Big.V Q (N + 1) % 2 ^ j = 0 ∧ Big.V Q (N + 1) / 2 ^ j % 2 = 0) := ⟨m1, m2, m3⟩
        clear m1 m2 m3 fR fD
        by_cases c2 : R < Y * 2 ^ j
        · rw [ord_lt c2] at CM
          have HLT : Hid (R < Y * 2 ^ j) := c2
          clear c2 RQ
          simp only [Int.natCast_add, Int.natCast_one] at ij
          go_wp2_with fail
          refine CM.mono ?_
          rintro e w2 ⟨rfl, b2⟩
          have ad2 := ad.below b2
          have ar2 := ar.below b2
          have B2 : Below w.heap.size w w2 := HB.out.trans (b2.mono hsz)
          have DN := down_new ad2.nat (HFF.out.2.up (by omega)) 1
          have h2 : w.heap.size < w2.heap.size := Nat.lt_of_lt_of_le hgl b2.size
          have HR2 : Hid (Big.Row w2 w.heap.size (N + 1) Q) := HRQ.out.below b2
          clear CM b2 ad ar
          go_wp2_with fail
          refine DN.mono ?_
          rintro e w3 ⟨vd3, rfl, nd3, b3⟩
          have B3 : Below w.heap.size w w3 := B2.trans (b3.mono (by omega))
          have ad3 := nd3.apart h2
          rw [Nat.pow_one] at ad3
          have ar3 := ar2.below b3
          have HR3 : Hid (Big.Row w3 w.heap.size (N + 1) Q) := HR2.out.below b3
          clear DN b3 nd3 ad2 ar2 B2
          go_wp2
          go_roundw
          case rel => exact ⟨j, R, Q, by go_num, by omega, HR3.out, B3, ad3, ar3, ⟨HI.out.1, HLT.out, HM.out.2.1⟩⟩
          case measure => simp [intOf]
        · have ho : ¬ ord R (Y * 2 ^ j) < 0 := fun z => c2 (ord_neg' z)
          have HLE : Hid (Y * 2 ^ j ≤ R) := Nat.le_of_not_lt c2
          obtain ⟨i, p, hip, hp⟩ : ∃ i p, j = 32 * i + p ∧ p < 32 := ⟨j / 32, j % 32, by omega, by omega⟩
          have hiN : i < N + 1 := by have := HN.out; omega
          have hbit := HM.out.2.2
          rw [hip, bit_at RQ.ws hiN hp] at hbit
          have hor := bits32_or (Q i) (2 ^ p) (RQ.ws i) (by have : 2 ^ p < 2 ^ 32 := Nat.pow_lt_pow_right (by omega) hp; omega)
          rw [set_bit hbit] at hor
          have hroom := set_room (RQ.ws i) hp hbit
          have hpp : 2 ^ p < 4294967296 := by have : 2 ^ p < 2 ^ 32 := Nat.pow_lt_pow_right (by omega) hp; omega
          have sh1 : IntKind.u32.wrap (1 * (2 : Int) ^ p) = ((2 ^ p : Nat) : Int) := by rw [Int.one_mul, pow_cast]; exact wrap_nat32 hpp
          have sh2 : IntKind.u32.wrap ((2 : Int) ^ p) = ((2 ^ p : Nat) : Int) := by rw [pow_cast]; exact wrap_nat32 hpp
          have d1 : (j : Int) / 32 = (i : Int) := by omega
          have d2 : (j : Int) % 32 = (p : Int) := by omega
          have d3 : (j : Int).tdiv 32 = (i : Int) := by rw [Int.tdiv_eq_ediv_of_nonneg (by omega)]; exact d1
          have d4 : (j : Int).tmod 32 = (p : Int) := by rw [Int.tmod_eq_emod_of_nonneg (by omega)]; exact d2
          have HVP : Hid (Big.V (Big.put Q i (Q i + 2 ^ p)) (N + 1) = Big.V Q (N + 1) + 2 ^ j) := by
            show _ = _
            rw [V_put hiN, hip, Nat.pow_add, ← D_pow, Nat.mul_comm (2 ^ p)]
          obtain ⟨o1, o2⟩ := over_sub HI.out.1 HI.out.2.1 HLE.out
          have HO : Hid (X = R - Y * 2 ^ j + Y * (Big.V Q (N + 1) + 2 ^ j) ∧ R - Y * 2 ^ j < Y * 2 ^ j) := ⟨o1, o2⟩
          have HRM : Hid (Q i + 2 ^ p < Big.B) := hroom
          generalize 2 ^ p = t at *
          generalize hk1 : ord R (Y * 2 ^ j) = o at *
          clear c2 RQ o1 o2 hbit hip hk1 hroom
          simp only [Int.natCast_add, Int.natCast_one] at ij
          go_wp2_with fail
          refine CM.mono ?_
          rintro e w2 ⟨rfl, b2⟩
          have ad2 := ad.below b2
          have ar2 := ar.below b2
          have B2 : Below w.heap.size w w2 := HB.out.trans (b2.mono hsz)
          have h2 : w.heap.size < w2.heap.size := Nat.lt_of_lt_of_le hgl b2.size
          have HR2 : Hid (Big.Row w2 w.heap.size (N + 1) Q) := HRQ.out.below b2
          have MN := minus_new ar2.nat ad2.nat (HFF.out.1.up (by omega)) HLE.out
          clear CM b2 ad ar
          go_wp2_with fail
          refine MN.mono ?_
          rintro e w3 ⟨vr3, rfl, nr3, b3⟩
          have B3 : Below w.heap.size w w3 := B2.trans (b3.mono (by omega))
          have ad3 := ad2.below b3
          have ar3 := nr3.apart h2
          have R3 := HR2.out.below b3
          have HR3 : Hid (Big.Row w3 w.heap.size (N + 1) Q) := R3
          have h3 : w.heap.size < w3.heap.size := Nat.lt_of_lt_of_le h2 b3.size
          have cz := R3.row.cell (i := i) hiN
          have fz := R3.row.frozen i
          clear MN b3 nr3 ad2 ar2 B2 R3
          obtain ⟨w4, hw4⟩ : ∃ w4, w4 = w3.setCell ⟨w.heap.size, i, none⟩ (.int .u32 (((Q i : Nat) : Int) + (t : Int))) := ⟨_, rfl⟩
          have B4 : Below w.heap.size w w4 := by rw [hw4]; exact B3.setCell (Nat.le_refl _) _
          have R4 : Big.Row w4 w.heap.size (N + 1) (Big.put Q i (Q i + t)) := by rw [hw4, ← Int.natCast_add]; exact HR3.out.set i HRM.out
          have ad4 : ApV w4 w.heap.size u8 (Y * 2 ^ j) := by rw [hw4]; exact ad3.set i _
          have ar4 : ApV w4 w.heap.size vr3 (R - Y * 2 ^ j) := by rw [hw4]; exact ar3.set i _
          have h4 : w.heap.size < w4.heap.size := by rw [hw4, World.size_setCell]; exact h3
          have HW4 : Hid (w4 = w3.setCell ⟨w.heap.size, i, none⟩ (.int .u32 (((Q i : Nat) : Int) + (t : Int)))) := hw4
          clear hw4
          go_wp2_with fail
          rw [← HW4.out]
          have DN := down_new ad4.nat (HFF.out.2.up (by omega)) 1
          have HR4 : Hid (Big.Row w4 w.heap.size (N + 1) (Big.put Q i (Q i + t))) := R4
          refine DN.mono ?_
          rintro e w5 ⟨vd5, rfl, nd5, b5⟩
          have B5 : Below w.heap.size w w5 := B4.trans (b5.mono (by omega))
          have ad5 := nd5.apart h4
          rw [Nat.pow_one] at ad5
          have ar5 := ar4.below b5
          have HR5 : Hid (Big.Row w5 w.heap.size (N + 1) (Big.put Q i (Q i + t))) := HR4.out.below b5
          clear DN b5 nd5 ad4 ar4 B4 R4
          go_wp2
          go_roundw
          case rel => exact ⟨j, R - Y * 2 ^ j, Big.put Q i (Q i + t), by go_num, by omega, HR5.out, B5, ad5, ar5, ⟨by rw [HVP.out]; exact HO.out.1, HO.out.2, by rw [HVP.out]; exact HM.out.1⟩⟩
          case measure => simp [intOf]

end Go.Proofs.YtkkgancmodhghaaDoor
