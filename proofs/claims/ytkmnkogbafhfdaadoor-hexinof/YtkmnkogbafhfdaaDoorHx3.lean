/-
  Older texts, as far as layer 17 asks them: the document's numbers of many digits; floats taken apart and put together.
-/
import Derived.Test.YtkmnkogbafhfdaaDoorHx2
namespace Go.Proofs.YtkmnkogbafhfdaaDoor
open Go.RowKit

theorem Big.D.Sl.kept {w w' : World} {ao : Option Addr} {n c b o g : Nat} {f : Nat → Nat} (S : Big.D.Sl w ao n c b o f) (h : w.grownBy w' (some g)) (hne : 0 < n → b ≠ g) : Big.D.Sl w' ao n c b o f :=
  ⟨S.le, S.cap, S.addr, fun q => Nat.lt_of_lt_of_le (S.blk q) h.size, fun i hi => by
    rw [World.cell?_of_block (w := w) (h.block b (S.blk (by omega)) (fun e => hne (by omega) (Option.some.inj e)))]; exact S.cell i hi, S.ws⟩
/-- A number that does not lie in the block g. -/
def DapV (w : World) (g : Nat) (v : Value) (X : Nat) : Prop := ∃ ao n c b o f, v = .slice ao n c ∧ Big.D.Sl w ao n c b o f ∧ Big.Top f n ∧ Big.V f n = X ∧ (0 < n → b ≠ g)
theorem DapV.nat {w : World} {g : Nat} {v : Value} {X : Nat} (h : DapV w g v X) : Big.D.NatV w v X := by
  obtain ⟨ao, n, c, b, o, f, e, S, t, r, _⟩ := h
  exact ⟨ao, n, c, b, o, f, e, S, t, r⟩
theorem DapV.below {w w' : World} {g : Nat} {v : Value} {X : Nat} (h : DapV w g v X) (hb : Below w.heap.size w w') : DapV w' g v X := by
  obtain ⟨ao, n, c, b, o, f, e, S, r⟩ := h
  exact ⟨ao, n, c, b, o, f, e, S.below hb, r⟩
theorem DapV.set {w : World} {g : Nat} {v : Value} {X : Nat} (h : DapV w g v X) (i : Nat) (u : Value) : DapV (w.setCell ⟨g, i, none⟩ u) g v X := by
  obtain ⟨ao, n, c, b, o, f, e, S, t, r, a⟩ := h
  exact ⟨ao, n, c, b, o, f, e, S.kept (grown_set (World.grownBy.refl _ _) u) a, t, r, a⟩
theorem Big.D.NewV.apart {w : World} {base g : Nat} {v : Value} {X : Nat} (h : Big.D.NewV w base v X) (hg : g < base) : DapV w g v X := by
  obtain ⟨ao, n, c, b, o, f, e, S, t, r, a⟩ := h
  exact ⟨ao, n, c, b, o, f, e, S, t, r, fun q => by have := a q; omega⟩
theorem Big.D.NatV.apart {w w' : World} {v : Value} {X : Nat} (h : Big.D.NatV w v X) (hb : Below w.heap.size w w') : DapV w' w.heap.size v X := by
  obtain ⟨ao, n, c, b, o, f, e, S, t, r⟩ := h
  exact ⟨ao, n, c, b, o, f, e, S.below hb, t, r, fun q => Nat.ne_of_lt (S.blk q)⟩
/-- A new slice of one digit. -/
theorem dnat_one (w : World) : Big.D.NatV (w.alloc (.cells #[.int .u64 1] 24)) (.slice (some ⟨w.heap.size, 0, none⟩) 1 1) 1 := by
  refine ⟨_, 1, 1, w.heap.size, 0, fun i => if i = 0 then 1 else 0, rfl, ⟨Nat.le_refl _, by unfold maxLen; omega, fun _ => rfl, fun _ => by simp, fun i hi => ?_, fun i => ?_⟩, Or.inr (by simp), ?_⟩
  · obtain rfl : i = 0 := by omega
    simp
  · show (if i = 0 then 1 else 0) < Big.B
    split
    · decide
    · decide
  · rw [Big.V_succ, Big.V_zero, Nat.pow_zero]; rfl
theorem fits_le {L M X Y : Nat} (h : Fits L X) (hl : Y ≤ X) (hm : L ≤ M) : Fits M Y := (h.le hl).up hm
set_option maxRecDepth 100000 in
set_option maxHeartbeats 4000000 in
theorem ddiv_any {w : World} {va vb : Value} {X Y : Nat} (ha : Big.D.NatV w va X) (hb : Big.D.NatV w vb Y) (hX : Fits 900 X) (hY : Fits 900 Y) (h0 : Y ≠ 0) :
    Calls Tryd.prog 50 #[va, vb] w fun e w' => ∃ v1 v2, e = .returned (.tuple #[v1, v2]) ∧ Big.D.NatV w' v1 (X / Y) ∧ Big.D.NatV w' v2 (X % Y) ∧ Below w.heap.size w w' := by
  have HAB : Hid (Big.D.NatV w va X ∧ Big.D.NatV w vb Y) := ⟨ha, hb⟩
  have bX := bl_fits hX
  have HF : Hid (Fits 900 X ∧ Fits 900 Y ∧ Y ≠ 0) := ⟨hX, hY, h0⟩
  have HL : Hid (X < 2 ^ bl X) := bl_lt X
  obtain ⟨ao, n, c, b, o, f, e, S, t, r⟩ := ha
  have hn := big_len t (by rw [r]; exact hX)
  have hbn : Hid (bl X ≤ 32 * n) := by rw [← r]; exact bl_mono_le (by rw [← D_pow]; exact Big.V_lt S.ws n)
  subst e
  clear S t r hX hY h0 hb
  have hmk := run_make_row' (P := Tryd.prog) 61 24 (.int .u64 0) 8 Big.D.und_big13 Big.D.info_u64 rfl .i64 .i64 n (by omega) (by omega)
  have bA : Below w.heap.size w (w.alloc (.cells (madeCells #[.int .u64 0] n) 24)) := (Below.refl _ _).alloc (Nat.le_refl _) _
  have L1 := dbits_nat (HAB.out.1.below bA) (HF.out.1.up (by omega))
  have R0 := Big.D.made_row w n
  obtain ⟨K, hK⟩ : ∃ K, bl X = K := ⟨_, rfl⟩
  have HK : Hid (bl X = K) := hK
  rw [hK] at L1 bX
  clear hK
  go_enter Tryd.func50, Tryd.ntmps50
  go_wp2_with fail
  refine L1.mono ?_
  rintro e w1 ⟨rfl, hw1⟩
  have B1 : Below w.heap.size w w1 := by rw [hw1]; exact bA
  have R1 : Big.D.Row w1 w.heap.size n (fun _ => 0) := by rw [hw1]; exact R0
  clear L1 hw1 R0 bA
  go_wp2
  go_loopw [7, 8] (fun vr i wr => ∃ (k R : Nat) (Q : Nat → Nat), i = .int .i64 ((k : Int) - 1) ∧ k ≤ K ∧ Big.D.Row wr w.heap.size n Q ∧ Below w.heap.size w wr ∧ DapV wr w.heap.size vr R ∧ Hid (R = X / 2 ^ k % Y ∧ Big.V Q n = 2 ^ k * (X / 2 ^ k / Y))) (fun _ i _ => (intOf i + 1).toNat)
  case atStart =>
    refine ⟨K, 0, fun _ => 0, rfl, Nat.le_refl _, R1, B1, (Big.D.natv_nil _ : Big.D.NatV w _ 0).apart B1, ?_⟩
    have z : X / 2 ^ K = 0 := Nat.div_eq_of_lt (by rw [← HK.out]; exact HL.out)
    refine ⟨?_, ?_⟩
    · rw [z, Nat.zero_mod]
    · rw [z, Nat.zero_div, Nat.mul_zero, Big.V_nought]
  case round =>
    clear R1 B1
    obtain ⟨k, R, Q, rfl, hk, RQ, hbl, ar, HI⟩ := hrel
    have hsz := hbl.size
    have hgl : w.heap.size < wr.heap.size := RQ.row.lt
    by_cases c1 : k = 0
    · subst c1
      have T := Big.D.trim_any (RQ.sl0 (by unfold maxLen; omega))
      have NV := (RQ.sl0 (by unfold maxLen; omega)).trimmed
      have HD : Hid (Big.V Q n = X / Y ∧ R = X % Y) := by
        obtain ⟨i1, i2⟩ := HI.out
        rw [Nat.pow_zero, Nat.div_one] at i1 i2
        exact ⟨by rw [i2, Nat.one_mul], i1⟩
      rw [HD.out.1] at NV
      have nr := ar.nat
      rw [HD.out.2] at nr
      have HB : Hid (Below w.heap.size w wr) := hbl
      clear RQ ar hbl
      go_wp2_with fail
      refine T.mono ?_
      rintro e wa ⟨rfl, rfl⟩
      go_wp2
      refine bodyPost_ret (v := .tuple #[_, _]) (by simp [results, Tryd.results50, go_sem]) rfl ⟨_, _, rfl, NV, nr, HB.out⟩
    · obtain ⟨j, rfl⟩ : ∃ j, k = j + 1 := ⟨k - 1, by omega⟩
      have ij : ((j + 1 : Nat) : Int) - 1 = (j : Int) := by omega
      have hj0 : (0 : Int) ≤ (j : Int) := by omega
      have Yp : 0 < Y := Nat.pos_of_ne_zero HF.out.2.2
      have hRY : R < Y := by rw [HI.out.1]; exact Nat.mod_lt _ Yp
      have HRY : Hid (R < Y) := hRY
      have HDV := (show Hid _ from bit_div (A := X) (D := Y) (r := R) (i := j) Yp HI.out.1)
      have HVQ : Hid (Big.V Q n = 2 ^ (j + 1) * (X / 2 ^ (j + 1) / Y)) := HI.out.2
      have fR2 : Fits 901 (R * 2 ^ 1 + 1) := by
        refine fits_le (HF.out.2.1.sum HF.out.2.1) (Y := R * 2 ^ 1 + 1) ?_ (by omega)
        omega
      have HFR : Hid (Fits 901 (R * 2 ^ 1 + 1)) := fR2
      have U := dshl_new ar.nat (fits_le fR2 (by omega) (by omega)) 1 (by omega)
      clear hRY fR2 HI Yp
      simp only [Int.natCast_add, Int.natCast_one] at ij
      have HB : Hid (Below w.heap.size w wr) := hbl
      have HR : Hid (Big.D.Row wr w.heap.size n Q) := RQ
      clear hbl RQ ar
      go_wp2_with fail
      refine U.mono ?_
      rintro e w2 ⟨v2, rfl, n2, b2⟩
      have B2 : Below w.heap.size w w2 := HB.out.trans (b2.mono hsz)
      have a2 : DapV w2 w.heap.size v2 (R * 2 ^ 1) := n2.apart hgl
      have h2 : w.heap.size < w2.heap.size := Nat.lt_of_lt_of_le hgl b2.size
      have HR2 : Hid (Big.D.Row w2 w.heap.size n Q) := HR.out.below b2
      have BT := dbit_nat (HAB.out.1.below B2) (HF.out.1.up (by omega)) j (by rw [HK.out]; omega)
      clear U n2 b2 HB HR hgl hsz
      obtain ⟨bt, hbt⟩ : ∃ bt, X / 2 ^ j % 2 = bt := ⟨_, rfl⟩
      have hbt2 : bt < 2 := by rw [← hbt]; exact Nat.mod_lt _ (by omega)
      have HBT : Hid (X / 2 ^ j % 2 = bt) := hbt
      rw [hbt] at BT
      clear hbt
      rcases (by omega : bt = 0 ∨ bt = 1) with z | z
      · subst z
        go_wp2_with fail
        refine BT.mono ?_
        rintro e w2 ⟨rfl, rfl⟩
        have a3 : DapV w2 w.heap.size v2 (R * 2 ^ 1 + 0) := a2
        have CM := dcmp_nat a3.nat (HAB.out.2.below B2)
        clear BT a2
        generalize hT : R * 2 ^ 1 + 0 = T at *
        have HT : Hid (T = 2 * R + X / 2 ^ j % 2) := by rw [HBT.out, ← hT]; show _ = _; omega
        have HFT : Hid (Fits 1000 T) := fits_le HFR.out (by omega) (by omega)
        clear hT
        by_cases c2 : T < Y
        · rw [ord_lt c2] at CM
          have HN : Hid (T = X / 2 ^ j % Y ∧ Big.V Q n = 2 ^ j * (X / 2 ^ j / Y)) := by
            have d := HDV.out
            rw [← HT.out, if_neg (by omega), if_neg (by omega)] at d
            refine ⟨d.1, ?_⟩
            rw [d.2, HVQ.out, Nat.pow_succ, Nat.add_zero, Nat.mul_assoc]
          clear c2
          go_wp2_with fail
          refine CM.mono ?_
          rintro e w4 ⟨rfl, b4⟩
          have B4 : Below w.heap.size w w4 := B2.trans (b4.mono (by omega))
          have a4 := a3.below b4
          have HR4 : Hid (Big.D.Row w4 w.heap.size n Q) := HR2.out.below b4
          clear CM b4 a3
          go_wp2
          go_roundw
          case rel => exact ⟨j, T, Q, by go_num, by omega, HR4.out, B4, a4, HN.out⟩
          case measure => simp [intOf]
        · have ho : ¬ ord T Y < 0 := fun z => c2 (ord_neg' z)
          have HLE : Hid (Y ≤ T) := Nat.le_of_not_lt c2
          have HN : Hid (T - Y = X / 2 ^ j % Y ∧ Big.V Q n + 2 ^ j = 2 ^ j * (X / 2 ^ j / Y)) := by
            have d := HDV.out
            rw [← HT.out, if_pos (by omega), if_pos (by omega)] at d
            refine ⟨d.1, ?_⟩
            rw [d.2, HVQ.out, Nat.pow_succ, Nat.mul_add, Nat.mul_one, Nat.mul_assoc]
          obtain ⟨i, p, hip, hp⟩ : ∃ i p, j = 32 * i + p ∧ p < 32 := ⟨j / 32, j % 32, by omega, by omega⟩
          have hiN : i < n := by have := hbn.out; rw [HK.out] at this; omega
          have hbit : Big.V Q n / 2 ^ j % 2 = 0 := (over_mod (by rw [HVQ.out]; exact Nat.mul_mod_right _ _)).2.2
          rw [hip, bit_at HR2.out.ws hiN hp] at hbit
          have hpp : 2 ^ p < 4294967296 := by have : 2 ^ p < 2 ^ 32 := Nat.pow_lt_pow_right (by omega) hp; omega
          have hor := bits_or_u64_nat (Q i) (2 ^ p) (by have := HR2.out.ws i; unfold Big.B at this; omega) (by omega)
          rw [set_bit hbit] at hor
          have hroom := set_room (HR2.out.ws i) hp hbit
          have sh1 : IntKind.u64.wrap (1 * (2 : Int) ^ p) = ((2 ^ p : Nat) : Int) := by rw [Int.one_mul, pow_cast]; exact wrap_nat64 (by omega)
          have sh2 : IntKind.u64.wrap ((2 : Int) ^ p) = ((2 ^ p : Nat) : Int) := by rw [pow_cast]; exact wrap_nat64 (by omega)
          have d1 : (j : Int) / 32 = (i : Int) := by omega
          have d2 : (j : Int) % 32 = (p : Int) := by omega
          have d3 : (j : Int).tdiv 32 = (i : Int) := by rw [Int.tdiv_eq_ediv_of_nonneg (by omega)]; exact d1
          have d4 : (j : Int).tmod 32 = (p : Int) := by rw [Int.tmod_eq_emod_of_nonneg (by omega)]; exact d2
          have HVP : Hid (Big.V (Big.put Q i (Q i + 2 ^ p)) n = Big.V Q n + 2 ^ j) := by
            show _ = _
            rw [V_put hiN, hip, Nat.pow_add, ← D_pow, Nat.mul_comm (2 ^ p)]
          have HRM : Hid (Q i + 2 ^ p < Big.B) := hroom
          generalize 2 ^ p = t at *
          generalize hk1 : ord T Y = oo at *
          clear c2 hbit hip hk1 hroom
          go_wp2_with fail
          refine CM.mono ?_
          rintro e w4 ⟨rfl, b4⟩
          have B4 : Below w.heap.size w w4 := B2.trans (b4.mono (by omega))
          have a4 := a3.below b4
          have HR4 : Hid (Big.D.Row w4 w.heap.size n Q) := HR2.out.below b4
          have h4 : w.heap.size < w4.heap.size := Nat.lt_of_lt_of_le h2 b4.size
          have MN := dsub_new a4.nat (HAB.out.2.below B4) HFT.out HLE.out
          clear CM b4 a3
          go_wp2_with fail
          refine MN.mono ?_
          rintro e w5 ⟨v5, rfl, n5, b5⟩
          have B5 : Below w.heap.size w w5 := B4.trans (b5.mono (by omega))
          have a5 : DapV w5 w.heap.size v5 (T - Y) := n5.apart h4
          have R5 := HR4.out.below b5
          have HR5 : Hid (Big.D.Row w5 w.heap.size n Q) := R5
          have cz := R5.row.cell (i := i) hiN
          have fz := R5.row.frozen i
          clear MN b5 n5 a4 B4 R5
          obtain ⟨w6, hw6⟩ : ∃ w6, w6 = w5.setCell ⟨w.heap.size, i, none⟩ (.int .u64 (((Q i : Nat) : Int) + (t : Int))) := ⟨_, rfl⟩
          have B6 : Below w.heap.size w w6 := by rw [hw6]; exact B5.setCell (Nat.le_refl _) _
          have R6 : Big.D.Row w6 w.heap.size n (Big.put Q i (Q i + t)) := by rw [hw6, ← Int.natCast_add]; exact HR5.out.set i HRM.out
          have a6 : DapV w6 w.heap.size v5 (T - Y) := by rw [hw6]; exact a5.set i _
          have HW6 : Hid (w6 = w5.setCell ⟨w.heap.size, i, none⟩ (.int .u64 (((Q i : Nat) : Int) + (t : Int)))) := hw6
          have HR6 : Hid (Big.D.Row w6 w.heap.size n (Big.put Q i (Q i + t))) := R6
          clear hw6 R6
          go_wp2
          go_roundw
          case rel =>
            rw [← HW6.out]
            exact ⟨j, T - Y, Big.put Q i (Q i + t), by go_num, by omega, HR6.out, B6, a6, ⟨HN.out.1, by rw [HVP.out]; exact HN.out.2⟩⟩
          case measure => simp [intOf]
      · subst z
        have bA : Below w2.heap.size w2 (w2.alloc (.cells #[.int .u64 1] 24)) := (Below.refl _ _).alloc (Nat.le_refl _) _
        have AD := dadd_new (a2.nat.below bA) (dnat_one w2) (fits_le HFR.out (by omega) (by omega)) (two_fits (s := 0) (k := 1000) (by omega))
        go_wp2_with fail
        refine BT.mono ?_
        rintro e w2 ⟨rfl, rfl⟩
        go_wp2_with fail
        refine AD.mono ?_
        rintro e w3 ⟨v3, rfl, n3, b3⟩
        have b3' : Below w2.heap.size w2 w3 := bA.trans (b3.mono (by simp))
        have B3 : Below w.heap.size w w3 := B2.trans (b3'.mono (by omega))
        have a3 : DapV w3 w.heap.size v3 (R * 2 ^ 1 + 1) := n3.apart (by simp; omega)
        have h3 : w.heap.size < w3.heap.size := Nat.lt_of_lt_of_le h2 b3'.size
        have HR3 : Hid (Big.D.Row w3 w.heap.size n Q) := HR2.out.below b3'
        have CM := dcmp_nat a3.nat (HAB.out.2.below B3)
        clear BT a2 AD bA b3 b3' n3 HR2 B2 h2
        generalize hT : R * 2 ^ 1 + 1 = T at *
        have HT : Hid (T = 2 * R + X / 2 ^ j % 2) := by rw [HBT.out, ← hT]; show _ = _; omega
        have HFT : Hid (Fits 1000 T) := fits_le HFR.out (by omega) (by omega)
        clear hT
        by_cases c2 : T < Y
        · rw [ord_lt c2] at CM
          have HN : Hid (T = X / 2 ^ j % Y ∧ Big.V Q n = 2 ^ j * (X / 2 ^ j / Y)) := by
            have d := HDV.out
            rw [← HT.out, if_neg (by omega), if_neg (by omega)] at d
            refine ⟨d.1, ?_⟩
            rw [d.2, HVQ.out, Nat.pow_succ, Nat.add_zero, Nat.mul_assoc]
          clear c2
          go_wp2_with fail
          refine CM.mono ?_
          rintro e w4 ⟨rfl, b4⟩
          have B4 : Below w.heap.size w w4 := B3.trans (b4.mono (by omega))
          have a4 := a3.below b4
          have HR4 : Hid (Big.D.Row w4 w.heap.size n Q) := HR3.out.below b4
          clear CM b4 a3
          go_wp2
          go_roundw
          case rel => exact ⟨j, T, Q, by go_num, by omega, HR4.out, B4, a4, HN.out⟩
          case measure => simp [intOf]
        · have ho : ¬ ord T Y < 0 := fun z => c2 (ord_neg' z)
          have HLE : Hid (Y ≤ T) := Nat.le_of_not_lt c2
          have HN : Hid (T - Y = X / 2 ^ j % Y ∧ Big.V Q n + 2 ^ j = 2 ^ j * (X / 2 ^ j / Y)) := by
            have d := HDV.out
            rw [← HT.out, if_pos (by omega), if_pos (by omega)] at d
            refine ⟨d.1, ?_⟩
            rw [d.2, HVQ.out, Nat.pow_succ, Nat.mul_add, Nat.mul_one, Nat.mul_assoc]
          obtain ⟨i, p, hip, hp⟩ : ∃ i p, j = 32 * i + p ∧ p < 32 := ⟨j / 32, j % 32, by omega, by omega⟩
          have hiN : i < n := by have := hbn.out; rw [HK.out] at this; omega
          have hbit : Big.V Q n / 2 ^ j % 2 = 0 := (over_mod (by rw [HVQ.out]; exact Nat.mul_mod_right _ _)).2.2
          rw [hip, bit_at HR3.out.ws hiN hp] at hbit
          have hpp : 2 ^ p < 4294967296 := by have : 2 ^ p < 2 ^ 32 := Nat.pow_lt_pow_right (by omega) hp; omega
          have hor := bits_or_u64_nat (Q i) (2 ^ p) (by have := HR3.out.ws i; unfold Big.B at this; omega) (by omega)
          rw [set_bit hbit] at hor
          have hroom := set_room (HR3.out.ws i) hp hbit
          have sh1 : IntKind.u64.wrap (1 * (2 : Int) ^ p) = ((2 ^ p : Nat) : Int) := by rw [Int.one_mul, pow_cast]; exact wrap_nat64 (by omega)
          have sh2 : IntKind.u64.wrap ((2 : Int) ^ p) = ((2 ^ p : Nat) : Int) := by rw [pow_cast]; exact wrap_nat64 (by omega)
          have d1 : (j : Int) / 32 = (i : Int) := by omega
          have d2 : (j : Int) % 32 = (p : Int) := by omega
          have d3 : (j : Int).tdiv 32 = (i : Int) := by rw [Int.tdiv_eq_ediv_of_nonneg (by omega)]; exact d1
          have d4 : (j : Int).tmod 32 = (p : Int) := by rw [Int.tmod_eq_emod_of_nonneg (by omega)]; exact d2
          have HVP : Hid (Big.V (Big.put Q i (Q i + 2 ^ p)) n = Big.V Q n + 2 ^ j) := by
            show _ = _
            rw [V_put hiN, hip, Nat.pow_add, ← D_pow, Nat.mul_comm (2 ^ p)]
          have HRM : Hid (Q i + 2 ^ p < Big.B) := hroom
          generalize 2 ^ p = t at *
          generalize hk1 : ord T Y = oo at *
          clear c2 hbit hip hk1 hroom
          go_wp2_with fail
          refine CM.mono ?_
          rintro e w4 ⟨rfl, b4⟩
          have B4 : Below w.heap.size w w4 := B3.trans (b4.mono (by omega))
          have a4 := a3.below b4
          have HR4 : Hid (Big.D.Row w4 w.heap.size n Q) := HR3.out.below b4
          have h4 : w.heap.size < w4.heap.size := Nat.lt_of_lt_of_le h3 b4.size
          have MN := dsub_new a4.nat (HAB.out.2.below B4) HFT.out HLE.out
          clear CM b4 a3
          go_wp2_with fail
          refine MN.mono ?_
          rintro e w5 ⟨v5, rfl, n5, b5⟩
          have B5 : Below w.heap.size w w5 := B4.trans (b5.mono (by omega))
          have a5 : DapV w5 w.heap.size v5 (T - Y) := n5.apart h4
          have R5 := HR4.out.below b5
          have HR5 : Hid (Big.D.Row w5 w.heap.size n Q) := R5
          have cz := R5.row.cell (i := i) hiN
          have fz := R5.row.frozen i
          clear MN b5 n5 a4 B4 R5
          obtain ⟨w6, hw6⟩ : ∃ w6, w6 = w5.setCell ⟨w.heap.size, i, none⟩ (.int .u64 (((Q i : Nat) : Int) + (t : Int))) := ⟨_, rfl⟩
          have B6 : Below w.heap.size w w6 := by rw [hw6]; exact B5.setCell (Nat.le_refl _) _
          have R6 : Big.D.Row w6 w.heap.size n (Big.put Q i (Q i + t)) := by rw [hw6, ← Int.natCast_add]; exact HR5.out.set i HRM.out
          have a6 : DapV w6 w.heap.size v5 (T - Y) := by rw [hw6]; exact a5.set i _
          have HW6 : Hid (w6 = w5.setCell ⟨w.heap.size, i, none⟩ (.int .u64 (((Q i : Nat) : Int) + (t : Int)))) := hw6
          have HR6 : Hid (Big.D.Row w6 w.heap.size n (Big.put Q i (Q i + t))) := R6
          clear hw6 R6
          go_wp2
          go_roundw
          case rel =>
            rw [← HW6.out]
            exact ⟨j, T - Y, Big.put Q i (Q i + t), by go_num, by omega, HR6.out, B6, a6, ⟨HN.out.1, by rw [HVP.out]; exact HN.out.2⟩⟩
          case measure => simp [intOf]
end Go.Proofs.YtkmnkogbafhfdaaDoor
