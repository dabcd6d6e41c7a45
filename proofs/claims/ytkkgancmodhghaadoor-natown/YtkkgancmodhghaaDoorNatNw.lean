/-
  What nat's Add, Mul, Div, Shl, Shr answer of numbers lies in memory of its own.
-/
import Derived.Test.YtkkgancmodhghaaDoorNatU
import Derived.Test.YtkkgancmodhghaaDoorNatFl
namespace Go.Proofs.YtkkgancmodhghaaDoor
open Go.RowKit

/-- A number in a row of its own, that is not below the block base, with no room behind. -/
def NewN (w : World) (base : Nat) (v : Value) (X : Nat) : Prop := NatV w v X ∧ (v = .slice none 0 0 ∨ ∃ g k N F, v = .slice (some ⟨g, 0, none⟩) k k ∧ k ≤ N ∧ k ≤ 128 ∧ Row w g N F ∧ base ≤ g)
theorem NewN.below {w w' : World} {base : Nat} {v : Value} {X : Nat} (h : NewN w base v X) (hb : Below w.heap.size w w') : NewN w' base v X := by
  obtain ⟨n, q⟩ := h
  refine ⟨n.below hb, ?_⟩
  rcases q with q | ⟨g, k, N, F, e, a, b, R, c⟩
  · exact Or.inl q
  · exact Or.inr ⟨g, k, N, F, e, a, b, R.below hb, c⟩
theorem NewN.mono {w : World} {base base' : Nat} {v : Value} {X : Nat} (h : NewN w base v X) (hb : base' ≤ base) : NewN w base' v X := by
  obtain ⟨n, q⟩ := h
  refine ⟨n, ?_⟩
  rcases q with q | ⟨g, k, N, F, e, a, b, R, c⟩
  · exact Or.inl q
  · exact Or.inr ⟨g, k, N, F, e, a, b, R, Nat.le_trans hb c⟩
theorem newn_nil (w : World) (base : Nat) : NewN w base (.slice none 0 0) 0 := ⟨natv_nil w, Or.inl rfl⟩
theorem newn_tl {w : World} {g N : Nat} {F : Nat → Nat} (R : Row w g N F) (hN : N ≤ maxLen) {X : Nat} (hX : V F N = X) (hlt : X < B ^ 128) {base : Nat} (hb : base ≤ g) :
    NewN w base (.slice (some ⟨g, 0, none⟩) (tl F N) (tl F N)) X ∧ tl F N ≤ 128 := by
  obtain ⟨a, b⟩ := natv_tl R hN hX hlt
  exact ⟨⟨a, Or.inr ⟨g, tl F N, N, F, rfl, tl_le F N, b, R, hb⟩⟩, b⟩

set_option maxRecDepth 100000 in
set_option maxHeartbeats 1000000 in
theorem add_new {w : World} {va vb : Value} {X Y : Nat} (ha : NatV w va X) (hb : NatV w vb Y) (h : X + Y < B ^ 128) :
    Calls Tryd.prog 10 #[va, vb] w fun e w' => ∃ v, e = .returned (.tuple #[v, .nilIface]) ∧ NewN w' w.heap.size v (X + Y) ∧ Below w.heap.size w w' := by
  obtain ⟨ao, n, c, b, o, f, rfl, S, t, rfl, hn⟩ := ha
  obtain ⟨bo, m, cb, bb, ob, G, rfl, S', t', rfl, hm⟩ := hb
  have h1 := both_any S S'
  rw [verr2_ok hn t hm t'] at h1
  unfold errV at h1
  have HH : Hid (V f n + V G m < B ^ 128) := h
  clear h
  by_cases hlt : n < m
  · skip
    have hmk := run_make_row' (P := Tryd.prog) 23 35 (.int .u64 0) 8 und_nat info_u64 rfl .i64 .i64 (m + 1) (by omega) (by omega)
    simp only [Int.natCast_add, Int.natCast_one] at hmk
    go_enter Tryd.func10, Tryd.ntmps10
    go_wp2_with fail
    refine h1.mono ?_
    rintro e wb ⟨rfl, hb1⟩
    have S1 := S'.below hb1
    have S1' := S.below hb1
    have bA : Below wb.heap.size wb (wb.alloc (.cells (madeCells #[.int .u64 0] (m + 1)) 35)) := (Below.refl _ _).alloc (Nat.le_refl _) _
    obtain ⟨w2, hcp, R2, hg2⟩ := copy_run (cz := m + 1) (made_row wb (m + 1)) (S1.below bA) (Nat.le_succ m)
    have b2 : Below wb.heap.size wb w2 := below_grown bA hg2 (Nat.le_refl _)
    have eV : V (fun i => (fun i => if i < m then G i else 0) (0 + i)) (m + 1) = V G m := by
      have a := cpy_V (f := G) (n := m) (N := m + 1) (by omega)
      rw [← a]
      exact V_congr fun i hi => by show (if 0 + i < m then G (0 + i) else 0) = cpy G m i; unfold cpy; rw [Nat.zero_add]
    have hfit : V G m + V f n < B ^ (m + 1) := by
      have p := V_lt S'.ws m
      have q := V_lt S.ws n
      have r : B ^ n ≤ B ^ m := Nat.pow_le_pow_right B_pos (by omega)
      have s : 2 * B ^ m ≤ B ^ (m + 1) := by rw [Nat.pow_succ, Nat.mul_comm]; exact Nat.mul_le_mul_left _ (by decide)
      omega
    have D := increase_any (o := 0) (n := m + 1) (c := m + 1) R2 (by omega) (Nat.le_refl _) (by unfold maxLen; omega) (S1'.below b2) (fun q => Nat.ne_of_lt (S1'.blk q)) (by omega) (by rw [eV]; exact hfit)
    rw [eV] at D
    have b3 : Below w.heap.size w w2 := hb1.trans (b2.mono hb1.size)
    have hsz := hb1.size
    clear R2 hg2 bA b2 eV hfit
    go_wp2_with fail
    refine D.mono ?_
    rintro e w3 ⟨rfl, hg3, F, R3, _, hv⟩
    have b4 : Below w.heap.size w w3 := below_grown b3 hg3 hsz
    have e0 : (fun i => F (0 + i)) = F := funext fun i => by rw [Nat.zero_add]
    rw [e0] at hv
    obtain ⟨nv, hl⟩ := newn_tl R3 (by unfold maxLen; omega) (X := V f n + V G m) (by rw [hv]; exact Nat.add_comm _ _) HH.out (base := w.heap.size) hsz
    have TT := fit_ok (row_sl0 R3 (by unfold maxLen; omega)) hl
    go_wp2_with fail
    refine TT.mono ?_
    rintro e w4 ⟨rfl, rfl⟩
    go_wp2
    refine bodyPost_ret (v := .tuple #[.slice (some ⟨wb.heap.size, 0, none⟩) (tl F (m + 1)) (tl F (m + 1)), .nilIface]) (by simp [results, Tryd.results10, go_sem]) rfl ⟨_, rfl, nv, b4⟩
  · skip
    have hmk := run_make_row' (P := Tryd.prog) 23 35 (.int .u64 0) 8 und_nat info_u64 rfl .i64 .i64 (n + 1) (by omega) (by omega)
    simp only [Int.natCast_add, Int.natCast_one] at hmk
    go_enter Tryd.func10, Tryd.ntmps10
    go_wp2_with fail
    refine h1.mono ?_
    rintro e wb ⟨rfl, hb1⟩
    have S1 := S.below hb1
    have S1' := S'.below hb1
    have bA : Below wb.heap.size wb (wb.alloc (.cells (madeCells #[.int .u64 0] (n + 1)) 35)) := (Below.refl _ _).alloc (Nat.le_refl _) _
    obtain ⟨w2, hcp, R2, hg2⟩ := copy_run (cz := n + 1) (made_row wb (n + 1)) (S1.below bA) (Nat.le_succ n)
    have b2 : Below wb.heap.size wb w2 := below_grown bA hg2 (Nat.le_refl _)
    have eV : V (fun i => (fun i => if i < n then f i else 0) (0 + i)) (n + 1) = V f n := by
      have a := cpy_V (f := f) (n := n) (N := n + 1) (by omega)
      rw [← a]
      exact V_congr fun i hi => by show (if 0 + i < n then f (0 + i) else 0) = cpy f n i; unfold cpy; rw [Nat.zero_add]
    have hfit : V f n + V G m < B ^ (n + 1) := by
      have p := V_lt S.ws n
      have q := V_lt S'.ws m
      have r : B ^ m ≤ B ^ n := Nat.pow_le_pow_right B_pos (by omega)
      have s : 2 * B ^ n ≤ B ^ (n + 1) := by rw [Nat.pow_succ, Nat.mul_comm]; exact Nat.mul_le_mul_left _ (by decide)
      omega
    have D := increase_any (o := 0) (n := n + 1) (c := n + 1) R2 (by omega) (Nat.le_refl _) (by unfold maxLen; omega) (S1'.below b2) (fun q => Nat.ne_of_lt (S1'.blk q)) (by omega) (by rw [eV]; exact hfit)
    rw [eV] at D
    have b3 : Below w.heap.size w w2 := hb1.trans (b2.mono hb1.size)
    have hsz := hb1.size
    clear R2 hg2 bA b2 eV hfit
    go_wp2_with fail
    refine D.mono ?_
    rintro e w3 ⟨rfl, hg3, F, R3, _, hv⟩
    have b4 : Below w.heap.size w w3 := below_grown b3 hg3 hsz
    have e0 : (fun i => F (0 + i)) = F := funext fun i => by rw [Nat.zero_add]
    rw [e0] at hv
    obtain ⟨nv, hl⟩ := newn_tl R3 (by unfold maxLen; omega) (X := V f n + V G m) (by rw [hv]) HH.out (base := w.heap.size) hsz
    have TT := fit_ok (row_sl0 R3 (by unfold maxLen; omega)) hl
    go_wp2_with fail
    refine TT.mono ?_
    rintro e w4 ⟨rfl, rfl⟩
    go_wp2
    refine bodyPost_ret (v := .tuple #[.slice (some ⟨wb.heap.size, 0, none⟩) (tl F (n + 1)) (tl F (n + 1)), .nilIface]) (by simp [results, Tryd.results10, go_sem]) rfl ⟨_, rfl, nv, b4⟩


set_option maxHeartbeats 1000000 in
theorem mul_new {w : World} {va vb : Value} {X Y : Nat} (ha : NatV w va X) (hb : NatV w vb Y) (h : X * Y < B ^ 128) :
    Calls Tryd.prog 22 #[va, vb] w fun e w' => ∃ v, e = .returned (.tuple #[v, .nilIface]) ∧ NewN w' w.heap.size v (X * Y) ∧ Below w.heap.size w w' := by
  obtain ⟨ao, n, c, b, o, f, rfl, S, t, rfl, hn⟩ := ha
  obtain ⟨bo, m, cb, bb, ob, G, rfl, S', t', rfl, hm⟩ := hb
  have h1 := both_any S S'
  rw [verr2_ok hn t hm t'] at h1
  unfold errV at h1
  have HH : Hid (V f n * V G m < B ^ 128) := h
  clear h
  go_enter Tryd.func22, Tryd.ntmps22
  go_wp2_with fail
  refine h1.mono ?_
  rintro e wa ⟨rfl, hba⟩
  have T := multiply_any (S.below hba) (S'.below hba) (by omega) (by omega)
  go_wp2_with fail
  refine T.mono ?_
  rintro e wb ⟨rfl, hbb, F, R, hv⟩
  obtain ⟨nv, hl⟩ := newn_tl R (by unfold maxLen; omega) hv HH.out (base := w.heap.size) hba.size
  have FT := fit_ok (row_sl0 R (by unfold maxLen; omega)) hl
  go_wp2_with fail
  refine FT.mono ?_
  rintro e wc ⟨rfl, rfl⟩
  go_wp2
  refine bodyPost_ret (v := .tuple #[.slice (some ⟨wa.heap.size, 0, none⟩) (tl F (n + m)) (tl F (n + m)), .nilIface]) (by simp [results, Tryd.results22, go_sem]) rfl ⟨_, rfl, nv, hba.trans (hbb.mono hba.size)⟩


set_option maxRecDepth 100000 in
set_option maxHeartbeats 4000000 in
theorem divide_new {w : World} (hT : Tab w) {ao : Option Addr} {n ca ba oa : Nat} {f : Nat → Nat} (S : Sl w ao n ca ba oa f) (hn : n ≤ 128) {bo : Option Addr} {m cb bb ob : Nat} {G : Nat → Nat} (S' : Sl w bo m cb bb ob G) (hm : m ≤ 128) (hm0 : 0 < m) (h0 : G (m - 1) ≠ 0) :
    Calls Tryd.prog 57 #[.slice ao n ca, .slice bo m cb] w fun e w' => ∃ v1 v2, e = .returned (.tuple #[v1, v2]) ∧ NewN w' w.heap.size v1 (V f n / V G m) ∧ NewN w' w.heap.size v2 (V f n % V G m) ∧ Below w.heap.size w w' := by
  obtain ⟨s, es, hs, hx⟩ := lead_nat h0 (S'.ws (m - 1))
  obtain rfl := S'.addr hm0
  have cb0 := S'.cell (m - 1) (by omega)
  have L1 := lead64_any ((G (m - 1) : Nat) : Int) ⟨by omega, by have := S'.ws (m - 1); unfold B at this; omega⟩ w
  rw [es] at L1
  have U1 := shiftUp_any S' (by omega) s 0 s (by omega) hs (by omega)
  rw [Nat.zero_add] at U1
  have HS : Hid (Sl w ao n ca ba oa f) := S
  have HS' : Hid (Sl w (some ⟨bb, ob, none⟩) m cb bb ob G) := S'
  clear S S' es
  go_enter Tryd.func57, Tryd.ntmps57
  go_wp2_with fail
  refine L1.mono ?_
  rintro e w0 ⟨rfl, rfl⟩
  go_wp2_with fail
  refine U1.mono ?_
  rintro e w1 ⟨rfl, hb1, Fd, Rd, hvd⟩
  have hld := div_len HS'.out.ws Rd.ws hm0 hs h0 hx hvd
  have T1 := trim_any (row_sl0 Rd (by unfold maxLen; omega))
  rw [hld] at T1
  have U2 := shiftUp_any (HS.out.below hb1) (by omega) s 0 s (by omega) hs (by omega)
  rw [Nat.zero_add] at U2
  go_wp2_with fail
  refine T1.mono ?_
  rintro e w1' ⟨rfl, rfl⟩
  go_wp2_with fail
  refine U2.mono ?_
  rintro e w2 ⟨rfl, hb2, Fr, Rr, hvr⟩
  have Rd2 := Rd.below hb2
  have hB2 : Below w0.heap.size w0 w2 := hb1.trans (hb2.mono hb1.size)
  have HB0 : Hid (w0.heap.size ≤ w2.heap.size) := hB2.size
  have hgd : w0.heap.size < w1'.heap.size := Rd.row.lt
  have hg1 := Rd2.row.lt
  have hsz1 := hb1.size
  have hg2 := Rr.row.lt
  clear Rd T1 U1 U2 L1 cb0
  obtain ⟨L, hL⟩ : ∃ L, L + m = n + 1 ∨ (n + 1 < m ∧ L = 0) := by
    rcases Nat.lt_or_ge (n + 1) m with q | q
    · exact ⟨0, Or.inr ⟨q, rfl⟩⟩
    · exact ⟨n + 1 - m, Or.inl (by omega)⟩
  have hLs : L ≤ 129 := by omega
  have hDlt : V Fd (m + 1) < B ^ m := by
    have q := tl_V Fd (m + 1)
    rw [hld] at q
    rw [← q]; exact V_lt Rd2.ws m
  have hini := div_init (s := s) HS.out.ws hm0 h0 hL
  rw [← hvd, ← hvr] at hini
  have hDpos : 0 < V Fd (m + 1) := by
    rcases Nat.eq_zero_or_pos (V Fd (m + 1)) with q | q
    · rw [q, Nat.zero_mul] at hini; omega
    · exact q
  have hdt : Fd (m - 1) ≠ 0 := by
    have q := tl_top Fd (m + 1)
    rw [hld] at q
    exact q.resolve_left (by omega)
  have HI : Hid (V Fr (n + 1) < V Fd (m + 1) * B ^ L ∧ V Fd (m + 1) < B ^ m ∧ 0 < V Fd (m + 1) ∧ Fd (m - 1) ≠ 0 ∧ V Fd (m + 1) = V G m * 2 ^ s ∧ V Fr (n + 1) = V f n * 2 ^ s ∧ tl Fd (m + 1) = m) := ⟨hini, hDlt, hDpos, hdt, hvd, hvr, hld⟩
  clear hini hDlt hDpos hdt hvd hvr hld h0 hx
  have hmp := run_make_row' (P := Tryd.prog) 23 35 (.int .u64 0) 8 und_nat info_u64 rfl .i64 .i64 (m + 1) (by omega) (by omega)
  simp only [Int.natCast_add, Int.natCast_one] at hmp
  have hmq0 := run_make_row' (P := Tryd.prog) 23 35 (.int .u64 0) 8 und_nat info_u64 rfl .i64 .i64 L (by omega) (by omega)
  have HLL : Hid (L + m = n + 1 ∨ (n + 1 < m ∧ L = 0)) := hL
  clear hL
  rcases Nat.lt_or_ge m (n + 1) with hL | hL
  · have hmq : ∀ W : World, (Instr.makeSlice 23 (.int .i64 ((n : Int) + 1 - (m : Int))) (.int .i64 ((n : Int) + 1 - (m : Int)))).run Tryd.prog W = .ok (.slice (some ⟨W.heap.size, 0, none⟩) L L) (W.alloc (.cells (madeCells #[.int .u64 0] L) 35)) := by
      intro W
      have q := hmq0 W
      rw [show (L : Int) = (n : Int) + 1 - (m : Int) by have := HLL.out; omega] at q
      exact q
    have hpos : (0 : Int) < (n : Int) + 1 - (m : Int) := by omega
    clear hmq0
    have eD : V Fd (m + 1) = V Fd m := by
      have q := tl_V Fd (m + 1)
      rw [HI.out.2.2.2.2.2.2] at q
      exact q.symm
    have HE : Hid (V Fd (m + 1) = V Fd m) := eD
    clear eD
    go_wp2
    clear hmq hmp
    go_loopw [11] (fun i wr => ∃ (k : Nat) (Fr' Fq Fp : Nat → Nat), i = .int .i64 ((k : Int) - 1) ∧ k ≤ L ∧ Row wr w0.heap.size (m + 1) Fd ∧ Row wr w1'.heap.size (n + 1) Fr' ∧ Row wr w2.heap.size L Fq ∧ Row wr (w2.heap.size + 1) (m + 1) Fp ∧ Below w0.heap.size w0 wr ∧ (∀ j, j < k → Fq j = 0) ∧ V Fr' (n + 1) + V Fq L * V Fd m = V f n * 2 ^ s ∧ V Fr' (n + 1) < V Fd m * B ^ k) (fun i _ => (intOf i + 1).toNat)
    case atStart =>
      refine ⟨L, Fr, fun _ => 0, fun _ => 0, rfl, Nat.le_refl _, (Rd2.alloc _).alloc _, (Rr.alloc _).alloc _, (made_row w2 L).alloc _, ?_, ((hB2.alloc (by omega) _).alloc (by simp; omega) _), fun _ _ => rfl, ?_, ?_⟩
      · have q := made_row (w2.alloc (.cells (madeCells #[.int .u64 0] L) 35)) (m + 1)
        rw [World.size_alloc] at q
        exact q
      · rw [V_nought, Nat.zero_mul, Nat.add_zero]; exact HI.out.2.2.2.2.2.1
      · rw [← HE.out]; exact HI.out.1
    case round =>
      obtain ⟨k, Fr', Fq, Fp, rfl, hk, Rd3, Rr3, Rq3, Rp3, hbl, hz, hsum, hlt⟩ := hrel
      have HR : Hid (Row wr w0.heap.size (m + 1) Fd ∧ Row wr w1'.heap.size (n + 1) Fr' ∧ Row wr w2.heap.size L Fq ∧ Row wr (w2.heap.size + 1) (m + 1) Fp ∧ Below w0.heap.size w0 wr) := ⟨Rd3, Rr3, Rq3, Rp3, hbl⟩
      have HV : Hid ((∀ j, j < k → Fq j = 0) ∧ V Fr' (n + 1) + V Fq L * V Fd m = V f n * 2 ^ s ∧ V Fr' (n + 1) < V Fd m * B ^ k) := ⟨hz, hsum, hlt⟩
      clear hz hsum hlt
      by_cases c1 : 0 < k
      · obtain ⟨i, rfl⟩ : ∃ i, k = i + 1 := ⟨k - 1, by omega⟩
        have hiL : i < L := by omega
        have hiN : i + m + 1 ≤ n + 1 := by have := HLL.out; omega
        have hDm : V Fd m < B ^ m := by rw [← HE.out]; exact HI.out.2.1
        have hDp : 0 < V Fd m := by rw [← HE.out]; exact HI.out.2.2.1
        obtain ⟨x1, x2, x3⟩ := div_window (m := m) hDm hiN HV.out.2.2
        have SP := Rr3.sl (o := i) (n := m + 1) (c := n + 1 - i) (by omega) (by omega) (by unfold maxLen; omega)
        have SD : Sl wr (some ⟨w0.heap.size, 0, none⟩) m m w0.heap.size 0 Fd := by
          have q := Rd3.sl (o := 0) (n := m) (c := m) (by omega) (Nat.le_refl _) (by unfold maxLen; omega)
          rw [show (fun i => Fd (0 + i)) = Fd from funext fun i => by rw [Nat.zero_add]] at q
          exact q
        have Q1 := quotientWord_any (t := m - 1) (n := m) (m := m + 1) (by omega) rfl SP SD HI.out.2.2.2.1 (by omega) Rp3 (by omega) (by omega) x2
        have HX : Hid (V Fr' (n + 1) = V Fr' i + V (fun j => Fr' (i + j)) (m + 1) * B ^ i ∧ V (fun j => Fr' (i + j)) (n + 1 - i) = V (fun j => Fr' (i + j)) (m + 1) ∧ 0 < V Fd m) := ⟨x1, x3, hDp⟩
        have qlt : V (fun j => Fr' (i + j)) (m + 1) / V Fd m < B := by rw [Nat.div_lt_iff_lt_mul hDp, Nat.mul_comm]; exact x2
        have HQL : Hid (V (fun j => Fr' (i + j)) (m + 1) / V Fd m < B) := qlt
        clear x1 x2 x3 SP SD hDm hDp Rd3 Rr3 Rq3 Rp3 hbl qlt
        obtain ⟨q, hq⟩ : ∃ q, V (fun j => Fr' (i + j)) (m + 1) / V Fd m = q := ⟨_, rfl⟩
        have HQ : Hid (q = V (fun j => Fr' (i + j)) (m + 1) / V Fd m) := hq.symm
        rw [hq] at Q1
        have HQB : Hid (q < B) := by rw [← hq]; exact HQL.out
        clear hq HQL
        rw [show ((i + 1 : Nat) : Int) - 1 = (i : Int) by omega]
        go_wp2_with fail
        refine Q1.mono ?_
        rintro e w5 ⟨rfl, hg5, F5, R5, hv5⟩
        have Rq5 := HR.out.2.2.1.kept hg5 (by omega)
        have cz := Rq5.row.cell hiL
        have fz := Rq5.row.frozen i
        have Rr6 := (HR.out.2.1.kept hg5 (by omega)).setOther (a := ⟨w2.heap.size, i, none⟩) (Nat.ne_of_lt hg2) (.int .u64 (q : Int))
        have Rp6 := R5.setOther (a := ⟨w2.heap.size, i, none⟩) (Nat.succ_ne_self _) (.int .u64 (q : Int))
        have Rd6 := (HR.out.1.kept hg5 (by omega)).setOther (a := ⟨w2.heap.size, i, none⟩) (by show w0.heap.size ≠ w2.heap.size; omega) (.int .u64 (q : Int))
        have Rq6 := Rq5.set i HQB.out
        have hqle : V F5 (m + 1) ≤ V (fun j => Fr' (i + j)) (m + 1) := by rw [hv5, HQ.out]; exact Nat.div_mul_le_self _ _
        have DD := decrease_any (o := i) (n := m + 1) (c := n + 1 - i) Rr6 (by omega) (by omega) (by unfold maxLen; omega) (row_sl0 Rp6 (by unfold maxLen; omega)) (fun _ => by omega) (Nat.le_refl _) hqle
        have hb6 : Below w0.heap.size w0 (w5.setCell ⟨w2.heap.size, i, none⟩ (.int .u64 (q : Int))) := (below_grown HR.out.2.2.2.2 hg5 (by omega)).setCell (by show w0.heap.size ≤ w2.heap.size; omega) _
        have H6 : Hid (Row (w5.setCell ⟨w2.heap.size, i, none⟩ (.int .u64 (q : Int))) w0.heap.size (m + 1) Fd ∧ Row (w5.setCell ⟨w2.heap.size, i, none⟩ (.int .u64 (q : Int))) w2.heap.size L (put Fq i q) ∧ Row (w5.setCell ⟨w2.heap.size, i, none⟩ (.int .u64 (q : Int))) (w2.heap.size + 1) (m + 1) F5 ∧ Below w0.heap.size w0 (w5.setCell ⟨w2.heap.size, i, none⟩ (.int .u64 (q : Int))) ∧ V F5 (m + 1) = q * V Fd m) := ⟨Rd6, Rq6, Rp6, hb6, hv5⟩
        clear Rd6 Rq6 Rp6 hb6 Rr6 Rq5 hqle hv5 R5 hg5 Q1
        go_wp2_with fail
        refine DD.mono ?_
        rintro e w7 ⟨rfl, hg7, F7, R7, hf7, hv7⟩
        have H7 : Hid (Row w7 w0.heap.size (m + 1) Fd ∧ Row w7 w1'.heap.size (n + 1) F7 ∧ Row w7 w2.heap.size L (put Fq i q) ∧ Row w7 (w2.heap.size + 1) (m + 1) F5 ∧ Below w0.heap.size w0 w7) := ⟨H6.out.1.kept hg7 (by omega), R7, H6.out.2.1.kept hg7 (by omega), H6.out.2.2.1.kept hg7 (by omega), below_grown H6.out.2.2.2.1 hg7 (by omega)⟩
        rw [H6.out.2.2.2.2] at hv7
        have da := div_after (HR.out.2.1.ws) HX.out.2.2 (by omega) HX.out.1 HX.out.2.1 HQ.out hv7 hf7
        have HDA : Hid (V F7 (n + 1) + q * B ^ i * V Fd m = V Fr' (n + 1) ∧ V F7 (n + 1) < V Fd m * B ^ i) := da
        clear da hv7 hf7 R7 hg7 DD cz fz
        go_wp2
        go_roundw
        case rel =>
          refine ⟨i, F7, put Fq i q, F5, by go_num, by omega, H7.out.1, H7.out.2.1, H7.out.2.2.1, H7.out.2.2.2.1, H7.out.2.2.2.2, fun j hj => ?_, ?_, HDA.out.2⟩
          · rw [put_ne (by omega)]; exact HV.out.1 j (by omega)
          · have e1 : V (put Fq i q) L = V Fq L + q * B ^ i := V_put_add (HV.out.1 i (by omega)) hiL
            rw [e1, ← HV.out.2.1, ← HDA.out.1]
            exact div_sum
        case measure => first | (simp [intOf]; done) | (simp [intOf]; omega)
      · obtain rfl : k = 0 := by omega
        clear Rd3 Rr3 Rq3 Rp3 hbl c1
        have hlt := HV.out.2.2
        rw [Nat.pow_zero, Nat.mul_one] at hlt
        obtain ⟨y1, y2⟩ := div_end (Q := V Fq L) (r := V Fr' (n + 1)) (a := V f n) (b := V G m) (s := s) rfl (by rw [← HE.out]; exact HI.out.2.2.2.2.1) HV.out.2.1 hlt
        have hX1 : V f n / V G m < B ^ 128 := Nat.lt_of_le_of_lt (Nat.div_le_self _ _) (Nat.lt_of_lt_of_le (V_lt HS.out.ws n) (Nat.pow_le_pow_right B_pos hn))
        have hX2 : V f n % V G m < B ^ 128 := Nat.lt_of_le_of_lt (Nat.mod_le _ _) (Nat.lt_of_lt_of_le (V_lt HS.out.ws n) (Nat.pow_le_pow_right B_pos hn))
        obtain ⟨nq, hlq⟩ := newn_tl HR.out.2.2.1 (by unfold maxLen; omega) y1 hX1 (base := w0.heap.size) HB0.out
        have T3 := trim_any (row_sl0 HR.out.2.1 (by unfold maxLen; omega))
        have tv := tl_V Fr' (n + 1)
        have tle := tl_le Fr' (n + 1)
        have hbw := HR.out.2.2.2.2
        clear hlt hX1
        go_wp2_with fail
        refine T3.mono ?_
        rintro e w8 ⟨rfl, rfl⟩
        by_cases hz0 : tl Fr' (n + 1) = 0
        · have hv0 : V Fr' (n + 1) = 0 := by rw [← tv, hz0]; rfl
          rw [hv0, Nat.zero_div] at y2
          rw [hz0]
          have SN := shiftDown_none (w := w8) (ao := some ⟨w1'.heap.size, 0, none⟩) (c := 0) hs
          have TQ := trim_any (row_sl0 HR.out.2.2.1 (by unfold maxLen; omega))
          have TN := trim_any (w := w8) (ao := none) (n := 0) (c := 0) (b := 0) (o := 0) (f := fun _ => 0) ⟨Nat.le_refl _, Nat.zero_le _, fun h => absurd h (by omega), fun h => absurd h (by omega), fun i h => absurd h (by omega), fun _ => B_pos⟩
          have nz : NewN w8 w0.heap.size (.slice none 0 0) (V f n % V G m) := ⟨⟨none, 0, 0, 0, 0, fun _ => 0, rfl, ⟨Nat.le_refl _, Nat.zero_le _, fun h => absurd h (by omega), fun h => absurd h (by omega), fun i h => absurd h (by omega), fun _ => B_pos⟩, Or.inl rfl, y2, by omega⟩, Or.inl rfl⟩
          rw [show tl (fun _ => 0) 0 = 0 from rfl] at TN
          have HF : Hid (NewN w8 w0.heap.size (.slice (some ⟨w2.heap.size, 0, none⟩) (tl Fq L) (tl Fq L)) (V f n / V G m) ∧ NewN w8 w0.heap.size (.slice none 0 0) (V f n % V G m) ∧ Below w0.heap.size w0 w8) := ⟨nq, nz, hbw⟩
          clear nq nz y1 y2 hX2 hbw tv hv0 T3
          generalize tl Fq L = tq at *
          go_wp2_with (first
            | (go_at_call 65; refine SN.mono ?_; rintro e w9 ⟨rfl, rfl⟩)
            | (go_at_call_of 52 (Value.slice (none : Option Addr) 0 0); refine TN.mono ?_; rintro e wA ⟨rfl, rfl⟩)
            | (go_at_call 52; refine TQ.mono ?_; rintro e wB ⟨rfl, rfl⟩))
          refine bodyPost_ret (v := .tuple #[.slice (some ⟨w2.heap.size, 0, none⟩) tq tq, .slice none 0 0]) (by simp [results, Tryd.results57, go_sem]) rfl ⟨_, _, rfl, HF.out.1, HF.out.2.1, HF.out.2.2⟩
        · have SF : Sl w8 (some ⟨w1'.heap.size, 0, none⟩) (tl Fr' (n + 1)) (tl Fr' (n + 1)) w1'.heap.size 0 Fr' := by
            have q := HR.out.2.1.sl (o := 0) (n := tl Fr' (n + 1)) (c := tl Fr' (n + 1)) (by omega) (Nat.le_refl _) (by unfold maxLen; omega)
            rw [show (fun i => Fr' (0 + i)) = Fr' from funext fun i => by rw [Nat.zero_add]] at q
            exact q
          have hne : V Fr' (tl Fr' (n + 1)) ≠ 0 := by
            have q := Top_ge (tl_top Fr' (n + 1)) (by omega)
            have := Bp_pos (tl Fr' (n + 1) - 1)
            omega
          have SN := shiftDown_any (hT.next hbw) SF (by omega) s 0 s (by omega) hs (by omega) hne
          rw [tv, Nat.sub_zero, y2] at SN
          have TQ := trim_any (row_sl0 HR.out.2.2.1 (by unfold maxLen; omega))
          have HF : Hid (NewN w8 w0.heap.size (.slice (some ⟨w2.heap.size, 0, none⟩) (tl Fq L) (tl Fq L)) (V f n / V G m) ∧ Row w8 w2.heap.size L Fq ∧ Below w0.heap.size w0 w8) := ⟨nq, HR.out.2.2.1, hbw⟩
          have HM : Hid (V f n % V G m < B ^ 128) := hX2
          have hln : tl Fr' (n + 1) ≤ 129 := by omega
          clear nq y1 y2 hX2 hbw tv SF hne tle T3
          generalize tl Fr' (n + 1) = tr at *
          generalize hb0 : decide (V Fr' (n + 1) % 2 ^ s ≠ 0) = bb0 at *
          clear hb0
          go_wp2_with fail
          refine SN.mono ?_
          rintro e w9 ⟨rfl, hb9, F9, R9, hv9⟩
          have TQ9 := trim_any (row_sl0 (HF.out.2.1.below hb9) (by unfold maxLen; omega))
          have TR9 := trim_any (row_sl0 R9 (by unfold maxLen; omega))
          obtain ⟨nr, hlr⟩ := newn_tl R9 (by unfold maxLen; omega) hv9 HM.out (base := w0.heap.size) HF.out.2.2.size
          have HG : Hid (NewN w9 w0.heap.size (.slice (some ⟨w2.heap.size, 0, none⟩) (tl Fq L) (tl Fq L)) (V f n / V G m) ∧ NewN w9 w0.heap.size (.slice (some ⟨w8.heap.size, 0, none⟩) (tl F9 tr) (tl F9 tr)) (V f n % V G m) ∧ Below w0.heap.size w0 w9) := ⟨HF.out.1.below hb9, nr, HF.out.2.2.trans (hb9.mono HF.out.2.2.size)⟩
          clear TQ SN hv9 R9 nr hlr hlq
          generalize tl Fq L = tq at *
          generalize tl F9 tr = tr9 at *
          go_wp2_with fail
          refine TQ9.mono ?_
          rintro e wA ⟨rfl, rfl⟩
          go_wp2_with fail
          refine TR9.mono ?_
          rintro e wB ⟨rfl, rfl⟩
          go_wp2
          refine bodyPost_ret (v := .tuple #[.slice (some ⟨w2.heap.size, 0, none⟩) tq tq, .slice (some ⟨w8.heap.size, 0, none⟩) tr9 tr9]) (by simp [results, Tryd.results57, go_sem]) rfl ⟨_, _, rfl, HG.out.1, HG.out.2.1, HG.out.2.2⟩
  · have hmq : ∀ W : World, (Instr.makeSlice 23 (.int .i64 0) (.int .i64 0)).run Tryd.prog W = .ok (.slice (some ⟨W.heap.size, 0, none⟩) L L) (W.alloc (.cells (madeCells #[.int .u64 0] L) 35)) := by
      intro W
      have q := hmq0 W
      rw [show (L : Int) = 0 by have := HLL.out; omega] at q
      exact q
    have hpos : (n : Int) + 1 - (m : Int) ≤ 0 := by omega
    clear hmq0
    have eD : V Fd (m + 1) = V Fd m := by
      have q := tl_V Fd (m + 1)
      rw [HI.out.2.2.2.2.2.2] at q
      exact q.symm
    have HE : Hid (V Fd (m + 1) = V Fd m) := eD
    clear eD
    go_wp2
    clear hmq hmp
    go_loopw [11] (fun i wr => ∃ (k : Nat) (Fr' Fq Fp : Nat → Nat), i = .int .i64 ((k : Int) - 1) ∧ k ≤ L ∧ Row wr w0.heap.size (m + 1) Fd ∧ Row wr w1'.heap.size (n + 1) Fr' ∧ Row wr w2.heap.size L Fq ∧ Row wr (w2.heap.size + 1) (m + 1) Fp ∧ Below w0.heap.size w0 wr ∧ (∀ j, j < k → Fq j = 0) ∧ V Fr' (n + 1) + V Fq L * V Fd m = V f n * 2 ^ s ∧ V Fr' (n + 1) < V Fd m * B ^ k) (fun i _ => (intOf i + 1).toNat)
    case atStart =>
      refine ⟨L, Fr, fun _ => 0, fun _ => 0, rfl, Nat.le_refl _, (Rd2.alloc _).alloc _, (Rr.alloc _).alloc _, (made_row w2 L).alloc _, ?_, ((hB2.alloc (by omega) _).alloc (by simp; omega) _), fun _ _ => rfl, ?_, ?_⟩
      · have q := made_row (w2.alloc (.cells (madeCells #[.int .u64 0] L) 35)) (m + 1)
        rw [World.size_alloc] at q
        exact q
      · rw [V_nought, Nat.zero_mul, Nat.add_zero]; exact HI.out.2.2.2.2.2.1
      · rw [← HE.out]; exact HI.out.1
    case round =>
      obtain ⟨k, Fr', Fq, Fp, rfl, hk, Rd3, Rr3, Rq3, Rp3, hbl, hz, hsum, hlt⟩ := hrel
      have HR : Hid (Row wr w0.heap.size (m + 1) Fd ∧ Row wr w1'.heap.size (n + 1) Fr' ∧ Row wr w2.heap.size L Fq ∧ Row wr (w2.heap.size + 1) (m + 1) Fp ∧ Below w0.heap.size w0 wr) := ⟨Rd3, Rr3, Rq3, Rp3, hbl⟩
      have HV : Hid ((∀ j, j < k → Fq j = 0) ∧ V Fr' (n + 1) + V Fq L * V Fd m = V f n * 2 ^ s ∧ V Fr' (n + 1) < V Fd m * B ^ k) := ⟨hz, hsum, hlt⟩
      clear hz hsum hlt
      by_cases c1 : 0 < k
      · exfalso
        have := HLL.out
        omega
      · obtain rfl : k = 0 := by omega
        clear Rd3 Rr3 Rq3 Rp3 hbl c1
        have hlt := HV.out.2.2
        rw [Nat.pow_zero, Nat.mul_one] at hlt
        obtain ⟨y1, y2⟩ := div_end (Q := V Fq L) (r := V Fr' (n + 1)) (a := V f n) (b := V G m) (s := s) rfl (by rw [← HE.out]; exact HI.out.2.2.2.2.1) HV.out.2.1 hlt
        have hX1 : V f n / V G m < B ^ 128 := Nat.lt_of_le_of_lt (Nat.div_le_self _ _) (Nat.lt_of_lt_of_le (V_lt HS.out.ws n) (Nat.pow_le_pow_right B_pos hn))
        have hX2 : V f n % V G m < B ^ 128 := Nat.lt_of_le_of_lt (Nat.mod_le _ _) (Nat.lt_of_lt_of_le (V_lt HS.out.ws n) (Nat.pow_le_pow_right B_pos hn))
        obtain ⟨nq, hlq⟩ := newn_tl HR.out.2.2.1 (by unfold maxLen; omega) y1 hX1 (base := w0.heap.size) HB0.out
        have T3 := trim_any (row_sl0 HR.out.2.1 (by unfold maxLen; omega))
        have tv := tl_V Fr' (n + 1)
        have tle := tl_le Fr' (n + 1)
        have hbw := HR.out.2.2.2.2
        clear hlt hX1
        go_wp2_with fail
        refine T3.mono ?_
        rintro e w8 ⟨rfl, rfl⟩
        by_cases hz0 : tl Fr' (n + 1) = 0
        · have hv0 : V Fr' (n + 1) = 0 := by rw [← tv, hz0]; rfl
          rw [hv0, Nat.zero_div] at y2
          rw [hz0]
          have SN := shiftDown_none (w := w8) (ao := some ⟨w1'.heap.size, 0, none⟩) (c := 0) hs
          have TQ := trim_any (row_sl0 HR.out.2.2.1 (by unfold maxLen; omega))
          have TN := trim_any (w := w8) (ao := none) (n := 0) (c := 0) (b := 0) (o := 0) (f := fun _ => 0) ⟨Nat.le_refl _, Nat.zero_le _, fun h => absurd h (by omega), fun h => absurd h (by omega), fun i h => absurd h (by omega), fun _ => B_pos⟩
          have nz : NewN w8 w0.heap.size (.slice none 0 0) (V f n % V G m) := ⟨⟨none, 0, 0, 0, 0, fun _ => 0, rfl, ⟨Nat.le_refl _, Nat.zero_le _, fun h => absurd h (by omega), fun h => absurd h (by omega), fun i h => absurd h (by omega), fun _ => B_pos⟩, Or.inl rfl, y2, by omega⟩, Or.inl rfl⟩
          rw [show tl (fun _ => 0) 0 = 0 from rfl] at TN
          have HF : Hid (NewN w8 w0.heap.size (.slice (some ⟨w2.heap.size, 0, none⟩) (tl Fq L) (tl Fq L)) (V f n / V G m) ∧ NewN w8 w0.heap.size (.slice none 0 0) (V f n % V G m) ∧ Below w0.heap.size w0 w8) := ⟨nq, nz, hbw⟩
          clear nq nz y1 y2 hX2 hbw tv hv0 T3
          generalize tl Fq L = tq at *
          go_wp2_with (first
            | (go_at_call 65; refine SN.mono ?_; rintro e w9 ⟨rfl, rfl⟩)
            | (go_at_call_of 52 (Value.slice (none : Option Addr) 0 0); refine TN.mono ?_; rintro e wA ⟨rfl, rfl⟩)
            | (go_at_call 52; refine TQ.mono ?_; rintro e wB ⟨rfl, rfl⟩))
          refine bodyPost_ret (v := .tuple #[.slice (some ⟨w2.heap.size, 0, none⟩) tq tq, .slice none 0 0]) (by simp [results, Tryd.results57, go_sem]) rfl ⟨_, _, rfl, HF.out.1, HF.out.2.1, HF.out.2.2⟩
        · have SF : Sl w8 (some ⟨w1'.heap.size, 0, none⟩) (tl Fr' (n + 1)) (tl Fr' (n + 1)) w1'.heap.size 0 Fr' := by
            have q := HR.out.2.1.sl (o := 0) (n := tl Fr' (n + 1)) (c := tl Fr' (n + 1)) (by omega) (Nat.le_refl _) (by unfold maxLen; omega)
            rw [show (fun i => Fr' (0 + i)) = Fr' from funext fun i => by rw [Nat.zero_add]] at q
            exact q
          have hne : V Fr' (tl Fr' (n + 1)) ≠ 0 := by
            have q := Top_ge (tl_top Fr' (n + 1)) (by omega)
            have := Bp_pos (tl Fr' (n + 1) - 1)
            omega
          have SN := shiftDown_any (hT.next hbw) SF (by omega) s 0 s (by omega) hs (by omega) hne
          rw [tv, Nat.sub_zero, y2] at SN
          have TQ := trim_any (row_sl0 HR.out.2.2.1 (by unfold maxLen; omega))
          have HF : Hid (NewN w8 w0.heap.size (.slice (some ⟨w2.heap.size, 0, none⟩) (tl Fq L) (tl Fq L)) (V f n / V G m) ∧ Row w8 w2.heap.size L Fq ∧ Below w0.heap.size w0 w8) := ⟨nq, HR.out.2.2.1, hbw⟩
          have HM : Hid (V f n % V G m < B ^ 128) := hX2
          have hln : tl Fr' (n + 1) ≤ 129 := by omega
          clear nq y1 y2 hX2 hbw tv SF hne tle T3
          generalize tl Fr' (n + 1) = tr at *
          generalize hb0 : decide (V Fr' (n + 1) % 2 ^ s ≠ 0) = bb0 at *
          clear hb0
          go_wp2_with fail
          refine SN.mono ?_
          rintro e w9 ⟨rfl, hb9, F9, R9, hv9⟩
          have TQ9 := trim_any (row_sl0 (HF.out.2.1.below hb9) (by unfold maxLen; omega))
          have TR9 := trim_any (row_sl0 R9 (by unfold maxLen; omega))
          obtain ⟨nr, hlr⟩ := newn_tl R9 (by unfold maxLen; omega) hv9 HM.out (base := w0.heap.size) HF.out.2.2.size
          have HG : Hid (NewN w9 w0.heap.size (.slice (some ⟨w2.heap.size, 0, none⟩) (tl Fq L) (tl Fq L)) (V f n / V G m) ∧ NewN w9 w0.heap.size (.slice (some ⟨w8.heap.size, 0, none⟩) (tl F9 tr) (tl F9 tr)) (V f n % V G m) ∧ Below w0.heap.size w0 w9) := ⟨HF.out.1.below hb9, nr, HF.out.2.2.trans (hb9.mono HF.out.2.2.size)⟩
          clear TQ SN hv9 R9 nr hlr hlq
          generalize tl Fq L = tq at *
          generalize tl F9 tr = tr9 at *
          go_wp2_with fail
          refine TQ9.mono ?_
          rintro e wA ⟨rfl, rfl⟩
          go_wp2_with fail
          refine TR9.mono ?_
          rintro e wB ⟨rfl, rfl⟩
          go_wp2
          refine bodyPost_ret (v := .tuple #[.slice (some ⟨w2.heap.size, 0, none⟩) tq tq, .slice (some ⟨w8.heap.size, 0, none⟩) tr9 tr9]) (by simp [results, Tryd.results57, go_sem]) rfl ⟨_, _, rfl, HG.out.1, HG.out.2.1, HG.out.2.2⟩


set_option maxHeartbeats 1000000 in
theorem div_new {w : World} (hT : Tab w) {va vb : Value} {X Y : Nat} (ha : NatV w va X) (hb : NatV w vb Y) (h : Y ≠ 0) :
    Calls Tryd.prog 24 #[va, vb] w fun e w' => ∃ v1 v2, e = .returned (.tuple #[v1, v2, .nilIface]) ∧ NewN w' w.heap.size v1 (X / Y) ∧ NewN w' w.heap.size v2 (X % Y) ∧ Below w.heap.size w w' := by
  obtain ⟨ao, n, c, b, o, f, rfl, S, t, rfl, hn⟩ := ha
  obtain ⟨bo, m, cb, bb, ob, G, rfl, S', t', rfl, hm⟩ := hb
  have hm0 := natv_pos S' h
  have h1 := both_any S S'
  rw [verr2_ok hn t hm t'] at h1
  unfold errV at h1
  have hz : ((m : Int) == 0) = false := beq_eq_false_iff_ne.mpr (by omega)
  go_enter Tryd.func24, Tryd.ntmps24
  go_wp2_with fail
  refine h1.mono ?_
  rintro e wa ⟨rfl, hba⟩
  have T := divide_new (hT.next hba) (S.below hba) hn (S'.below hba) hm hm0 (t'.resolve_left (by omega))
  go_wp2_with fail
  refine T.mono ?_
  rintro e wb ⟨v1, v2, rfl, n1, n2, hbb⟩
  go_wp2
  refine bodyPost_ret (v := .tuple #[v1, v2, .nilIface]) (by simp [results, Tryd.results24, go_sem]) rfl ⟨_, _, rfl, n1.mono hba.size, n2.mono hba.size, hba.trans (hbb.mono hba.size)⟩


set_option maxRecDepth 100000 in
set_option maxHeartbeats 1000000 in
theorem shl_new {w : World} {va : Value} {X : Nat} (ha : NatV w va X) (s : Nat) (h : X * 2 ^ s < B ^ 128) (hs : s ≤ 8192) :
    Calls Tryd.prog 31 #[va, .int .i64 (s : Int)] w fun e w' => ∃ v, e = .returned (.tuple #[v, .nilIface]) ∧ NewN w' w.heap.size v (X * 2 ^ s) ∧ Below w.heap.size w w' := by
  obtain ⟨ao, n, c, b, o, f, rfl, S, t, rfl, hn⟩ := ha
  have h1 := valid_any S
  rw [verr_ok hn t] at h1
  unfold errV at h1
  by_cases h0 : n = 0
  · subst h0
    go_enter Tryd.func31, Tryd.ntmps31
    go_wp2_with fail
    refine h1.mono ?_
    rintro e wa ⟨rfl, hba⟩
    go_wp2
    refine bodyPost_ret (v := .tuple #[.slice none 0 0, .nilIface]) (by simp [results, Tryd.results31, go_sem]) rfl ⟨_, rfl, ?_, hba⟩
    rw [V_zero, Nat.zero_mul]
    exact newn_nil _ _
  · have e1 : ((n : Int) == 0) = false := beq_eq_false_iff_ne.mpr (by omega)
    obtain ⟨L, eL, hL⟩ := length_le S.ws t (by omega)
    have hLs : L + s < 8192 := by
      obtain ⟨M, hM, hBM⟩ : ∃ M, M = 8192 ∧ B ^ 128 = 2 ^ M := ⟨64 * 128, rfl, twoB_pow 128⟩
      have q : 2 ^ (L + s) < 2 ^ M := by
        rw [Nat.pow_add]
        refine Nat.lt_of_le_of_lt (Nat.mul_le_mul_right _ hL) ?_
        rw [hBM] at h
        exact h
      have := (Nat.pow_lt_pow_iff_right (a := 2) (by omega)).1 q
      omega
    have HH : Hid (V f n * 2 ^ s < B ^ 128) := h
    have HS : Hid (Sl w ao n c b o f) := S
    obtain ⟨q, p, hsq, hp⟩ : ∃ q p, s = 64 * q + p ∧ p < 64 := ⟨s / 64, s % 64, by omega, by omega⟩
    have hq : q ≤ 1000 := by omega
    have cL : ¬ (8192 : Int) - ((L : Int) + 1) < (s : Int) := by omega
    have cL2 : (0 : Int) ≤ (s : Int) := by omega
    have HQ : Hid (s = 64 * q + p) := hsq
    clear h hL S t hsq
    go_enter Tryd.func31, Tryd.ntmps31
    go_wp2_with fail
    refine h1.mono ?_
    rintro e wa ⟨rfl, hba⟩
    have LN := length_any (HS.out.below hba) (by omega) (by omega)
    rw [eL] at LN
    clear h1
    go_wp2_with fail
    refine LN.mono ?_
    rintro e wb ⟨rfl, hbb⟩
    have BB : Below w.heap.size w wb := hba.trans (hbb.mono hba.size)
    have SU := shiftUp_any (HS.out.below BB) (by omega) s q p HQ.out hp hq
    clear LN eL hba hbb
    go_wp2_with fail
    refine SU.mono ?_
    rintro e wc ⟨rfl, hbc, F, R, hv⟩
    obtain ⟨nv, hl⟩ := newn_tl R (by unfold maxLen; omega) hv HH.out (base := w.heap.size) BB.size
    have BC : Below w.heap.size w wc := BB.trans (hbc.mono BB.size)
    have TT := trim_any (row_sl0 R (by unfold maxLen; omega))
    go_wp2_with fail
    refine TT.mono ?_
    rintro e w4 ⟨rfl, rfl⟩
    go_wp2
    refine bodyPost_ret (v := .tuple #[.slice (some ⟨wb.heap.size, 0, none⟩) (tl F (q + n + 1)) (tl F (q + n + 1)), .nilIface]) (by simp [results, Tryd.results31, go_sem]) rfl ⟨_, rfl, nv, BC⟩


set_option maxRecDepth 100000 in
set_option maxHeartbeats 1000000 in
theorem shr_new {w : World} (hT : Tab w) {va : Value} {X : Nat} (ha : NatV w va X) (s : Nat) (hs : s < 9223372036854775808) :
    Calls Tryd.prog 33 #[va, .int .i64 (s : Int)] w fun e w' => ∃ v, e = .returned (.tuple #[v, .bool (decide (X % 2 ^ s ≠ 0)), .nilIface]) ∧ NewN w' w.heap.size v (X / 2 ^ s) ∧ Below w.heap.size w w' := by
  obtain ⟨ao, n, c, b, o, f, rfl, S, t, rfl, hn⟩ := ha
  have h1 := valid_any S
  rw [verr_ok hn t] at h1
  unfold errV at h1
  have cs : (0 : Int) ≤ (s : Int) := by omega
  have HS : Hid (Sl w ao n c b o f) := S
  have HV : Hid (V f n < B ^ n) := V_lt S.ws n
  have HT : Hid (Top f n) := t
  by_cases hqn : n ≤ s / 64
  · have lt : V f n < 2 ^ s := by
      refine Nat.lt_of_lt_of_le HV.out ?_
      rw [twoB_pow]
      exact Nat.pow_le_pow_right (by omega) (by omega)
    have eq : V f n / 2 ^ s = 0 := Nat.div_eq_of_lt lt
    have er : decide (V f n % 2 ^ s ≠ 0) = decide (0 < n) := by
      rw [Nat.mod_eq_of_lt lt]
      by_cases z : 0 < n
      · have q := Top_ge t z
        have := Bp_pos (n - 1)
        rw [decide_eq_true z, decide_eq_true (by omega)]
      · have : n = 0 := by omega
        subst this
        rfl
    rw [eq, er]
    have TN : Calls Tryd.prog 52 #[.slice none 0 0] w fun e w' => e = .returned (.slice none (tl (fun _ => 0) 0) (tl (fun _ => 0) 0)) ∧ w' = w :=
      trim_any (n := 0) (c := 0) (b := 0) (o := 0) (f := fun _ => 0) ⟨Nat.le_refl _, Nat.zero_le _, fun h => absurd h (by omega), fun h => absurd h (by omega), fun i h => absurd h (by omega), fun _ => B_pos⟩
    obtain ⟨Z, hZ⟩ : ∃ Z, Z = decide (0 < n) := ⟨_, rfl⟩
    rw [← hZ]
    have HZ : Hid (decide (0 < n) = Z) := hZ.symm
    clear TN lt eq er S t hZ
    go_enter Tryd.func33, Tryd.ntmps33
    go_wp2_with fail
    refine h1.mono ?_
    rintro e wa ⟨rfl, hba⟩
    have SD := shiftDown_far (w := wa) (ao := ao) (c := c) (s := s) (n := n) rfl hqn hs
    rw [HZ.out] at SD
    go_wp2_with fail
    refine SD.mono ?_
    rintro e wb ⟨rfl, rfl⟩
    have TN : Calls Tryd.prog 52 #[.slice none 0 0] wb fun e w' => e = .returned (.slice none (tl (fun _ => 0) 0) (tl (fun _ => 0) 0)) ∧ w' = wb :=
      trim_any (n := 0) (c := 0) (b := 0) (o := 0) (f := fun _ => 0) ⟨Nat.le_refl _, Nat.zero_le _, fun h => absurd h (by omega), fun h => absurd h (by omega), fun i h => absurd h (by omega), fun _ => B_pos⟩
    go_wp2_with fail
    refine TN.mono ?_
    rintro e wc ⟨rfl, rfl⟩
    go_wp2
    refine bodyPost_ret (v := .tuple #[.slice none 0 0, .bool Z, .nilIface]) (by simp [results, Tryd.results33, go_sem, tl]) rfl ⟨_, rfl, newn_nil _ _, hba⟩
  · have hv0 : V f n ≠ 0 := by
      have q := Top_ge t (by omega)
      have := Bp_pos (n - 1)
      omega
    obtain ⟨q, p, hsq, hp⟩ : ∃ q p, s = 64 * q + p ∧ p < 64 := ⟨s / 64, s % 64, by omega, by omega⟩
    have hqn2 : q < n := by omega
    have HQ : Hid (s = 64 * q + p) := hsq
    have H0 : Hid (V f n ≠ 0) := hv0
    have HL : Hid (V f n / 2 ^ s < B ^ 128) := Nat.lt_of_le_of_lt (Nat.div_le_self _ _) (Nat.lt_of_lt_of_le HV.out (Nat.pow_le_pow_right B_pos hn))
    clear hv0 hsq S t hqn
    obtain ⟨Z, hZ⟩ : ∃ Z, Z = decide (V f n % 2 ^ s ≠ 0) := ⟨_, rfl⟩
    rw [← hZ]
    have HZ : Hid (decide (V f n % 2 ^ s ≠ 0) = Z) := hZ.symm
    clear hZ
    go_enter Tryd.func33, Tryd.ntmps33
    go_wp2_with fail
    refine h1.mono ?_
    rintro e wa ⟨rfl, hba⟩
    have SD := shiftDown_any (hT.next hba) (HS.out.below hba) (by omega) s q p HQ.out hp hqn2 H0.out
    rw [HZ.out] at SD
    clear h1
    go_wp2_with fail
    refine SD.mono ?_
    rintro e wb ⟨rfl, hbb, F, R, hv⟩
    obtain ⟨nv, hl⟩ := newn_tl R (by unfold maxLen; omega) hv HL.out (base := w.heap.size) hba.size
    have BB : Below w.heap.size w wb := hba.trans (hbb.mono hba.size)
    have TT := trim_any (row_sl0 R (by unfold maxLen; omega))
    go_wp2_with fail
    refine TT.mono ?_
    rintro e w4 ⟨rfl, rfl⟩
    go_wp2
    refine bodyPost_ret (v := .tuple #[.slice (some ⟨wa.heap.size, 0, none⟩) (tl F (n - q)) (tl F (n - q)), .bool Z, .nilIface]) (by simp [results, Tryd.results33, go_sem]) rfl ⟨_, rfl, nv, BB⟩


end Go.Proofs.YtkkgancmodhghaaDoor
