/-
  What a call of nat.divide answers: the quotient, rounded down, and the rest.
-/
import Derived.Test.YtkkgancmodhghaaDoorNatH
namespace Go.Proofs.YtkkgancmodhghaaDoor
open Go.RowKit

/-- How far a word must be shifted up till its highest bit is 1. -/
theorem lead_nat {x : Nat} (h0 : x ≠ 0) (hx : x < B) : ∃ s : Nat, (64 : Int) - blen (x : Int) = (s : Int) ∧ s < 64 ∧ x < 2 ^ (64 - s) := by
  unfold B at hx
  obtain ⟨n, e, hn, h1, h2⟩ := blen_bounds (x : Int) (by omega) (by omega)
  refine ⟨63 - n, by omega, by omega, ?_⟩
  rw [show 64 - (63 - n) = n + 1 by omega]
  rw [pow_cast] at h2
  omega

/-- The shifted divisor has as many words as it had. -/
theorem div_len {G Fd : Nat → Nat} (hG : Ws G) (hF : Ws Fd) {m s : Nat} (hm : 0 < m) (hs : s < 64) (h0 : G (m - 1) ≠ 0) (hx : G (m - 1) < 2 ^ (64 - s)) (hv : V Fd (m + 1) = V G m * 2 ^ s) : tl Fd (m + 1) = m := by
  have t := tl_top Fd (m + 1)
  have v := tl_V Fd (m + 1)
  obtain ⟨k, rfl⟩ : ∃ k, m = k + 1 := ⟨m - 1, by omega⟩
  rw [Nat.add_sub_cancel] at h0 hx
  have p : 0 < 2 ^ s := Nat.pow_pos (by omega)
  have a : V G (k + 1) < 2 ^ (64 - s) * B ^ k := by
    have q := V_lt hG k
    have r : (G k + 1) * B ^ k ≤ 2 ^ (64 - s) * B ^ k := Nat.mul_le_mul_right _ hx
    rw [Nat.add_mul, Nat.one_mul] at r
    rw [V_succ]; omega
  have b : V G (k + 1) * 2 ^ s < B ^ (k + 1) := by
    have q := Nat.mul_lt_mul_of_pos_right a p
    rw [Nat.mul_right_comm, B_part (Nat.le_of_lt hs), Nat.mul_comm B, ← Nat.pow_succ] at q
    exact q
  have c : B ^ k ≤ V G (k + 1) * 2 ^ s := Nat.le_trans (V_ge h0) (Nat.le_mul_of_pos_right _ p)
  rw [hv] at v
  have d := len_le t (k := k + 1) (by rw [v]; exact b)
  rcases Nat.lt_or_ge (tl Fd (k + 1 + 1)) (k + 1) with y | y
  · exfalso
    have e := V_lt hF (tl Fd (k + 1 + 1))
    have g : B ^ tl Fd (k + 1 + 1) ≤ B ^ k := Nat.pow_le_pow_right B_pos (by omega)
    omega
  · omega

theorem Row.setOther {w : World} {g N : Nat} {F : Nat → Nat} (R : Row w g N F) {a : Addr} (h : g ≠ a.block) (v : Value) : Row (w.setCell a v) g N F := ⟨R.row.setOther h v, R.ws⟩
theorem Row.alloc {w : World} {g N : Nat} {F : Nat → Nat} (R : Row w g N F) (o : Obj) : Row (w.alloc o) g N F := ⟨R.row.alloc o, R.ws⟩

theorem V_put_add {f : Nat → Nat} {k x : Nat} (h : f k = 0) : ∀ {n : Nat}, k < n → V (put f k x) n = V f n + x * B ^ k
  | 0, hk => absurd hk (by omega)
  | n + 1, hk => by
    by_cases c : k = n
    · subst c; rw [V_succ, V_succ, V_put_low (Nat.le_refl _), put_at, h, Nat.zero_mul, Nat.add_zero]
    · have i := V_put_add (x := x) h (n := n) (by omega)
      rw [V_succ, V_succ, i, put_ne (by omega)]; omega
theorem div_sum {r a q D p : Nat} : r + (a + q * p) * D = r + q * p * D + a * D := by grind

/-- Ahead of the first word of the quotient the rest is small enough. -/
theorem div_init {f G : Nat → Nat} (hf : Ws f) {n m s L : Nat} (hm : 0 < m) (h0 : G (m - 1) ≠ 0) (hL : L + m = n + 1 ∨ (n + 1 < m ∧ L = 0)) : V f n * 2 ^ s < V G m * 2 ^ s * B ^ L := by
  obtain ⟨k, rfl⟩ : ∃ k, m = k + 1 := ⟨m - 1, by omega⟩
  rw [Nat.add_sub_cancel] at h0
  have a := V_ge h0
  have b := V_lt hf n
  have p : 0 < 2 ^ s := Nat.pow_pos (by omega)
  rw [Nat.mul_right_comm]
  refine Nat.mul_lt_mul_of_pos_right ?_ p
  rcases hL with hL | ⟨hL, rfl⟩
  · have c := Nat.mul_le_mul_right (B ^ L) a
    rw [← Nat.pow_add, show k + L = n by omega] at c
    omega
  · rw [Nat.pow_zero, Nat.mul_one]
    have c : B ^ n ≤ B ^ k := Nat.pow_le_pow_right B_pos (by omega)
    omega

/-- One word of the quotient: the window is all that is left above, and it holds the divisor less than a word's times. -/
theorem div_window {Fr : Nat → Nat} {N k m D : Nat} (hD : D < B ^ m) (hk : k + m + 1 ≤ N) (h : V Fr N < D * B ^ (k + 1)) :
    V Fr N = V Fr k + V (fun i => Fr (k + i)) (m + 1) * B ^ k ∧ V (fun i => Fr (k + i)) (m + 1) < D * B ∧ V (fun i => Fr (k + i)) (N - k) = V (fun i => Fr (k + i)) (m + 1) := by
  have e1 := V_split Fr k (N - k)
  rw [show k + (N - k) = N by omega] at e1
  have e2 := V_split (fun i => Fr (k + i)) (m + 1) (N - k - (m + 1))
  rw [show m + 1 + (N - k - (m + 1)) = N - k by omega] at e2
  have a : V (fun i => Fr (k + i)) (N - k) < D * B := by
    have x : V (fun i => Fr (k + i)) (N - k) * B ^ k < D * B * B ^ k := by
      rw [Nat.pow_succ, Nat.mul_comm (B ^ k), ← Nat.mul_assoc] at h
      omega
    exact Nat.lt_of_mul_lt_mul_right x
  have b : D * B < B ^ (m + 1) := by rw [Nat.pow_succ]; exact Nat.mul_lt_mul_of_pos_right hD B_pos
  have z : V (fun i => Fr (k + (m + 1 + i))) (N - k - (m + 1)) = 0 := by
    rcases Nat.eq_zero_or_pos (V (fun i => Fr (k + (m + 1 + i))) (N - k - (m + 1))) with q | q
    · exact q
    · exfalso
      have r := Nat.mul_le_mul_right (B ^ (m + 1)) q
      rw [Nat.succ_mul, Nat.zero_mul, Nat.zero_add] at r
      omega
  rw [z, Nat.zero_mul, Nat.add_zero] at e2
  rw [e2] at a e1
  exact ⟨e1, a, e2⟩

theorem div_gen {v q D P r p T : Nat} (e : T = v + P * p) (h : r + q * D = P) : v + r * p + q * p * D = T := by
  rw [e, ← h]; grind
theorem div_after {Fr F' : Nat → Nat} (hF : Ws Fr) {N k m D q : Nat} (hD : 0 < D) (hk : k + m + 1 ≤ N) (h1 : V Fr N = V Fr k + V (fun i => Fr (k + i)) (m + 1) * B ^ k) (h2 : V (fun i => Fr (k + i)) (N - k) = V (fun i => Fr (k + i)) (m + 1))
    (hq : q = V (fun i => Fr (k + i)) (m + 1) / D) (h3 : V (fun i => F' (k + i)) (m + 1) + q * D = V (fun i => Fr (k + i)) (m + 1)) (h4 : ∀ i, i < k ∨ k + (m + 1) ≤ i → F' i = Fr i) :
    V F' N + q * B ^ k * D = V Fr N ∧ V F' N < D * B ^ k := by
  have a := V_tail (f := fun i => F' (k + i)) (g := fun i => Fr (k + i)) (k := m + 1) (n := N - k) (a := q * D) (b := 0) (by omega) h3 (fun i x y => h4 (k + i) (Or.inr (by omega)))
  rw [Nat.add_zero, h2] at a
  have e1 := V_split F' k (N - k)
  rw [show k + (N - k) = N by omega, V_congr (f := F') (g := Fr) (n := k) (fun i hi => h4 i (Or.inl hi))] at e1
  have r : V (fun i => F' (k + i)) (N - k) = V (fun i => Fr (k + i)) (m + 1) % D := by
    have x := Nat.div_add_mod (V (fun i => Fr (k + i)) (m + 1)) D
    rw [← hq, Nat.mul_comm] at x
    omega
  have s := Nat.mod_lt (V (fun i => Fr (k + i)) (m + 1)) hD
  rw [← r] at s
  constructor
  · rw [e1]; exact div_gen h1 a
  · have l := V_lt hF k
    have y := Nat.mul_le_mul_right (B ^ k) s
    rw [Nat.succ_mul] at y
    rw [e1]
    omega
theorem div_end {A D Q r a b s : Nat} (hA : A = a * 2 ^ s) (hD : D = b * 2 ^ s) (h : r + Q * D = A) (hr : r < D) : Q = a / b ∧ r / 2 ^ s = a % b := by
  have p : 0 < 2 ^ s := Nat.pow_pos (by omega)
  have hD0 : 0 < D := by omega
  have x := (Nat.div_mod_unique hD0 (a := A) (c := r) (d := Q)).mpr ⟨by rw [Nat.mul_comm D Q]; exact h, hr⟩
  rw [hA, hD, Nat.mul_div_mul_right _ _ p, Nat.mul_mod_mul_right] at x
  exact ⟨x.1.symm, by rw [← x.2, Nat.mul_div_cancel _ p]⟩

theorem shiftDown_none {w : World} {ao : Option Addr} {c s : Nat} (hs : s < 64) :
    Calls Tryd.prog 65 #[.slice ao 0 c, .int .i64 (s : Int)] w fun e w' => e = .returned (.tuple #[.slice none 0 0, .bool false]) ∧ w' = w := by
  have e1 : (s : Int) / 64 = 0 := by omega
  go_enter Tryd.func65, Tryd.ntmps65
  go_wp2
  refine bodyPost_ret (v := .tuple #[.slice none 0 0, .bool false]) (by simp [results, Tryd.results65, go_sem]) rfl ⟨rfl, rfl⟩

set_option maxRecDepth 100000 in
set_option maxHeartbeats 4000000 in
theorem divide_any {w : World} (hT : Tab w) {ao : Option Addr} {n ca ba oa : Nat} {f : Nat → Nat} (S : Sl w ao n ca ba oa f) (hn : n ≤ 128) {bo : Option Addr} {m cb bb ob : Nat} {G : Nat → Nat} (S' : Sl w bo m cb bb ob G) (hm : m ≤ 128) (hm0 : 0 < m) (h0 : G (m - 1) ≠ 0) :
    Calls Tryd.prog 57 #[.slice ao n ca, .slice bo m cb] w fun e w' => ∃ v1 v2, e = .returned (.tuple #[v1, v2]) ∧ NatV w' v1 (V f n / V G m) ∧ NatV w' v2 (V f n % V G m) ∧ Below w.heap.size w w' := by
  obtain ⟨s, es, hs, hx⟩ := lead_nat h0 (S'.ws (m - 1))
  obtain rfl := S'.addr hm0
  have cb0 := S'.cell (m - 1) (by omega)
  have L1 := lead64_any ((G (m - 1) : Nat) : Int) ⟨by omega, by have := S'.ws (m - 1); unfold B at this; omega⟩ w
  rw [es] at L1
  have U1 := shiftUp_any S' (by omega) s 0 s (by omega) hs (by omega)
  rw [Nat.zero_add] at U1
  have HS : Hid (Sl w ao n ca ba oa f) := S
  have HS' : Hid (Sl w (some ⟨bb, ob, none⟩) m cb bb ob G) := S'
  clear S S' es
  go_enter Tryd.func57, Tryd.ntmps57
  go_wp2_with fail
  refine L1.mono ?_
  rintro e w0 ⟨rfl, rfl⟩
  go_wp2_with fail
  refine U1.mono ?_
  rintro e w1 ⟨rfl, hb1, Fd, Rd, hvd⟩
  have hld := div_len HS'.out.ws Rd.ws hm0 hs h0 hx hvd
  have T1 := trim_any (row_sl0 Rd (by unfold maxLen; omega))
  rw [hld] at T1
  have U2 := shiftUp_any (HS.out.below hb1) (by omega) s 0 s (by omega) hs (by omega)
  rw [Nat.zero_add] at U2
  go_wp2_with fail
  refine T1.mono ?_
  rintro e w1' ⟨rfl, rfl⟩
  go_wp2_with fail
  refine U2.mono ?_
  rintro e w2 ⟨rfl, hb2, Fr, Rr, hvr⟩
  have Rd2 := Rd.below hb2
  have hB2 : Below w0.heap.size w0 w2 := hb1.trans (hb2.mono hb1.size)
  have hgd : w0.heap.size < w1'.heap.size := Rd.row.lt
  have hg1 := Rd2.row.lt
  have hsz1 := hb1.size
  have hg2 := Rr.row.lt
  clear Rd T1 U1 U2 L1 cb0
  obtain ⟨L, hL⟩ : ∃ L, L + m = n + 1 ∨ (n + 1 < m ∧ L = 0) := by
    rcases Nat.lt_or_ge (n + 1) m with q | q
    · exact ⟨0, Or.inr ⟨q, rfl⟩⟩
    · exact ⟨n + 1 - m, Or.inl (by omega)⟩
  have hLs : L ≤ 129 := by omega
  have hDlt : V Fd (m + 1) < B ^ m := by
    have q := tl_V Fd (m + 1)
    rw [hld] at q
    rw [← q]; exact V_lt Rd2.ws m
  have hini := div_init (s := s) HS.out.ws hm0 h0 hL
  rw [← hvd, ← hvr] at hini
  have hDpos : 0 < V Fd (m + 1) := by
    rcases Nat.eq_zero_or_pos (V Fd (m + 1)) with q | q
    · rw [q, Nat.zero_mul] at hini; omega
    · exact q
  have hdt : Fd (m - 1) ≠ 0 := by
    have q := tl_top Fd (m + 1)
    rw [hld] at q
    exact q.resolve_left (by omega)
  have HI : Hid (V Fr (n + 1) < V Fd (m + 1) * B ^ L ∧ V Fd (m + 1) < B ^ m ∧ 0 < V Fd (m + 1) ∧ Fd (m - 1) ≠ 0 ∧ V Fd (m + 1) = V G m * 2 ^ s ∧ V Fr (n + 1) = V f n * 2 ^ s ∧ tl Fd (m + 1) = m) := ⟨hini, hDlt, hDpos, hdt, hvd, hvr, hld⟩
  clear hini hDlt hDpos hdt hvd hvr hld h0 hx
  have hmp := run_make_row' (P := Tryd.prog) 23 35 (.int .u64 0) 8 und_nat info_u64 rfl .i64 .i64 (m + 1) (by omega) (by omega)
  simp only [Int.natCast_add, Int.natCast_one] at hmp
  have hmq0 := run_make_row' (P := Tryd.prog) 23 35 (.int .u64 0) 8 und_nat info_u64 rfl .i64 .i64 L (by omega) (by omega)
  have HLL : Hid (L + m = n + 1 ∨ (n + 1 < m ∧ L = 0)) := hL
  clear hL
  rcases Nat.lt_or_ge m (n + 1) with hL | hL
  · have hmq : ∀ W : World, (Instr.makeSlice 23 (.int .i64 ((n : Int) + 1 - (m : Int))) (.int .i64 ((n : Int) + 1 - (m : Int)))).run Tryd.prog W = .ok (.slice (some ⟨W.heap.size, 0, none⟩) L L) (W.alloc (.cells (madeCells #[.int .u64 0] L) 35)) := by
      intro W
      have q := hmq0 W
      rw [show (L : Int) = (n : Int) + 1 - (m : Int) by have := HLL.out; omega] at q
      exact q
    have hpos : (0 : Int) < (n : Int) + 1 - (m : Int) := by omega
    clear hmq0
    have eD : V Fd (m + 1) = V Fd m := by
      have q := tl_V Fd (m + 1)
      rw [HI.out.2.2.2.2.2.2] at q
      exact q.symm
    have HE : Hid (V Fd (m + 1) = V Fd m) := eD
    clear eD
    go_wp2
    clear hmq hmp
    go_loopw [11] (fun i wr => ∃ (k : Nat) (Fr' Fq Fp : Nat → Nat), i = .int .i64 ((k : Int) - 1) ∧ k ≤ L ∧ Row wr w0.heap.size (m + 1) Fd ∧ Row wr w1'.heap.size (n + 1) Fr' ∧ Row wr w2.heap.size L Fq ∧ Row wr (w2.heap.size + 1) (m + 1) Fp ∧ Below w0.heap.size w0 wr ∧ (∀ j, j < k → Fq j = 0) ∧ V Fr' (n + 1) + V Fq L * V Fd m = V f n * 2 ^ s ∧ V Fr' (n + 1) < V Fd m * B ^ k) (fun i _ => (intOf i + 1).toNat)
    case atStart =>
      refine ⟨L, Fr, fun _ => 0, fun _ => 0, rfl, Nat.le_refl _, (Rd2.alloc _).alloc _, (Rr.alloc _).alloc _, (made_row w2 L).alloc _, ?_, ((hB2.alloc (by omega) _).alloc (by simp; omega) _), fun _ _ => rfl, ?_, ?_⟩
      · have q := made_row (w2.alloc (.cells (madeCells #[.int .u64 0] L) 35)) (m + 1)
        rw [World.size_alloc] at q
        exact q
      · rw [V_nought, Nat.zero_mul, Nat.add_zero]; exact HI.out.2.2.2.2.2.1
      · rw [← HE.out]; exact HI.out.1
    case round =>
      obtain ⟨k, Fr', Fq, Fp, rfl, hk, Rd3, Rr3, Rq3, Rp3, hbl, hz, hsum, hlt⟩ := hrel
      have HR : Hid (Row wr w0.heap.size (m + 1) Fd ∧ Row wr w1'.heap.size (n + 1) Fr' ∧ Row wr w2.heap.size L Fq ∧ Row wr (w2.heap.size + 1) (m + 1) Fp ∧ Below w0.heap.size w0 wr) := ⟨Rd3, Rr3, Rq3, Rp3, hbl⟩
      have HV : Hid ((∀ j, j < k → Fq j = 0) ∧ V Fr' (n + 1) + V Fq L * V Fd m = V f n * 2 ^ s ∧ V Fr' (n + 1) < V Fd m * B ^ k) := ⟨hz, hsum, hlt⟩
      clear hz hsum hlt
      by_cases c1 : 0 < k
      · obtain ⟨i, rfl⟩ : ∃ i, k = i + 1 := ⟨k - 1, by omega⟩
        have hiL : i < L := by omega
        have hiN : i + m + 1 ≤ n + 1 := by have := HLL.out; omega
        have hDm : V Fd m < B ^ m := by rw [← HE.out]; exact HI.out.2.1
        have hDp : 0 < V Fd m := by rw [← HE.out]; exact HI.out.2.2.1
        obtain ⟨x1, x2, x3⟩ := div_window (m := m) hDm hiN HV.out.2.2
        have SP := Rr3.sl (o := i) (n := m + 1) (c := n + 1 - i) (by omega) (by omega) (by unfold maxLen; omega)
        have SD : Sl wr (some ⟨w0.heap.size, 0, none⟩) m m w0.heap.size 0 Fd := by
          have q := Rd3.sl (o := 0) (n := m) (c := m) (by omega) (Nat.le_refl _) (by unfold maxLen; omega)
          rw [show (fun i => Fd (0 + i)) = Fd from funext fun i => by rw [Nat.zero_add]] at q
          exact q
        have Q1 := quotientWord_any (t := m - 1) (n := m) (m := m + 1) (by omega) rfl SP SD HI.out.2.2.2.1 (by omega) Rp3 (by omega) (by omega) x2
        have HX : Hid (V Fr' (n + 1) = V Fr' i + V (fun j => Fr' (i + j)) (m + 1) * B ^ i ∧ V (fun j => Fr' (i + j)) (n + 1 - i) = V (fun j => Fr' (i + j)) (m + 1) ∧ 0 < V Fd m) := ⟨x1, x3, hDp⟩
        have qlt : V (fun j => Fr' (i + j)) (m + 1) / V Fd m < B := by rw [Nat.div_lt_iff_lt_mul hDp, Nat.mul_comm]; exact x2
        have HQL : Hid (V (fun j => Fr' (i + j)) (m + 1) / V Fd m < B) := qlt
        clear x1 x2 x3 SP SD hDm hDp Rd3 Rr3 Rq3 Rp3 hbl qlt
        obtain ⟨q, hq⟩ : ∃ q, V (fun j => Fr' (i + j)) (m + 1) / V Fd m = q := ⟨_, rfl⟩
        have HQ : Hid (q = V (fun j => Fr' (i + j)) (m + 1) / V Fd m) := hq.symm
        rw [hq] at Q1
        have HQB : Hid (q < B) := by rw [← hq]; exact HQL.out
        clear hq HQL
        rw [show ((i + 1 : Nat) : Int) - 1 = (i : Int) by omega]
        go_wp2_with fail
        refine Q1.mono ?_
        rintro e w5 ⟨rfl, hg5, F5, R5, hv5⟩
        have Rq5 := HR.out.2.2.1.kept hg5 (by omega)
        have cz := Rq5.row.cell hiL
        have fz := Rq5.row.frozen i
        have Rr6 := (HR.out.2.1.kept hg5 (by omega)).setOther (a := ⟨w2.heap.size, i, none⟩) (Nat.ne_of_lt hg2) (.int .u64 (q : Int))
        have Rp6 := R5.setOther (a := ⟨w2.heap.size, i, none⟩) (Nat.succ_ne_self _) (.int .u64 (q : Int))
        have Rd6 := (HR.out.1.kept hg5 (by omega)).setOther (a := ⟨w2.heap.size, i, none⟩) (by show w0.heap.size ≠ w2.heap.size; omega) (.int .u64 (q : Int))
        have Rq6 := Rq5.set i HQB.out
        have hqle : V F5 (m + 1) ≤ V (fun j => Fr' (i + j)) (m + 1) := by rw [hv5, HQ.out]; exact Nat.div_mul_le_self _ _
        have DD := decrease_any (o := i) (n := m + 1) (c := n + 1 - i) Rr6 (by omega) (by omega) (by unfold maxLen; omega) (row_sl0 Rp6 (by unfold maxLen; omega)) (fun _ => by omega) (Nat.le_refl _) hqle
        have hb6 : Below w0.heap.size w0 (w5.setCell ⟨w2.heap.size, i, none⟩ (.int .u64 (q : Int))) := (below_grown HR.out.2.2.2.2 hg5 (by omega)).setCell (by show w0.heap.size ≤ w2.heap.size; omega) _
        have H6 : Hid (Row (w5.setCell ⟨w2.heap.size, i, none⟩ (.int .u64 (q : Int))) w0.heap.size (m + 1) Fd ∧ Row (w5.setCell ⟨w2.heap.size, i, none⟩ (.int .u64 (q : Int))) w2.heap.size L (put Fq i q) ∧ Row (w5.setCell ⟨w2.heap.size, i, none⟩ (.int .u64 (q : Int))) (w2.heap.size + 1) (m + 1) F5 ∧ Below w0.heap.size w0 (w5.setCell ⟨w2.heap.size, i, none⟩ (.int .u64 (q : Int))) ∧ V F5 (m + 1) = q * V Fd m) := ⟨Rd6, Rq6, Rp6, hb6, hv5⟩
        clear Rd6 Rq6 Rp6 hb6 Rr6 Rq5 hqle hv5 R5 hg5 Q1
        go_wp2_with fail
        refine DD.mono ?_
        rintro e w7 ⟨rfl, hg7, F7, R7, hf7, hv7⟩
        have H7 : Hid (Row w7 w0.heap.size (m + 1) Fd ∧ Row w7 w1'.heap.size (n + 1) F7 ∧ Row w7 w2.heap.size L (put Fq i q) ∧ Row w7 (w2.heap.size + 1) (m + 1) F5 ∧ Below w0.heap.size w0 w7) := ⟨H6.out.1.kept hg7 (by omega), R7, H6.out.2.1.kept hg7 (by omega), H6.out.2.2.1.kept hg7 (by omega), below_grown H6.out.2.2.2.1 hg7 (by omega)⟩
        rw [H6.out.2.2.2.2] at hv7
        have da := div_after (HR.out.2.1.ws) HX.out.2.2 (by omega) HX.out.1 HX.out.2.1 HQ.out hv7 hf7
        have HDA : Hid (V F7 (n + 1) + q * B ^ i * V Fd m = V Fr' (n + 1) ∧ V F7 (n + 1) < V Fd m * B ^ i) := da
        clear da hv7 hf7 R7 hg7 DD cz fz
        go_wp2
        go_roundw
        case rel =>
          refine ⟨i, F7, put Fq i q, F5, by go_num, by omega, H7.out.1, H7.out.2.1, H7.out.2.2.1, H7.out.2.2.2.1, H7.out.2.2.2.2, fun j hj => ?_, ?_, HDA.out.2⟩
          · rw [put_ne (by omega)]; exact HV.out.1 j (by omega)
          · have e1 : V (put Fq i q) L = V Fq L + q * B ^ i := V_put_add (HV.out.1 i (by omega)) hiL
            rw [e1, ← HV.out.2.1, ← HDA.out.1]
            exact div_sum
        case measure => first | (simp [intOf]; done) | (simp [intOf]; omega)
      · obtain rfl : k = 0 := by omega
        clear Rd3 Rr3 Rq3 Rp3 hbl c1
        have hlt := HV.out.2.2
        rw [Nat.pow_zero, Nat.mul_one] at hlt
        obtain ⟨y1, y2⟩ := div_end (Q := V Fq L) (r := V Fr' (n + 1)) (a := V f n) (b := V G m) (s := s) rfl (by rw [← HE.out]; exact HI.out.2.2.2.2.1) HV.out.2.1 hlt
        have hX1 : V f n / V G m < B ^ 128 := Nat.lt_of_le_of_lt (Nat.div_le_self _ _) (Nat.lt_of_lt_of_le (V_lt HS.out.ws n) (Nat.pow_le_pow_right B_pos hn))
        have hX2 : V f n % V G m < B ^ 128 := Nat.lt_of_le_of_lt (Nat.mod_le _ _) (Nat.lt_of_lt_of_le (V_lt HS.out.ws n) (Nat.pow_le_pow_right B_pos hn))
        obtain ⟨nq, hlq⟩ := natv_tl HR.out.2.2.1 (by unfold maxLen; omega) y1 hX1
        have T3 := trim_any (row_sl0 HR.out.2.1 (by unfold maxLen; omega))
        have tv := tl_V Fr' (n + 1)
        have tle := tl_le Fr' (n + 1)
        have hbw := HR.out.2.2.2.2
        clear hlt hX1
        go_wp2_with fail
        refine T3.mono ?_
        rintro e w8 ⟨rfl, rfl⟩
        by_cases hz0 : tl Fr' (n + 1) = 0
        · have hv0 : V Fr' (n + 1) = 0 := by rw [← tv, hz0]; rfl
          rw [hv0, Nat.zero_div] at y2
          rw [hz0]
          have SN := shiftDown_none (w := w8) (ao := some ⟨w1'.heap.size, 0, none⟩) (c := 0) hs
          have TQ := trim_any (row_sl0 HR.out.2.2.1 (by unfold maxLen; omega))
          have TN := trim_any (w := w8) (ao := none) (n := 0) (c := 0) (b := 0) (o := 0) (f := fun _ => 0) ⟨Nat.le_refl _, Nat.zero_le _, fun h => absurd h (by omega), fun h => absurd h (by omega), fun i h => absurd h (by omega), fun _ => B_pos⟩
          have nz : NatV w8 (.slice none 0 0) (V f n % V G m) := ⟨none, 0, 0, 0, 0, fun _ => 0, rfl, ⟨Nat.le_refl _, Nat.zero_le _, fun h => absurd h (by omega), fun h => absurd h (by omega), fun i h => absurd h (by omega), fun _ => B_pos⟩, Or.inl rfl, y2, by omega⟩
          rw [show tl (fun _ => 0) 0 = 0 from rfl] at TN
          have HF : Hid (NatV w8 (.slice (some ⟨w2.heap.size, 0, none⟩) (tl Fq L) (tl Fq L)) (V f n / V G m) ∧ NatV w8 (.slice none 0 0) (V f n % V G m) ∧ Below w0.heap.size w0 w8) := ⟨nq, nz, hbw⟩
          clear nq nz y1 y2 hX2 hbw tv hv0 T3
          generalize tl Fq L = tq at *
          go_wp2_with (first
            | (go_at_call 65; refine SN.mono ?_; rintro e w9 ⟨rfl, rfl⟩)
            | (go_at_call_of 52 (Value.slice (none : Option Addr) 0 0); refine TN.mono ?_; rintro e wA ⟨rfl, rfl⟩)
            | (go_at_call 52; refine TQ.mono ?_; rintro e wB ⟨rfl, rfl⟩))
          refine bodyPost_ret (v := .tuple #[.slice (some ⟨w2.heap.size, 0, none⟩) tq tq, .slice none 0 0]) (by simp [results, Tryd.results57, go_sem]) rfl ⟨_, _, rfl, HF.out.1, HF.out.2.1, HF.out.2.2⟩
        · have SF : Sl w8 (some ⟨w1'.heap.size, 0, none⟩) (tl Fr' (n + 1)) (tl Fr' (n + 1)) w1'.heap.size 0 Fr' := by
            have q := HR.out.2.1.sl (o := 0) (n := tl Fr' (n + 1)) (c := tl Fr' (n + 1)) (by omega) (Nat.le_refl _) (by unfold maxLen; omega)
            rw [show (fun i => Fr' (0 + i)) = Fr' from funext fun i => by rw [Nat.zero_add]] at q
            exact q
          have hne : V Fr' (tl Fr' (n + 1)) ≠ 0 := by
            have q := Top_ge (tl_top Fr' (n + 1)) (by omega)
            have := Bp_pos (tl Fr' (n + 1) - 1)
            omega
          have SN := shiftDown_any (hT.next hbw) SF (by omega) s 0 s (by omega) hs (by omega) hne
          rw [tv, Nat.sub_zero, y2] at SN
          have TQ := trim_any (row_sl0 HR.out.2.2.1 (by unfold maxLen; omega))
          have HF : Hid (NatV w8 (.slice (some ⟨w2.heap.size, 0, none⟩) (tl Fq L) (tl Fq L)) (V f n / V G m) ∧ Row w8 w2.heap.size L Fq ∧ Below w0.heap.size w0 w8) := ⟨nq, HR.out.2.2.1, hbw⟩
          have HM : Hid (V f n % V G m < B ^ 128) := hX2
          have hln : tl Fr' (n + 1) ≤ 129 := by omega
          clear nq y1 y2 hX2 hbw tv SF hne tle T3
          generalize tl Fr' (n + 1) = tr at *
          generalize hb0 : decide (V Fr' (n + 1) % 2 ^ s ≠ 0) = bb0 at *
          clear hb0
          go_wp2_with fail
          refine SN.mono ?_
          rintro e w9 ⟨rfl, hb9, F9, R9, hv9⟩
          have TQ9 := trim_any (row_sl0 (HF.out.2.1.below hb9) (by unfold maxLen; omega))
          have TR9 := trim_any (row_sl0 R9 (by unfold maxLen; omega))
          obtain ⟨nr, hlr⟩ := natv_tl R9 (by unfold maxLen; omega) hv9 HM.out
          have HG : Hid (NatV w9 (.slice (some ⟨w2.heap.size, 0, none⟩) (tl Fq L) (tl Fq L)) (V f n / V G m) ∧ NatV w9 (.slice (some ⟨w8.heap.size, 0, none⟩) (tl F9 tr) (tl F9 tr)) (V f n % V G m) ∧ Below w0.heap.size w0 w9) := ⟨HF.out.1.below hb9, nr, HF.out.2.2.trans (hb9.mono HF.out.2.2.size)⟩
          clear TQ SN hv9 R9 nr hlr hlq
          generalize tl Fq L = tq at *
          generalize tl F9 tr = tr9 at *
          go_wp2_with fail
          refine TQ9.mono ?_
          rintro e wA ⟨rfl, rfl⟩
          go_wp2_with fail
          refine TR9.mono ?_
          rintro e wB ⟨rfl, rfl⟩
          go_wp2
          refine bodyPost_ret (v := .tuple #[.slice (some ⟨w2.heap.size, 0, none⟩) tq tq, .slice (some ⟨w8.heap.size, 0, none⟩) tr9 tr9]) (by simp [results, Tryd.results57, go_sem]) rfl ⟨_, _, rfl, HG.out.1, HG.out.2.1, HG.out.2.2⟩
  · have hmq : ∀ W : World, (Instr.makeSlice 23 (.int .i64 0) (.int .i64 0)).run Tryd.prog W = .ok (.slice (some ⟨W.heap.size, 0, none⟩) L L) (W.alloc (.cells (madeCells #[.int .u64 0] L) 35)) := by
      intro W
      have q := hmq0 W
      rw [show (L : Int) = 0 by have := HLL.out; omega] at q
      exact q
    have hpos : (n : Int) + 1 - (m : Int) ≤ 0 := by omega
    clear hmq0
    have eD : V Fd (m + 1) = V Fd m := by
      have q := tl_V Fd (m + 1)
      rw [HI.out.2.2.2.2.2.2] at q
      exact q.symm
    have HE : Hid (V Fd (m + 1) = V Fd m) := eD
    clear eD
    go_wp2
    clear hmq hmp
    go_loopw [11] (fun i wr => ∃ (k : Nat) (Fr' Fq Fp : Nat → Nat), i = .int .i64 ((k : Int) - 1) ∧ k ≤ L ∧ Row wr w0.heap.size (m + 1) Fd ∧ Row wr w1'.heap.size (n + 1) Fr' ∧ Row wr w2.heap.size L Fq ∧ Row wr (w2.heap.size + 1) (m + 1) Fp ∧ Below w0.heap.size w0 wr ∧ (∀ j, j < k → Fq j = 0) ∧ V Fr' (n + 1) + V Fq L * V Fd m = V f n * 2 ^ s ∧ V Fr' (n + 1) < V Fd m * B ^ k) (fun i _ => (intOf i + 1).toNat)
    case atStart =>
      refine ⟨L, Fr, fun _ => 0, fun _ => 0, rfl, Nat.le_refl _, (Rd2.alloc _).alloc _, (Rr.alloc _).alloc _, (made_row w2 L).alloc _, ?_, ((hB2.alloc (by omega) _).alloc (by simp; omega) _), fun _ _ => rfl, ?_, ?_⟩
      · have q := made_row (w2.alloc (.cells (madeCells #[.int .u64 0] L) 35)) (m + 1)
        rw [World.size_alloc] at q
        exact q
      · rw [V_nought, Nat.zero_mul, Nat.add_zero]; exact HI.out.2.2.2.2.2.1
      · rw [← HE.out]; exact HI.out.1
    case round =>
      obtain ⟨k, Fr', Fq, Fp, rfl, hk, Rd3, Rr3, Rq3, Rp3, hbl, hz, hsum, hlt⟩ := hrel
      have HR : Hid (Row wr w0.heap.size (m + 1) Fd ∧ Row wr w1'.heap.size (n + 1) Fr' ∧ Row wr w2.heap.size L Fq ∧ Row wr (w2.heap.size + 1) (m + 1) Fp ∧ Below w0.heap.size w0 wr) := ⟨Rd3, Rr3, Rq3, Rp3, hbl⟩
      have HV : Hid ((∀ j, j < k → Fq j = 0) ∧ V Fr' (n + 1) + V Fq L * V Fd m = V f n * 2 ^ s ∧ V Fr' (n + 1) < V Fd m * B ^ k) := ⟨hz, hsum, hlt⟩
      clear hz hsum hlt
      by_cases c1 : 0 < k
      · exfalso
        have := HLL.out
        omega
      · obtain rfl : k = 0 := by omega
        clear Rd3 Rr3 Rq3 Rp3 hbl c1
        have hlt := HV.out.2.2
        rw [Nat.pow_zero, Nat.mul_one] at hlt
        obtain ⟨y1, y2⟩ := div_end (Q := V Fq L) (r := V Fr' (n + 1)) (a := V f n) (b := V G m) (s := s) rfl (by rw [← HE.out]; exact HI.out.2.2.2.2.1) HV.out.2.1 hlt
        have hX1 : V f n / V G m < B ^ 128 := Nat.lt_of_le_of_lt (Nat.div_le_self _ _) (Nat.lt_of_lt_of_le (V_lt HS.out.ws n) (Nat.pow_le_pow_right B_pos hn))
        have hX2 : V f n % V G m < B ^ 128 := Nat.lt_of_le_of_lt (Nat.mod_le _ _) (Nat.lt_of_lt_of_le (V_lt HS.out.ws n) (Nat.pow_le_pow_right B_pos hn))
        obtain ⟨nq, hlq⟩ := natv_tl HR.out.2.2.1 (by unfold maxLen; omega) y1 hX1
        have T3 := trim_any (row_sl0 HR.out.2.1 (by unfold maxLen; omega))
        have tv := tl_V Fr' (n + 1)
        have tle := tl_le Fr' (n + 1)
        have hbw := HR.out.2.2.2.2
        clear hlt hX1
        go_wp2_with fail
        refine T3.mono ?_
        rintro e w8 ⟨rfl, rfl⟩
        by_cases hz0 : tl Fr' (n + 1) = 0
        · have hv0 : V Fr' (n + 1) = 0 := by rw [← tv, hz0]; rfl
          rw [hv0, Nat.zero_div] at y2
          rw [hz0]
          have SN := shiftDown_none (w := w8) (ao := some ⟨w1'.heap.size, 0, none⟩) (c := 0) hs
          have TQ := trim_any (row_sl0 HR.out.2.2.1 (by unfold maxLen; omega))
          have TN := trim_any (w := w8) (ao := none) (n := 0) (c := 0) (b := 0) (o := 0) (f := fun _ => 0) ⟨Nat.le_refl _, Nat.zero_le _, fun h => absurd h (by omega), fun h => absurd h (by omega), fun i h => absurd h (by omega), fun _ => B_pos⟩
          have nz : NatV w8 (.slice none 0 0) (V f n % V G m) := ⟨none, 0, 0, 0, 0, fun _ => 0, rfl, ⟨Nat.le_refl _, Nat.zero_le _, fun h => absurd h (by omega), fun h => absurd h (by omega), fun i h => absurd h (by omega), fun _ => B_pos⟩, Or.inl rfl, y2, by omega⟩
          rw [show tl (fun _ => 0) 0 = 0 from rfl] at TN
          have HF : Hid (NatV w8 (.slice (some ⟨w2.heap.size, 0, none⟩) (tl Fq L) (tl Fq L)) (V f n / V G m) ∧ NatV w8 (.slice none 0 0) (V f n % V G m) ∧ Below w0.heap.size w0 w8) := ⟨nq, nz, hbw⟩
          clear nq nz y1 y2 hX2 hbw tv hv0 T3
          generalize tl Fq L = tq at *
          go_wp2_with (first
            | (go_at_call 65; refine SN.mono ?_; rintro e w9 ⟨rfl, rfl⟩)
            | (go_at_call_of 52 (Value.slice (none : Option Addr) 0 0); refine TN.mono ?_; rintro e wA ⟨rfl, rfl⟩)
            | (go_at_call 52; refine TQ.mono ?_; rintro e wB ⟨rfl, rfl⟩))
          refine bodyPost_ret (v := .tuple #[.slice (some ⟨w2.heap.size, 0, none⟩) tq tq, .slice none 0 0]) (by simp [results, Tryd.results57, go_sem]) rfl ⟨_, _, rfl, HF.out.1, HF.out.2.1, HF.out.2.2⟩
        · have SF : Sl w8 (some ⟨w1'.heap.size, 0, none⟩) (tl Fr' (n + 1)) (tl Fr' (n + 1)) w1'.heap.size 0 Fr' := by
            have q := HR.out.2.1.sl (o := 0) (n := tl Fr' (n + 1)) (c := tl Fr' (n + 1)) (by omega) (Nat.le_refl _) (by unfold maxLen; omega)
            rw [show (fun i => Fr' (0 + i)) = Fr' from funext fun i => by rw [Nat.zero_add]] at q
            exact q
          have hne : V Fr' (tl Fr' (n + 1)) ≠ 0 := by
            have q := Top_ge (tl_top Fr' (n + 1)) (by omega)
            have := Bp_pos (tl Fr' (n + 1) - 1)
            omega
          have SN := shiftDown_any (hT.next hbw) SF (by omega) s 0 s (by omega) hs (by omega) hne
          rw [tv, Nat.sub_zero, y2] at SN
          have TQ := trim_any (row_sl0 HR.out.2.2.1 (by unfold maxLen; omega))
          have HF : Hid (NatV w8 (.slice (some ⟨w2.heap.size, 0, none⟩) (tl Fq L) (tl Fq L)) (V f n / V G m) ∧ Row w8 w2.heap.size L Fq ∧ Below w0.heap.size w0 w8) := ⟨nq, HR.out.2.2.1, hbw⟩
          have HM : Hid (V f n % V G m < B ^ 128) := hX2
          have hln : tl Fr' (n + 1) ≤ 129 := by omega
          clear nq y1 y2 hX2 hbw tv SF hne tle T3
          generalize tl Fr' (n + 1) = tr at *
          generalize hb0 : decide (V Fr' (n + 1) % 2 ^ s ≠ 0) = bb0 at *
          clear hb0
          go_wp2_with fail
          refine SN.mono ?_
          rintro e w9 ⟨rfl, hb9, F9, R9, hv9⟩
          have TQ9 := trim_any (row_sl0 (HF.out.2.1.below hb9) (by unfold maxLen; omega))
          have TR9 := trim_any (row_sl0 R9 (by unfold maxLen; omega))
          obtain ⟨nr, hlr⟩ := natv_tl R9 (by unfold maxLen; omega) hv9 HM.out
          have HG : Hid (NatV w9 (.slice (some ⟨w2.heap.size, 0, none⟩) (tl Fq L) (tl Fq L)) (V f n / V G m) ∧ NatV w9 (.slice (some ⟨w8.heap.size, 0, none⟩) (tl F9 tr) (tl F9 tr)) (V f n % V G m) ∧ Below w0.heap.size w0 w9) := ⟨HF.out.1.below hb9, nr, HF.out.2.2.trans (hb9.mono HF.out.2.2.size)⟩
          clear TQ SN hv9 R9 nr hlr hlq
          generalize tl Fq L = tq at *
          generalize tl F9 tr = tr9 at *
          go_wp2_with fail
          refine TQ9.mono ?_
          rintro e wA ⟨rfl, rfl⟩
          go_wp2_with fail
          refine TR9.mono ?_
          rintro e wB ⟨rfl, rfl⟩
          go_wp2
          refine bodyPost_ret (v := .tuple #[.slice (some ⟨w2.heap.size, 0, none⟩) tq tq, .slice (some ⟨w8.heap.size, 0, none⟩) tr9 tr9]) (by simp [results, Tryd.results57, go_sem]) rfl ⟨_, _, rfl, HG.out.1, HG.out.2.1, HG.out.2.2⟩

end Go.Proofs.YtkkgancmodhghaaDoor
