/-
  The laws of layer 16, by one contract of the program's four calls.
-/
import Derived.Test.YtfoaeholbidngaaGreatDoorCoJ
import Derived.Test.YtfoaeholbidngaaGreatDoorCoK
namespace Go.Proofs.YtfoaeholbidngaaGreatDoor
open Go.RowKit

/-- How a decimal lies to a float's value, and to the place half way behind it. -/
def ocV (f : Nat) (L : Int) (t : ByteArray) (p : Int) (c : Bool) (b : Nat) : Int := oc (frN t (nrP p)) (frD t (nrP p)) c (exN (mt f b) (xp f L b)) (exD (mt f b) (xp f L b))
def ocH (f : Nat) (L : Int) (t : ByteArray) (p : Int) (c : Bool) (b : Nat) : Int := oc (frN t (nrP p)) (frD t (nrP p)) c (exN (hM f b) (hX f L b)) (exD (hM f b) (hX f L b))
structure CmN (w : World) (z : Int) (n f T : Nat) (L : Int) : Prop where
  ne : ∀ t p c, VD t p c → NoM w 14 #[dcV t p c, .int .i64 z] (.tuple #[.int .u64 (((nrX f T L t p c).1 : Nat) : Int), erC (if (nrX f T L t p c).2 then 4 else 0)])
  wi : ∀ t p c b, VD t p c → b < n → NoM w 8 #[dcV t p c, .int .u64 (b : Int), .int .i64 z] (.tuple #[.int .i64 (ocV f L t p c b), .nilIface])
  ha : ∀ t p c b, VD t p c → b < n → NoM w 10 #[dcV t p c, .int .u64 (b : Int), .int .i64 z] (.tuple #[.int .i64 (ocH f L t p c b), .nilIface])
structure CmA (w : World) : Prop where
  no : ∀ t p c z, t.size ≤ 9223372036854775807 → Sn z → NoM w 14 #[dcV t p c, .int .i64 z] (.tuple #[.int .u64 0, .iface 74 (.int .i64 5)])
  bad : ∀ t p c z g n f T L, t.size ≤ 9223372036854775807 → Fz z g n f T L → ¬ VD t p c → NoM w 14 #[dcV t p c, .int .i64 z] (.tuple #[.int .u64 0, .iface 74 (.int .i64 1)])
  ok : ∀ z g n f T L, Fz z g n f T L → CmN w z n f T L
theorem erC_nil : erC 0 = .nilIface := if_pos rfl
theorem erC_four : erC 4 = .iface 74 (.int .i64 4) := if_neg (by decide)
theorem fz_pos {z : Int} {g n f T : Nat} {L : Int} (hz : Fz z g n f T L) : 0 < f ∧ 2 ≤ T ∧ 0 < n := by
  rcases hz with ⟨_, _, rfl, rfl, rfl, _⟩ | ⟨_, _, rfl, rfl, rfl, _⟩ <;> decide
theorem CmN.ans {w : World} {z : Int} {n f T : Nat} {L : Int} (C : CmN w z n f T L) {t : ByteArray} {p : Int} {c : Bool} (hv : VD t p c) {x : Nat} (e : nrX f T L t p c = (x, false)) : NoM w 14 #[dcV t p c, .int .i64 z] (.tuple #[.int .u64 (x : Int), .nilIface]) := by
  have q := C.ne t p c hv
  rw [e] at q
  simp only [Bool.false_eq_true, if_false] at q
  rw [erC_nil] at q
  exact q
theorem CmN.end {w : World} {z : Int} {n f T : Nat} {L : Int} (C : CmN w z n f T L) {t : ByteArray} {p : Int} {c : Bool} (hv : VD t p c) {x : Nat} (e : nrX f T L t p c = (x, true)) : NoM w 14 #[dcV t p c, .int .i64 z] (.tuple #[.int .u64 (x : Int), .iface 74 (.int .i64 4)]) := by
  have q := C.ne t p c hv
  rw [e] at q
  simp only [if_true] at q
  rw [erC_four] at q
  exact q
theorem VN.num {t : ByteArray} {q : Int} {c : Bool} (h : VN t q c) (p : Int) : frN t p ≠ 0 ∧ frD t p ≠ 0 := by
  have v := h.val
  unfold frN frD
  exact ⟨Nat.mul_ne_zero (by omega) (Nat.pos_iff_ne_zero.mp (Nat.pow_pos (by decide))), Nat.pos_iff_ne_zero.mp (Nat.pow_pos (by decide))⟩
theorem tight16 {z : Int} {g n f T : Nat} {L : Int} (hz : Fz z g n f T L) {t : ByteArray} {p : Int} {c : Bool} (hv : VD t p c) {w : World} (C : CmN w z n f T L)
    (WK : ∀ W, Below w.heap.size w W → Calls Tryz.prog 13 #[] W fun o w' => o = .returned (.bool true) ∧ Below W.heap.size W w') :
    Calls Tryz.prog 6 #[dcV t p c, .int .i64 z] w fun o w' => o = .returned (.bool true) ∧ Below w.heap.size w w' := by
  obtain ⟨en, ng', g2, _⟩ := fz_parts hz
  obtain ⟨hf, hT, n0⟩ := fz_pos hz
  rcases id hv with ⟨h0, rfl, rfl⟩ | h
  · obtain rfl := ba_none16 h0
    have e : nrX f T L ⟨#[]⟩ 0 false = (0, false) := by unfold nrX; exact if_pos rfl
    have a : ocH f L ⟨#[]⟩ 0 false 0 = -1 := by
      unfold ocH
      apply oc_lt
      have k := half_ne (ex_frc (hM f 0) (hX f L 0))
      have q : frN ⟨#[]⟩ (nrP 0) = 0 := by unfold frN; rw [show dvA ⟨#[]⟩ 0 (ByteArray.size ⟨#[]⟩) = 0 from rfl, Nat.zero_mul]
      rw [q, Nat.zero_mul]
      exact Nat.mul_pos (by omega) (Nat.pow_pos (by decide))
    exact tight_zero hz hv (.inl a) (C.ans hv e) (C.ha _ _ _ 0 hv n0) WK
  · obtain ⟨N0, D0⟩ := h.num (nrP p)
    have e : nrX f T L t p c = rdA f T L (frN t (nrP p)) (frD t (nrP p)) 0 c := by unfold nrX; rw [if_neg (by have := h.pos; omega)]
    have r := rdN_RD hf (L := L) (e := 0) c N0 D0
    have a := rdA_of (T := T) hf N0 D0 r
    generalize rdN f L (frN t (nrP p)) (frD t (nrP p)) 0 c = y at r a
    rw [a, ← en] at e
    by_cases q : y < n
    · rw [if_pos q] at e
      have up := (up_oc (ex_frc (hM f y) (hX f L y)) (ex_frc (hM f y) (hX f L y)).pos).1 r.1
      by_cases y0 : y = 0
      · subst y0
        exact tight_zero hz hv up (C.ans hv e) (C.ha _ _ _ 0 hv n0) WK
      · have dn := dn_oc y0 (ex_frc (hM f (y - 1)) (hX f L (y - 1))) (ex_frc (hM f (y - 1)) (hX f L (y - 1))).pos (r.2.resolve_left y0)
        have P2 := C.ha t p c (y - 1) hv (by omega)
        rw [show ((y - 1 : Nat) : Int) = (y : Int) - 1 from by omega] at P2
        exact tight_mid hz hv (by omega) q up dn (C.ans hv e) (C.ha _ _ _ y hv q) P2 WK
    · rw [if_neg q] at e
      have dn := dn_oc (b := n) (by omega) (ex_frc (hM f (n - 1)) (hX f L (n - 1))) (ex_frc (hM f (n - 1)) (hX f L (n - 1))).pos (fun u => by have := r.le (Nat.pos_of_ne_zero D0) u; omega)
      have P2 := C.ha t p c (n - 1) hv (by omega)
      rw [show ((n - 1 : Nat) : Int) = (n : Int) - 1 from by omega] at P2
      exact tight_inf hz hv dn (C.end hv e) P2 WK
/-- The law CompareTight. -/
theorem law_tight16 {t : ByteArray} (ht : t.size ≤ 9223372036854775807) {p : Int} {c : Bool} {z : Int} {w : World} (C : CmA w)
    (WK : ∀ W, Below w.heap.size w W → Calls Tryz.prog 13 #[] W fun o w' => o = .returned (.bool true) ∧ Below W.heap.size W w') :
    Calls Tryz.prog 6 #[dcV t p c, .int .i64 z] w fun o w' => o = .returned (.bool true) ∧ Below w.heap.size w w' := by
  rcases fz_of z with h | ⟨g, n, f, T, L, hz⟩
  · exact tight_no h (C.no t p c z ht h) WK
  · by_cases hv : VD t p c
    · exact tight16 hz hv (C.ok z g n f T L hz) WK
    · exact tight_bad hz ht hv (C.bad t p c z g n f T L ht hz hv) WK

theorem vE_same {n d n' d' m : Nat} {x : Int} (h : vE n d 0 m x) (h' : vE n' d' 0 m x) : n * d' = n' * d := by
  have q := h.at (min 0 x) (by omega) (by omega)
  have q' := h'.at (min 0 x) (by omega) (by omega)
  unfold ev at q q'
  generalize m * 2 ^ (x - min 0 x).toNat = M at *
  have p : 0 < 2 ^ (0 - min 0 x).toNat := Nat.two_pow_pos _
  generalize 2 ^ (0 - min 0 x).toNat = A at *
  apply Nat.eq_of_mul_eq_mul_right p
  rw [Nat.mul_right_comm, q, Nat.mul_right_comm n', q', Nat.mul_right_comm d, Nat.mul_comm d d', Nat.mul_right_comm d']
/-- A decimal that is a number times a power of two. -/
theorem DcX.vd {u : ByteArray} {P : Int} {m : Nat} {x : Int} (h : DcX u P m x) : VD u P false := by
  rcases h with ⟨_, rfl, rfl⟩ | ⟨_, h, _⟩
  · exact .inl ⟨rfl, rfl, rfl⟩
  · exact .inr h
theorem DcX.oc {u : ByteArray} {P : Int} {m : Nat} {x : Int} (h : DcX u P m x) : oc (frN u (nrP P)) (frD u (nrP P)) false (exN m x) (exD m x) = 0 := by
  have k := ex_frc m x
  rcases h with ⟨rfl, rfl, rfl⟩ | ⟨_, _, e, v⟩
  · have q : frN ⟨#[]⟩ (nrP 0) = 0 := by unfold frN; rw [show dvA ⟨#[]⟩ 0 (ByteArray.size ⟨#[]⟩) = 0 from rfl, Nat.zero_mul]
    rw [oc_eq (by rw [q, k.zero.2 rfl, Nat.zero_mul, Nat.zero_mul])]
    rfl
  · rw [e, oc_eq (vE_same v k.1)]
    rfl
theorem DcX.nr {f T : Nat} (hf : 0 < f) {L : Int} {u : ByteArray} {P : Int} {m : Nat} {x : Int} (m0 : 0 < m) (h : DcX u P m x) : nrX f T L u P false = rdA f T L (exN m x) (exD m x) 0 false := by
  have k := ex_frc m x
  rcases h with ⟨rfl, _⟩ | ⟨_, h, e, v⟩
  · exact absurd m0 (by decide)
  · obtain ⟨_, D0⟩ := h.num P
    unfold nrX
    rw [if_neg (by have := h.pos; omega), e]
    refine rdA_same hf D0 (by have := k.pos; omega) ?_
    rw [vE_same v k.1]
    exact ⟨0, Int.le_refl _, Int.le_refl _, rfl⟩
theorem hM_pos (f b : Nat) : 0 < hM f b := by have := hM_odd f b; omega
theorem DcX.half {z : Int} {g n f T : Nat} {L : Int} (hz : Fz z g n f T L) {u : ByteArray} {P : Int} {b : Nat} (h : DcX u P (hM f b) (hX f L b)) : nrX f T L u P false = if (if b % 2 = 0 then b else b + 1) < n then (if b % 2 = 0 then b else b + 1, false) else (n, true) := by
  obtain ⟨en, _⟩ := fz_parts hz
  rw [DcX.nr (fz_pos hz).1 (hM_pos f b) h, rdA_half (fz_pos hz).1 (ex_frc _ _), ← en]
theorem DcX.val {z : Int} {g n f T : Nat} {L : Int} (hz : Fz z g n f T L) {u : ByteArray} {P : Int} {b : Nat} (hb : b < n) (h : DcX u P (mt f b) (xp f L b)) : nrX f T L u P false = (b, false) := by
  obtain ⟨en, _⟩ := fz_parts hz
  by_cases b0 : b = 0
  · subst b0
    rcases h with ⟨_, rfl, rfl⟩ | ⟨q, _⟩
    · unfold nrX; exact if_pos rfl
    · rw [mt_nought] at q
      exact absurd q (by decide)
  · rw [DcX.nr (fz_pos hz).1 (Nat.pos_of_ne_zero (mt_pos b0)) h]
    exact rdA_val (fz_pos hz).1 (by rw [← en]; exact hb) (ex_frc _ _)

set_option maxRecDepth 100000 in
set_option maxHeartbeats 1000000 in
theorem runp_noC {s : Int} (h : Sn s) (b : Int) (w : World) : Calls Tryz.prog 50 #[.int .u64 b, .int .i64 s] w fun e w' => e = .returned (.tuple #[.agg #[.bool false, .int .i64 0, .int .u64 0, .int .i64 0], .int .i64 5]) ∧ Below w.heap.size w w' := by
  have H := fun W => rcheck_no h b W
  go_enter Tryz.func50, Tryz.ntmps50
  go_wp2_with fail
  refine (H _).mono ?_
  rintro e w1 ⟨rfl, rfl⟩
  go_wp2
  exact bodyPost_ret (v := .tuple #[.agg #[.bool false, .int .i64 0, .int .u64 0, .int .i64 0], .int .i64 5]) (by simp [results, Tryz.results50, go_sem]) rfl ⟨rfl, (Below.refl _ _).alloc (Nat.le_refl _) _⟩
set_option maxRecDepth 100000 in
set_option maxHeartbeats 1000000 in
theorem runp_bigC {b : Nat} (h : 4294967296 ≤ b) (w : World) : Calls Tryz.prog 50 #[.int .u64 (b : Int), .int .i64 32] w fun e w' => e = .returned (.tuple #[.agg #[.bool false, .int .i64 0, .int .u64 0, .int .i64 0], .int .i64 1]) ∧ Below w.heap.size w w' := by
  have H := fun W => rcheck_big h W
  go_enter Tryz.func50, Tryz.ntmps50
  go_wp2_with fail
  refine (H _).mono ?_
  rintro e w1 ⟨rfl, rfl⟩
  go_wp2
  exact bodyPost_ret (v := .tuple #[.agg #[.bool false, .int .i64 0, .int .u64 0, .int .i64 0], .int .i64 1]) (by simp [results, Tryz.results50, go_sem]) rfl ⟨rfl, (Below.refl _ _).alloc (Nat.le_refl _) _⟩
theorem ex_at {z : Int} {g n f T : Nat} {L : Int} (hz : Fz z g n f T L) {b : Nat} (hb : b < n) (W : World) : Calls Tryz.prog 25 #[.int .u64 (b : Int), .int .i64 z] W fun e w' => ∃ u P, e = .returned (.tuple #[dcV u P false, .int .i64 0]) ∧ DcX u P (mt f b) (xp f L b) ∧ Below W.heap.size W w' := by
  obtain ⟨_, hg, h2, g0⟩ := fz_parts hz
  have m := mg_self (g := g) (b := b) (by omega)
  refine (exact16_ok hz (b := b) (by omega) (by rw [m]; exact hb) W).mono ?_
  rintro o w' ⟨u, P, rfl, h, hw⟩
  refine ⟨u, P, rfl, ?_, hw⟩
  rw [m] at h
  have U := uM_lim hz hb
  rw [U.2.2.2.2.1] at h
  by_cases b0 : b = 0
  · subst b0
    rw [mt_nought] at h ⊢
    rcases h with h | ⟨q, _⟩
    · exact .inl h
    · exact absurd q (by decide)
  · rw [U.2.2.2.2.2 b0] at h
    exact h
theorem bo_at {z : Int} {g n f T : Nat} {L : Int} (hz : Fz z g n f T L) {b : Nat} (b0 : b ≠ 0) (hb : b < n) (W : World) : Calls Tryz.prog 26 #[.int .u64 (b : Int), .int .i64 z] W fun e w' => ∃ u P u' P', e = .returned (.tuple #[dcV u P false, dcV u' P' false, .bool (decide (b % 2 = 0)), .int .i64 0]) ∧ DcX u P (hM f (b - 1)) (hX f L (b - 1)) ∧ DcX u' P' (hM f b) (hX f L b) ∧ Below W.heap.size W w' := by
  obtain ⟨_, hg, h2, g0⟩ := fz_parts hz
  exact bounds16_some hz b0 hb (by omega) (mg_self (by omega))
theorem exact16 {z : Int} {g n f T : Nat} {L : Int} (hz : Fz z g n f T L) {b : Nat} (hb : b < n) {w : World} (C : CmN w z n f T L)
    (WK : ∀ W, Below w.heap.size w W → Calls Tryz.prog 13 #[] W fun o w' => o = .returned (.bool true) ∧ Below W.heap.size W w') :
    Calls Tryz.prog 7 #[.int .u64 (b : Int), .int .i64 z] w fun o w' => o = .returned (.bool true) ∧ Below w.heap.size w w' := by
  obtain ⟨_, hg, h2, g0⟩ := fz_parts hz
  have EX := fun W => ex_at hz hb W
  have P1 : ∀ u P, DcX u P (mt f b) (xp f L b) → NoM w 14 #[dcV u P false, .int .i64 z] (.tuple #[.int .u64 (b : Int), .nilIface]) := fun u P h => C.ans h.vd (DcX.val hz hb h)
  have P2 : ∀ u P, DcX u P (mt f b) (xp f L b) → NoM w 8 #[dcV u P false, .int .u64 (b : Int), .int .i64 z] (.tuple #[.int .i64 0, .nilIface]) := fun u P h => by
    have q := C.wi u P false b h.vd hb
    unfold ocV at q
    rw [h.oc] at q
    exact q
  have PH : ∀ x, x < n → ∀ u P, DcX u P (hM f x) (hX f L x) → NoM w 10 #[dcV u P false, .int .u64 (x : Int), .int .i64 z] (.tuple #[.int .i64 0, .nilIface]) := fun x hx u P h => by
    have q := C.ha u P false x h.vd hx
    unfold ocH at q
    rw [h.oc] at q
    exact q
  by_cases b0 : b = 0
  · subst b0
    have BO := fun W => bounds16_zero hz (c := 0) (by omega) (mg_self (by omega)) (w := W)
    have P4 : ∀ u P, DcX u P (hM f 0) (hX f L 0) → NoM w 14 #[dcV u P false, .int .i64 z] (.tuple #[.int .u64 ((0 : Nat) : Int), .nilIface]) := fun u P h => C.ans h.vd (by rw [h.half hz, if_pos rfl, if_pos hb])
    have P3 := PH 0 hb
    simp only [Int.cast_ofNat_Int] at EX BO P1 P2 P3 P4 ⊢
    exact exact_zero hz EX BO P1 P2 P3 P4 WK
  · have BO := fun W => bo_at hz b0 hb W
    have P5 := PH (b - 1) (by omega)
    rw [show ((b - 1 : Nat) : Int) = (b : Int) - 1 from by omega] at P5
    by_cases ev : b % 2 = 0
    · rw [decide_eq_true ev] at BO
      refine exact_even hz b0 hb EX BO P1 P2 (PH b hb) (fun u P h => C.ans h.vd (by rw [h.half hz, if_pos ev, if_pos hb])) P5 (fun u P h => C.ans h.vd ?_) WK
      rw [h.half hz, if_neg (show ¬ (b - 1) % 2 = 0 by omega), show b - 1 + 1 = b from by omega, if_pos hb]
    · rw [decide_eq_false ev] at BO
      have P6 : ∀ u P, DcX u P (hM f (b - 1)) (hX f L (b - 1)) → NoM w 14 #[dcV u P false, .int .i64 z] (.tuple #[.int .u64 ((b : Int) - 1), .nilIface]) := fun u P h => by
        have q := C.ans h.vd (x := b - 1) (by rw [h.half hz, if_pos (show (b - 1) % 2 = 0 by omega), if_pos (by omega)])
        rw [show ((b - 1 : Nat) : Int) = (b : Int) - 1 from by omega] at q
        exact q
      by_cases e : b + 1 < n
      · have P4 : ∀ u P, DcX u P (hM f b) (hX f L b) → NoM w 14 #[dcV u P false, .int .i64 z] (.tuple #[.int .u64 ((b : Int) + 1), .nilIface]) := fun u P h => by
          have q := C.ans h.vd (x := b + 1) (by rw [h.half hz, if_neg ev, if_pos e])
          rw [show ((b + 1 : Nat) : Int) = (b : Int) + 1 from by omega] at q
          exact q
        exact exact_odd hz b0 e EX BO P1 P2 (PH b hb) P4 P5 P6 WK
      · have P4 : ∀ u P, DcX u P (hM f b) (hX f L b) → NoM w 14 #[dcV u P false, .int .i64 z] (.tuple #[.int .u64 ((b : Int) + 1), .iface 74 (.int .i64 4)]) := fun u P h => by
          have q := C.end h.vd (x := n) (by rw [h.half hz, if_neg ev, if_neg e])
          rw [show (n : Int) = (b : Int) + 1 from by omega] at q
          exact q
        exact exact_inf hz b0 (by omega) EX BO P1 P2 (PH b hb) P4 P5 P6 WK
/-- The law CompareExact. -/
theorem law_exact16 {z : Int} {b : Nat} (hb : b < 18446744073709551616) {w : World} (C : CmA w)
    (WK : ∀ W, Below w.heap.size w W → Calls Tryz.prog 13 #[] W fun o w' => o = .returned (.bool true) ∧ Below W.heap.size W w') :
    Calls Tryz.prog 7 #[.int .u64 (b : Int), .int .i64 z] w fun o w' => o = .returned (.bool true) ∧ Below w.heap.size w w' := by
  rcases fz_of z with h | ⟨g, n, f, T, L, hz⟩
  · exact exact_err (k := 5) (by decide) (fun W => exact16_err (by decide) fun W => runp_noC h b W) WK
  · obtain ⟨_, hg, h2, g0⟩ := fz_parts hz
    have n0 := (fz_pos hz).2.2
    rcases Nat.lt_or_ge b (2 * g) with h | h
    · have UN := fun W => runp_z hz h W
      have MG := fun W => rmag_z hz h W
      rcases cl_cases n (mg g b) with ⟨q, k⟩ | ⟨q, q', k⟩ | ⟨q, q', k⟩ | ⟨q, k⟩
      · by_cases s : mg g b = b
        · exact exact16 hz (by omega) (C.ok z g n f T L hz) WK
        · exact exact_sgn s (fun W => exact16_ok hz h (by omega) W) (fun W => bounds16_zero hz h q (w := W)) MG WK
      · by_cases s : mg g b = b
        · exact exact16 hz (by omega) (C.ok z g n f T L hz) WK
        · exact exact_sgn s (fun W => exact16_ok hz h (by omega) W) (fun W => bounds16_some hz q q' h rfl (w := W)) MG WK
      · rw [k] at UN
        exact exact_err (k := 1) (by decide) (fun W => exact16_inf UN) WK
      · rw [k] at UN
        exact exact_err (k := 1) (by decide) (fun W => exact16_nan UN) WK
    · rcases hz with ⟨rfl, rfl, _⟩ | ⟨rfl, rfl, _⟩
      · exact exact_err (k := 1) (by decide) (fun W => exact16_err (by decide) fun W => runp_bigC h W) WK
      · omega

/-- What a call answers, and how often it counts the road. -/
def Ans (w : World) (fn : FuncId) (args : Array Value) (v : Value) (n : Int) : Prop := NoM w fn args v ∧ MeM w fn args v n
structure CmT (w : World) : Prop where
  nn : ∀ t p c z, t.size ≤ 9223372036854775807 → Sn z → Ans w 14 #[dcV t p c, .int .i64 z] (.tuple #[.int .u64 0, erC 5]) 0
  nb : ∀ t p c z g n f T L, t.size ≤ 9223372036854775807 → Fz z g n f T L → ¬ VD t p c → Ans w 14 #[dcV t p c, .int .i64 z] (.tuple #[.int .u64 0, erC 1]) 0
  nk : ∀ t p c z g n f T L, Fz z g n f T L → VD t p c → Ans w 14 #[dcV t p c, .int .i64 z] (.tuple #[.int .u64 (((nrX f T L t p c).1 : Nat) : Int), erC (if (nrX f T L t p c).2 then 4 else 0)]) 1
  sn : ∀ t p c (b : Nat) z, t.size ≤ 9223372036854775807 → b < 18446744073709551616 → Sn z → Ans w 16 #[dcV t p c, .int .u64 (b : Int), .int .i64 z] (.tuple #[.int .u64 0, erC 5]) 0
  sb : ∀ t p c (b : Nat) z g n f T L, t.size ≤ 9223372036854775807 → b < 18446744073709551616 → Fz z g n f T L → ¬ (VD t p c ∧ b ≤ n) → Ans w 16 #[dcV t p c, .int .u64 (b : Int), .int .i64 z] (.tuple #[.int .u64 0, erC 1]) 0
  sk : ∀ t p c (b : Nat) z g n f T L, Fz z g n f T L → VD t p c → b ≤ n → Ans w 16 #[dcV t p c, .int .u64 (b : Int), .int .i64 z] (.tuple #[.int .u64 (((nrX f T L t p c).1 : Nat) : Int), erC (if (nrX f T L t p c).2 then 4 else 0)]) 1
  wn : ∀ t p c (b : Nat) z, t.size ≤ 9223372036854775807 → b < 18446744073709551616 → Sn z → Ans w 8 #[dcV t p c, .int .u64 (b : Int), .int .i64 z] (.tuple #[.int .i64 0, erC 5]) 0
  wb : ∀ t p c (b : Nat) z g n f T L, t.size ≤ 9223372036854775807 → b < 18446744073709551616 → Fz z g n f T L → ¬ (VD t p c ∧ b < n) → Ans w 8 #[dcV t p c, .int .u64 (b : Int), .int .i64 z] (.tuple #[.int .i64 0, erC 1]) 0
  wk : ∀ t p c (b : Nat) z g n f T L, Fz z g n f T L → VD t p c → b < n → Ans w 8 #[dcV t p c, .int .u64 (b : Int), .int .i64 z] (.tuple #[.int .i64 (ocV f L t p c b), erC 0]) 0
  hn : ∀ t p c (b : Nat) z, t.size ≤ 9223372036854775807 → b < 18446744073709551616 → Sn z → Ans w 10 #[dcV t p c, .int .u64 (b : Int), .int .i64 z] (.tuple #[.int .i64 0, erC 5]) 0
  hb : ∀ t p c (b : Nat) z g n f T L, t.size ≤ 9223372036854775807 → b < 18446744073709551616 → Fz z g n f T L → ¬ (VD t p c ∧ b < n) → Ans w 10 #[dcV t p c, .int .u64 (b : Int), .int .i64 z] (.tuple #[.int .i64 0, erC 1]) 0
  hk : ∀ t p c (b : Nat) z g n f T L, Fz z g n f T L → VD t p c → b < n → Ans w 10 #[dcV t p c, .int .u64 (b : Int), .int .i64 z] (.tuple #[.int .i64 (ocH f L t p c b), erC 0]) 0
theorem erC_one : erC 1 = .iface 74 (.int .i64 1) := if_neg (by decide)
theorem erC_five : erC 5 = .iface 74 (.int .i64 5) := if_neg (by decide)
theorem CmT.all {w : World} (C : CmT w) : CmA w := by
  refine ⟨fun t p c z h1 h2 => ?_, fun t p c z g n f T L h1 h2 h3 => ?_, fun z g n f T L hz => ⟨fun t p c hv => (C.nk t p c z g n f T L hz hv).1, fun t p c b hv hb => ?_, fun t p c b hv hb => ?_⟩⟩
  · have q := (C.nn t p c z h1 h2).1
    rw [erC_five] at q
    exact q
  · have q := (C.nb t p c z g n f T L h1 h2 h3).1
    rw [erC_one] at q
    exact q
  · have q := (C.wk t p c b z g n f T L hz hv hb).1
    rw [erC_nil] at q
    exact q
  · have q := (C.hk t p c b z g n f T L hz hv hb).1
    rw [erC_nil] at q
    exact q
/-- The four inputs of works. -/
theorem dg_ok {s : ByteArray} (h : (List.range s.size).all (fun i => decide (48 ≤ s[i]!.toNat) && decide (s[i]!.toNat ≤ 57)) = true) : DG s := by
  intro k hk
  have q := List.all_eq_true.mp h k (List.mem_range.mpr hk)
  rw [Bool.and_eq_true, decide_eq_true_iff, decide_eq_true_iff] at q
  have e : s[k]! = s[k] := getElem!_pos s k hk
  rw [e] at q
  exact q
theorem vd_one (p : Int) (h0 : -1099511627776 ≤ p) (h1 : p ≤ 1099511627776) : VD ⟨#[49]⟩ p false := .inr ⟨by decide, by decide, dg_ok (by decide), by decide, .inl (by decide), h0, h1⟩
theorem vd_odd (c : Bool) : VD ⟨#[57, 48, 48, 55, 49, 57, 57, 50, 53, 52, 55, 52, 48, 57, 57, 51]⟩ 16 c := .inr ⟨by decide, by decide, dg_ok (by decide), by decide, .inl (by decide), by decide, by decide⟩
theorem nr_odd0 : nrX 52 2047 (-1074) ⟨#[57, 48, 48, 55, 49, 57, 57, 50, 53, 52, 55, 52, 48, 57, 57, 51]⟩ 16 false = (4845873199050653696, false) := by decide +kernel
theorem nr_odd1 : nrX 52 2047 (-1074) ⟨#[57, 48, 48, 55, 49, 57, 57, 50, 53, 52, 55, 52, 48, 57, 57, 51]⟩ 16 true = (4845873199050653697, false) := by decide +kernel
theorem nr_far : nrX 52 2047 (-1074) ⟨#[49]⟩ 400 false = (9218868437227405312, true) := by decide +kernel
theorem oc_tenth : ocV 52 (-1074) ⟨#[49]⟩ 0 false 4591870180066957722 = -1 := by decide +kernel
theorem CmT.works {w : World} (C : CmT w) : WkC w := by
  have a1 := (C.nk _ _ _ 64 _ _ _ _ _ (.inr ⟨rfl, rfl, rfl, rfl, rfl, rfl⟩) (vd_odd false)).2
  have a2 := (C.nk _ _ _ 64 _ _ _ _ _ (.inr ⟨rfl, rfl, rfl, rfl, rfl, rfl⟩) (vd_odd true)).2
  have a3 := (C.nk _ _ _ 64 _ _ _ _ _ (.inr ⟨rfl, rfl, rfl, rfl, rfl, rfl⟩) (vd_one 400 (by decide) (by decide))).1
  have a4 := (C.wk _ _ _ 4591870180066957722 64 _ _ _ _ _ (.inr ⟨rfl, rfl, rfl, rfl, rfl, rfl⟩) (vd_one 0 (by decide) (by decide)) (by decide)).1
  rw [nr_odd0] at a1
  rw [nr_odd1] at a2
  rw [nr_far] at a3
  rw [oc_tenth] at a4
  exact ⟨a4, a1, a2, a3⟩

/-- Asked: every decimal and float. -/
theorem asked_fine {s : Int} {g n f T : Nat} {L : Int} (hz : Fz s g n f T L) {t : ByteArray} (ht : t.size ≤ 9223372036854775807) {p : Int} {c : Bool} {b : Nat} (hb : b < 18446744073709551616) {i : Bool} (h : VD t p c ∧ (b < n ∨ (b = n ∧ i = true))) (w : World) : Calls Tryz.prog 33 #[dcV t p c, .int .u64 (b : Int), .int .i64 s, .bool i] w fun e w' => e = .returned (.int .i64 0) ∧ Below w.heap.size w w' := by
  obtain ⟨k, a, ⟨rfl, _⟩ | ⟨_, q⟩⟩ := asked_any hz ht p c hb i w
  · exact a
  · exact absurd h q
theorem asked_wrong {s : Int} {g n f T : Nat} {L : Int} (hz : Fz s g n f T L) {t : ByteArray} (ht : t.size ≤ 9223372036854775807) {p : Int} {c : Bool} {b : Nat} (hb : b < 18446744073709551616) {i : Bool} (h : ¬ (VD t p c ∧ (b < n ∨ (b = n ∧ i = true)))) (w : World) : Calls Tryz.prog 33 #[dcV t p c, .int .u64 (b : Int), .int .i64 s, .bool i] w fun e w' => e = .returned (.int .i64 1) ∧ Below w.heap.size w w' := by
  obtain ⟨k, a, ⟨_, q⟩ | ⟨rfl, _⟩⟩ := asked_any hz ht p c hb i w
  · exact absurd q h
  · exact a
/-- The law CompareWith. -/
theorem law_with_all {t : ByteArray} (ht : t.size ≤ 9223372036854775807) {p : Int} {c : Bool} {b : Nat} (hb : b < 18446744073709551616) {z : Int} {w : World} (C : CmT w) :
    Calls Tryz.prog 3 #[dcV t p c, .int .u64 (b : Int), .int .i64 z] w fun o w' => o = .returned (.bool true) ∧ Below w.heap.size w w' := by
  have WK := fun W h => works16 C.works (w := W) h
  rcases fz_of z with h | ⟨g, n, f, T, L, hz⟩
  · have AS := fun W => asked_no h t p c (b : Int) false W
    exact law_with16 (C.wn t p c b z ht hb h).1 (fun W => with_err (by decide) AS) (C.hn t p c b z ht hb h).1 (fun W => half16_err (by decide) AS) WK
  · by_cases k : VD t p c ∧ b < n
    · have AS := fun W => asked_fine hz ht hb (i := false) ⟨k.1, .inl k.2⟩ W
      refine law_with16 (C.wk t p c b z g n f T L hz k.1 k.2).1 (fun W => (with_ok hz k.1 k.2 AS).mono ?_) (C.hk t p c b z g n f T L hz k.1 k.2).1 (fun W => (half16_ok hz k.1 k.2 AS).mono ?_) WK
      · rintro o w' ⟨N, D, rfl, q, r⟩
        obtain ⟨rfl, rfl⟩ := q.uniq (ex_frc _ _)
        exact ⟨rfl, r⟩
      · rintro o w' ⟨N, D, rfl, q, r⟩
        obtain ⟨rfl, rfl⟩ := q.uniq (ex_frc _ _)
        exact ⟨rfl, r⟩
    · have AS := fun W => asked_wrong hz ht hb (p := p) (c := c) (i := false) (by simpa using k) W
      exact law_with16 (C.wb t p c b z g n f T L ht hb hz k).1 (fun W => with_err (by decide) AS) (C.hb t p c b z g n f T L ht hb hz k).1 (fun W => half16_err (by decide) AS) WK
/-- The law CompareNearest. -/
theorem law_near_all {t : ByteArray} (ht : t.size ≤ 9223372036854775807) {p : Int} {c : Bool} {b : Nat} (hb : b < 18446744073709551616) {z : Int} {w : World} (C : CmT w) :
    Calls Tryz.prog 4 #[dcV t p c, .int .u64 (b : Int), .int .i64 z] w fun o w' => o = .returned (.bool true) ∧ Below w.heap.size w w' := by
  have WK := fun W h => works16 C.works (w := W) h
  rcases fz_of z with h | ⟨g, n, f, T, L, hz⟩
  · have AS := fun W => asked_no h t p c (b : Int) true W
    exact law_near16 (C.nn t p c z ht h).1 (fun W => nearest16_no h t p c W) (C.sn t p c b z ht hb h).1 (fun W => settle_err (by decide) AS) WK
  · by_cases v : VD t p c
    · have NR := fun W => nearest16 hz v W
      by_cases k : b ≤ n
      · have AS := fun W => asked_fine hz ht hb (i := true) ⟨v, (Nat.lt_or_eq_of_le k).imp_right fun e => ⟨e, rfl⟩⟩ W
        exact law_near16 (C.nk t p c z g n f T L hz v).1 NR (C.sk t p c b z g n f T L hz v k).1 (fun W => settle_ok AS NR) WK
      · have AS := fun W => asked_wrong hz ht hb (p := p) (c := c) (i := true) (fun q => by omega) W
        exact law_near16 (C.nk t p c z g n f T L hz v).1 NR (C.sb t p c b z g n f T L ht hb hz (fun q => k q.2)).1 (fun W => settle_err (by decide) AS) WK
    · have AS := fun W => asked_wrong hz ht hb (p := p) (c := c) (i := true) (fun q => v q.1) W
      exact law_near16 (C.nb t p c z g n f T L ht hz v).1 (fun W => nearest16_bad hz ht v W) (C.sb t p c b z g n f T L ht hb hz (fun q => v q.1)).1 (fun W => settle_err (by decide) AS) WK
theorem cn_ok (e : Bool) : cnN (if e then 4 else 0) = 1 := by cases e <;> rfl
/-- The law CompareCounts. -/
theorem law_counts_all {t : ByteArray} (ht : t.size ≤ 9223372036854775807) {p : Int} {c : Bool} {b : Nat} (hb : b < 18446744073709551616) {z : Int} {w : World} (C : CmT w) :
    Calls Tryz.prog 5 #[dcV t p c, .int .u64 (b : Int), .int .i64 z] w fun o w' => o = .returned (.bool true) ∧ Below w.heap.size w w' := by
  have WK := fun W h => works16 C.works (w := W) h
  have n5 : cnN 5 = 0 := rfl
  have n1 : cnN 1 = 0 := rfl
  rcases fz_of z with h | ⟨g, n, f, T, L, hz⟩
  · exact law_counts16 (by rw [n5]; exact (C.nn t p c z ht h).2) (by rw [n5]; exact (C.sn t p c b z ht hb h).2) (C.wn t p c b z ht hb h).2 (C.hn t p c b z ht hb h).2 WK
  · obtain ⟨vw, PW⟩ : ∃ vw, MeM w 8 #[dcV t p c, .int .u64 (b : Int), .int .i64 z] vw 0 := by
      by_cases k : VD t p c ∧ b < n
      · exact ⟨_, (C.wk t p c b z g n f T L hz k.1 k.2).2⟩
      · exact ⟨_, (C.wb t p c b z g n f T L ht hb hz k).2⟩
    obtain ⟨vh, PH⟩ : ∃ vh, MeM w 10 #[dcV t p c, .int .u64 (b : Int), .int .i64 z] vh 0 := by
      by_cases k : VD t p c ∧ b < n
      · exact ⟨_, (C.hk t p c b z g n f T L hz k.1 k.2).2⟩
      · exact ⟨_, (C.hb t p c b z g n f T L ht hb hz k).2⟩
    by_cases v : VD t p c
    · by_cases k : b ≤ n
      · exact law_counts16 (by rw [cn_ok]; exact (C.nk t p c z g n f T L hz v).2) (by rw [cn_ok]; exact (C.sk t p c b z g n f T L hz v k).2) PW PH WK
      · exact law_counts16 (by rw [cn_ok]; exact (C.nk t p c z g n f T L hz v).2) (by rw [n1]; exact (C.sb t p c b z g n f T L ht hb hz (fun q => k q.2)).2) PW PH WK
    · exact law_counts16 (by rw [n1]; exact (C.nb t p c z g n f T L ht hz v).2) (by rw [n1]; exact (C.sb t p c b z g n f T L ht hb hz (fun q => v q.1)).2) PW PH WK
/-- The laws CompareTight and CompareExact. -/
theorem law_tight_all {t : ByteArray} (ht : t.size ≤ 9223372036854775807) {p : Int} {c : Bool} {z : Int} {w : World} (C : CmT w) :
    Calls Tryz.prog 6 #[dcV t p c, .int .i64 z] w fun o w' => o = .returned (.bool true) ∧ Below w.heap.size w w' := law_tight16 ht C.all fun W h => works16 C.works (w := W) h
theorem law_exact_all {z : Int} {b : Nat} (hb : b < 18446744073709551616) {w : World} (C : CmT w) :
    Calls Tryz.prog 7 #[.int .u64 (b : Int), .int .i64 z] w fun o w' => o = .returned (.bool true) ∧ Below w.heap.size w w' := law_exact16 hb C.all fun W h => works16 C.works (w := W) h
end Go.Proofs.YtfoaeholbidngaaGreatDoor
