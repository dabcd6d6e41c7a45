/-
  What nat's and the document's Mul and Div answer of every two rows of words, errors too.
-/
import Derived.Test.YtkkgancmodhghaaDoorNatFl
import Derived.Test.YtkkgancmodhghaaDoorBigV
namespace Go.Proofs.YtkkgancmodhghaaDoor
open Go.RowKit

set_option maxHeartbeats 1000000 in
theorem mul_big {w : World} {va vb : Value} {X Y : Nat} (ha : NatV w va X) (hb : NatV w vb Y) (h : ¬ X * Y < B ^ 128) :
    Calls Tryd.prog 22 #[va, vb] w fun e w' => e = .returned (.tuple #[.slice none 0 0, .iface 82 (.int .i64 20)]) ∧ Below w.heap.size w w' := by
  obtain ⟨ao, n, c, b, o, f, rfl, S, t, rfl, hn⟩ := ha
  obtain ⟨bo, m, cb, bb, ob, G, rfl, S', t', rfl, hm⟩ := hb
  have h1 := both_any S S'
  rw [verr2_ok hn t hm t'] at h1
  unfold errV at h1
  have HH : Hid (¬ V f n * V G m < B ^ 128) := h
  clear h
  go_enter Tryd.func22, Tryd.ntmps22
  go_wp2_with fail
  refine h1.mono ?_
  rintro e wa ⟨rfl, hba⟩
  have T := multiply_any (S.below hba) (S'.below hba) (by omega) (by omega)
  go_wp2_with fail
  refine T.mono ?_
  rintro e wb ⟨rfl, hbb, F, R, hv⟩
  have hl : 128 < tl F (n + m) := by
    rcases Nat.lt_or_ge 128 (tl F (n + m)) with z | z
    · exact z
    · exfalso
      have p := Nat.lt_of_lt_of_le (V_lt R.ws (tl F (n + m))) (Nat.pow_le_pow_right B_pos z)
      rw [tl_V] at p
      exact HH.out (by omega)
  have FT : Calls Tryd.prog 45 #[.slice (some ⟨wa.heap.size, 0, none⟩) (n + m) (n + m)] wb fun e w' => e = .returned (.tuple #[.slice none 0 0, .iface 82 (.int .i64 20)]) ∧ w' = wb := fit_big (row_sl0 R (by unfold maxLen; omega)) hl
  go_wp2_with fail
  refine FT.mono ?_
  rintro e wc ⟨rfl, rfl⟩
  go_wp2
  refine bodyPost_ret (v := .tuple #[.slice none 0 0, .iface 82 (.int .i64 20)]) (by simp [results, Tryd.results22, go_sem]) rfl ⟨rfl, hba.trans (hbb.mono hba.size)⟩

set_option maxHeartbeats 1000000 in
theorem mulN_any {w : World} {ao : Option Addr} {n c b o : Nat} {f : Nat → Nat} (S : Sl w ao n c b o f) {bo : Option Addr} {m cb bb ob : Nat} {g : Nat → Nat} (S' : Sl w bo m cb bb ob g) :
    Calls Tryd.prog 22 #[.slice ao n c, .slice bo m cb] w fun e w' => ∃ v, e = .returned (.tuple #[v, errV (err2 (verr2 f n g m) (wE (V f n * V g m)))]) ∧ NatV w' v (num2 (verr2 f n g m) (wR (V f n * V g m))) ∧ Below w.heap.size w w' := by
  by_cases q : verr2 f n g m = 0
  · obtain ⟨q1, q2⟩ := verr2_both q
    rw [q, num2_zero, err2_zero]
    have n1 := natv_mk S q1
    have n2 := natv_mk S' q2
    unfold wE wR
    by_cases lt : V f n * V g m < B ^ 128
    · rw [if_pos lt, if_pos lt]
      exact mul_ok n1 n2 lt
    · rw [if_neg lt, if_neg lt]
      refine (mul_big n1 n2 lt).mono ?_
      rintro e w' ⟨rfl, hb⟩
      exact ⟨_, rfl, natv_nil _, hb⟩
  · rw [num2_bad q, err2_bad q]
    have h1 := both_any S S'
    rw [errV_succ q] at h1 ⊢
    generalize verr2 f n g m = k at *
    go_enter Tryd.func22, Tryd.ntmps22
    go_wp2_with fail
    refine h1.mono ?_
    rintro e wa ⟨rfl, hba⟩
    go_wp2
    refine bodyPost_ret (v := .tuple #[.slice none 0 0, .iface 82 (.int .i64 (k : Int))]) (by simp [results, Tryd.results22, go_sem]) rfl ⟨_, rfl, natv_nil _, hba⟩

set_option maxRecDepth 100000 in
set_option maxHeartbeats 1000000 in
theorem rmul_any {w : World} {ao : Option Addr} {n c b o : Nat} {f : Nat → Nat} (S : Sl w ao n c b o f) {bo : Option Addr} {m cb bb ob : Nat} {g : Nat → Nat} (S' : Sl w bo m cb bb ob g) :
    Calls Tryd.prog 23 #[.slice ao n c, .slice bo m cb] w fun e w' => ∃ v, e = .returned (.tuple #[v, .int .i64 (err2 (verr2 f n g m) (wE (V f n * V g m)) : Int)]) ∧ NatV w' v (num2 (verr2 f n g m) (wR (V f n * V g m))) ∧ Below w.heap.size w w' := by
  have T := two_any S S'
  by_cases q : verr2 f n g m = 0
  · obtain ⟨q1, q2⟩ := verr2_both q
    obtain ⟨hn, t⟩ := verr_nat q1
    obtain ⟨hm, t'⟩ := verr_nat q2
    rw [q] at T ⊢
    rw [num2_zero, err2_zero]
    have O1 := rof_any S (by omega)
    have HB : Hid (Fits 256 (V f n) ∧ Fits 256 (V g m)) := ⟨V_fits S.ws hn, V_fits S'.ws hm⟩
    clear q q1 q2 t t'
    go_enter Tryd.func23, Tryd.ntmps23
    go_wp2_with fail
    refine T.mono ?_
    rintro e w ⟨rfl, rfl⟩
    go_wp2_with fail
    refine O1.mono ?_
    rintro e w1 ⟨v1, rfl, n1, b1⟩
    have O2 := rof_any (S'.below b1) (by omega)
    go_wp2_with fail
    refine O2.mono ?_
    rintro e w2 ⟨v2, rfl, n2, b2⟩
    have P := times_nat (n1.below b2) n2 (HB.out.1.up (by omega)) (HB.out.2.up (by omega))
    go_wp2_with fail
    refine P.mono ?_
    rintro e w3 ⟨v3, rfl, n3, b3⟩
    have W := words_any n3 ((HB.out.1.mul HB.out.2).up (by omega))
    go_wp2_with fail
    refine W.mono ?_
    rintro e w4 ⟨v4, rfl, n4, b4⟩
    go_wp2
    refine bodyPost_ret (v := .tuple #[v4, .int .i64 (wE (V f n * V g m) : Int)]) (by simp [results, Tryd.results23, go_sem]) rfl ⟨v4, rfl, n4, ?_⟩
    have c2 := b1.trans (b2.mono b1.size)
    have c3 := c2.trans (b3.mono c2.size)
    exact c3.trans (b4.mono c3.size)
  · rw [num2_bad q, err2_bad q]
    have q' : (((verr2 f n g m : Nat) : Int) == 0) = false := beq_eq_false_iff_ne.mpr (by omega)
    generalize verr2 f n g m = k at *
    go_enter Tryd.func23, Tryd.ntmps23
    go_wp2_with fail
    refine T.mono ?_
    rintro e w ⟨rfl, rfl⟩
    go_wp2
    refine bodyPost_ret (v := .tuple #[.slice none 0 0, .int .i64 (k : Int)]) (by simp [results, Tryd.results23, go_sem]) rfl ⟨.slice none 0 0, rfl, natv_nil _, Below.refl _ _⟩

/-- The error, the quotient and the rest that are told. -/
def dE (k Y : Nat) : Nat := err2 k (if Y = 0 then 10 else 0)
def dQ (k X Y : Nat) : Nat := num2 k (X / Y)
def dM (k X Y : Nat) : Nat := num2 k (if Y = 0 then 0 else X % Y)
theorem dE_bad {k Y : Nat} (h : k ≠ 0) : dE k Y = k := err2_bad h _
theorem dQ_bad {k X Y : Nat} (h : k ≠ 0) : dQ k X Y = 0 := num2_bad h _
theorem dM_bad {k X Y : Nat} (h : k ≠ 0) : dM k X Y = 0 := num2_bad h _
theorem dE_zero : dE 0 0 = 10 := rfl
theorem dQ_zero (X : Nat) : dQ 0 X 0 = 0 := by unfold dQ; rw [num2_zero, Nat.div_zero]
theorem dM_zero (X : Nat) : dM 0 X 0 = 0 := rfl
theorem dE_ok {Y : Nat} (h : Y ≠ 0) : dE 0 Y = 0 := by unfold dE; rw [err2_zero, if_neg h]
theorem dQ_ok {X Y : Nat} : dQ 0 X Y = X / Y := rfl
theorem dM_ok {X Y : Nat} (h : Y ≠ 0) : dM 0 X Y = X % Y := by unfold dM; rw [num2_zero, if_neg h]
theorem top_zero {f : Nat → Nat} {n : Nat} (t : Top f n) (h : V f n = 0) : n = 0 := by
  rcases Nat.eq_zero_or_pos n with q | q
  · exact q
  · have := Top_ge t q
    have := Bp_pos (n - 1)
    omega

set_option maxHeartbeats 1000000 in
theorem divN_any {w : World} (hT : Tab w) {ao : Option Addr} {n c b o : Nat} {f : Nat → Nat} (S : Sl w ao n c b o f) {bo : Option Addr} {m cb bb ob : Nat} {g : Nat → Nat} (S' : Sl w bo m cb bb ob g) :
    Calls Tryd.prog 24 #[.slice ao n c, .slice bo m cb] w fun e w' => ∃ v1 v2, e = .returned (.tuple #[v1, v2, errV (dE (verr2 f n g m) (V g m))]) ∧ NatV w' v1 (dQ (verr2 f n g m) (V f n) (V g m)) ∧ NatV w' v2 (dM (verr2 f n g m) (V f n) (V g m)) ∧ Below w.heap.size w w' := by
  by_cases q : verr2 f n g m = 0
  · obtain ⟨q1, q2⟩ := verr2_both q
    rw [q]
    by_cases z : V g m = 0
    · have h1 := both_any S S'
      rw [q] at h1
      obtain ⟨_, t'⟩ := verr_nat q2
      obtain rfl := top_zero t' z
      rw [z, dE_zero, dQ_zero, dM_zero]
      unfold errV at h1 ⊢
      clear q q1 q2 z t'
      go_enter Tryd.func24, Tryd.ntmps24
      go_wp2_with fail
      refine h1.mono ?_
      rintro e wa ⟨rfl, hba⟩
      go_wp2
      refine bodyPost_ret (v := .tuple #[.slice none 0 0, .slice none 0 0, .iface 82 (.int .i64 10)]) (by simp [results, Tryd.results24, go_sem]) rfl ⟨_, _, rfl, natv_nil _, natv_nil _, hba⟩
    · rw [dE_ok z, dQ_ok, dM_ok z]
      exact div_ok hT (natv_mk S q1) (natv_mk S' q2) z
  · rw [dE_bad q, dQ_bad q, dM_bad q]
    have h1 := both_any S S'
    rw [errV_succ q] at h1 ⊢
    generalize verr2 f n g m = k at *
    go_enter Tryd.func24, Tryd.ntmps24
    go_wp2_with fail
    refine h1.mono ?_
    rintro e wa ⟨rfl, hba⟩
    go_wp2
    refine bodyPost_ret (v := .tuple #[.slice none 0 0, .slice none 0 0, .iface 82 (.int .i64 (k : Int))]) (by simp [results, Tryd.results24, go_sem]) rfl ⟨_, _, rfl, natv_nil _, natv_nil _, hba⟩

theorem words_in {w : World} {va : Value} {X : Nat} (ha : Big.NatV w va X) (hX : X < B ^ 128) :
    Calls Tryd.prog 47 #[va] w fun e w' => ∃ v, e = .returned (.tuple #[v, .int .i64 0]) ∧ NatV w' v X ∧ Below w.heap.size w w' := by
  have W := words_any ha ((Fits.word (n := 128) hX).up (by omega))
  unfold wE wR at W
  rw [if_pos hX, if_pos hX] at W
  exact W

set_option maxRecDepth 100000 in
set_option maxHeartbeats 1000000 in
theorem rdiv_any {w : World} {ao : Option Addr} {n c b o : Nat} {f : Nat → Nat} (S : Sl w ao n c b o f) {bo : Option Addr} {m cb bb ob : Nat} {g : Nat → Nat} (S' : Sl w bo m cb bb ob g) :
    Calls Tryd.prog 25 #[.slice ao n c, .slice bo m cb] w fun e w' => ∃ v1 v2, e = .returned (.tuple #[v1, v2, .int .i64 (dE (verr2 f n g m) (V g m) : Int)]) ∧ NatV w' v1 (dQ (verr2 f n g m) (V f n) (V g m)) ∧ NatV w' v2 (dM (verr2 f n g m) (V f n) (V g m)) ∧ Below w.heap.size w w' := by
  have T := two_any S S'
  by_cases q : verr2 f n g m = 0
  · obtain ⟨q1, q2⟩ := verr2_both q
    obtain ⟨hn, t⟩ := verr_nat q1
    obtain ⟨hm, t'⟩ := verr_nat q2
    rw [q] at T ⊢
    by_cases z : V g m = 0
    · obtain rfl := top_zero t' z
      rw [z, dE_zero, dQ_zero, dM_zero]
      clear q q1 q2 z t t'
      go_enter Tryd.func25, Tryd.ntmps25
      go_wp2_with fail
      refine T.mono ?_
      rintro e w ⟨rfl, rfl⟩
      go_wp2
      refine bodyPost_ret (v := .tuple #[.slice none 0 0, .slice none 0 0, .int .i64 10]) (by simp [results, Tryd.results25, go_sem]) rfl ⟨_, _, rfl, natv_nil _, natv_nil _, Below.refl _ _⟩
    · rw [dE_ok z, dQ_ok, dM_ok z]
      have hm0 : ((m : Int) == 0) = false := beq_eq_false_iff_ne.mpr (by
        intro e
        have e' : m = 0 := by omega
        subst e'
        exact z rfl)
      have O1 := rof_any S (by omega)
      have HB : Hid (Fits 256 (V f n) ∧ Fits 256 (V g m) ∧ V g m ≠ 0) := ⟨V_fits S.ws hn, V_fits S'.ws hm, z⟩
      have HL : Hid (V f n / V g m < B ^ 128 ∧ V f n % V g m < B ^ 128) := ⟨Nat.lt_of_le_of_lt (Nat.div_le_self _ _) (V_small S.ws hn), Nat.lt_of_le_of_lt (Nat.mod_le _ _) (V_small S.ws hn)⟩
      clear q q1 q2 z t t'
      go_enter Tryd.func25, Tryd.ntmps25
      go_wp2_with fail
      refine T.mono ?_
      rintro e w ⟨rfl, rfl⟩
      go_wp2_with fail
      refine O1.mono ?_
      rintro e w1 ⟨v1, rfl, n1, b1⟩
      have O2 := rof_any (S'.below b1) (by omega)
      go_wp2_with fail
      refine O2.mono ?_
      rintro e w2 ⟨v2, rfl, n2, b2⟩
      have P := over_any (n1.below b2) n2 HB.out.1 HB.out.2.1 HB.out.2.2
      have c2 := b1.trans (b2.mono b1.size)
      go_wp2_with fail
      refine P.mono ?_
      rintro e w3 ⟨v3, v3', rfl, n3, n3', b3⟩
      have c3 := c2.trans (b3.mono c2.size)
      have W := words_in n3 HL.out.1
      go_wp2_with fail
      refine W.mono ?_
      rintro e w4 ⟨v4, rfl, n4, b4⟩
      have c4 := c3.trans (b4.mono c3.size)
      have W2 := words_in (n3'.below b4) HL.out.2
      go_wp2_with fail
      refine W2.mono ?_
      rintro e w5 ⟨v5, rfl, n5, b5⟩
      go_wp2
      refine bodyPost_ret (v := .tuple #[v4, v5, .int .i64 0]) (by simp [results, Tryd.results25, go_sem]) rfl ⟨v4, v5, rfl, n4.below b5, n5, c4.trans (b5.mono c4.size)⟩
  · rw [dE_bad q, dQ_bad q, dM_bad q]
    have q' : (((verr2 f n g m : Nat) : Int) == 0) = false := beq_eq_false_iff_ne.mpr (by omega)
    generalize verr2 f n g m = k at *
    go_enter Tryd.func25, Tryd.ntmps25
    go_wp2_with fail
    refine T.mono ?_
    rintro e w ⟨rfl, rfl⟩
    go_wp2
    refine bodyPost_ret (v := .tuple #[.slice none 0 0, .slice none 0 0, .int .i64 (k : Int)]) (by simp [results, Tryd.results25, go_sem]) rfl ⟨_, _, rfl, natv_nil _, natv_nil _, Below.refl _ _⟩

end Go.Proofs.YtkkgancmodhghaaDoor
