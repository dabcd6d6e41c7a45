/-
  Numbers of many words and of two words: what the program's calls answer; digits of 32 bits.
-/
import Derived.Test.YtohbggdkopmpfaaDoorPn2
namespace Go.Proofs.YtohbggdkopmpfaaDoor
open Go.RowKit

theorem cut_in {g : Nat → Nat} {n i : Nat} (h : i < n) : cut g n i = g i := by unfold cut; rw [if_pos h]
theorem cut_out {g : Nat → Nat} {n i : Nat} (h : ¬ i < n) : cut g n i = 0 := by unfold cut; rw [if_neg h]
theorem cut_V {g : Nat → Nat} {n k : Nat} (h : n ≤ k) : Big.V (cut g n) k = Big.V g n := by
  rw [Big.V_zeros (f := cut g n) h (fun i a _ => cut_out (by omega))]
  exact Big.V_congr fun i hi => cut_in hi
theorem dV_put (K : IntKind) (F : Nat → Nat) (k r : Nat) : dV K (Big.put F k r) (k + 1) = dV K F k ++ [.int K (r : Int)] := by
  rw [dV_succ, Big.put_at, dV_congr (G := F) (fun i hi => Big.put_ne (by omega))]
theorem V_putB (F : Nat → Nat) (k r : Nat) : Big.V (Big.put F k r) (k + 1) = Big.V F k + r * Big.B ^ k := by
  rw [Big.V_succ, Big.put_at, Big.V_put_low (Nat.le_refl _)]
/-- A number of at most L digits. -/
def Fits (L X : Nat) : Prop := ∃ k, k ≤ L ∧ X < Big.B ^ k
theorem Fits.up {L M X : Nat} (h : Fits L X) (hl : L ≤ M) : Fits M X := by
  obtain ⟨k, a, b⟩ := h
  exact ⟨k, Nat.le_trans a hl, b⟩
theorem Fits.le {L X Y : Nat} (h : Fits L X) (hl : Y ≤ X) : Fits L Y := by
  obtain ⟨k, a, b⟩ := h
  exact ⟨k, a, Nat.lt_of_le_of_lt hl b⟩
theorem Fits.lt {L X : Nat} (h : Fits L X) : X < Big.B ^ L := by
  obtain ⟨k, a, b⟩ := h
  exact Nat.lt_of_lt_of_le b (Nat.pow_le_pow_right Big.B_pos a)
theorem Fits.sum {L X Y : Nat} (h : Fits L X) (k : Fits L Y) : Fits (L + 1) (X + Y) := by
  refine ⟨L + 1, Nat.le_refl _, ?_⟩
  have a := h.lt
  have b := k.lt
  have c : 2 * Big.B ^ L ≤ Big.B ^ (L + 1) := by
    rw [Nat.pow_succ, Nat.mul_comm]; exact Nat.mul_le_mul_left _ (by decide)
  omega
theorem Fits.mul {L M X Y : Nat} (h : Fits L X) (k : Fits M Y) : Fits (L + M) (X * Y) := by
  refine ⟨L + M, Nat.le_refl _, ?_⟩
  rw [Nat.pow_add]
  exact Nat.mul_lt_mul'' h.lt k.lt
theorem Fits.word {n X : Nat} (h : X < B ^ n) : Fits (2 * n) X := ⟨2 * n, Nat.le_refl _, by rw [← BB_pow]; exact h⟩
/-- The length of a number below a power. -/
theorem big_len {f : Nat → Nat} {n L : Nat} (t : Big.Top f n) (h : Fits L (Big.V f n)) : n ≤ L := Big.len_le t h.lt
theorem big_le_len {f g : Nat → Nat} {m n : Nat} (hf : Big.Ws f) (tg : Big.Top g m) (h : Big.V g m ≤ Big.V f n) : m ≤ n := by
  rcases Nat.lt_or_ge n m with z | z
  · have := Big.len_lt hf tg z; omega
  · exact z
/-- What a call of two numbers answers where neither is refused: the number R, or the error E. -/
def num2 (k r : Nat) : Nat := if k = 0 then r else 0
theorem num2_zero (r : Nat) : num2 0 r = r := rfl
theorem num2_bad {k : Nat} (h : k ≠ 0) (r : Nat) : num2 k r = 0 := by unfold num2; rw [if_neg h]
theorem verr_nat {f : Nat → Nat} {n : Nat} (h : verr f n = 0) : n ≤ 128 ∧ Top f n := by
  unfold verr at h
  by_cases q : 128 < n
  · rw [if_pos q] at h; omega
  · rw [if_neg q] at h
    refine ⟨by omega, ?_⟩
    by_cases z : n = 0
    · exact Or.inl z
    · right
      intro e
      rw [if_pos ⟨by omega, e⟩] at h
      omega
theorem errV_succ {k : Nat} (h : k ≠ 0) : errV k = .iface 53 (.int .i64 (k : Int)) := by
  cases k with
  | zero => exact absurd rfl h
  | succ k => rfl
theorem D_two : Big.B = 2 ^ 32 := by decide
theorem D_pow (k : Nat) : Big.B ^ k = 2 ^ (32 * k) := by rw [Nat.pow_mul, D_two]
/-- How many binary digits. -/
def bl (X : Nat) : Nat := if X = 0 then 0 else Nat.log2 X + 1
theorem bl_of {X L : Nat} (h1 : 2 ^ L ≤ X) (h2 : X < 2 ^ (L + 1)) : bl X = L + 1 := by
  have hp : 0 < 2 ^ L := Nat.pow_pos (by omega)
  have h0 : X ≠ 0 := by omega
  unfold bl
  rw [if_neg h0, (Nat.log2_eq_iff h0).2 ⟨h1, h2⟩]
theorem bl_lt (X : Nat) : X < 2 ^ bl X := by
  unfold bl
  split
  · rename_i h; rw [h]; decide
  · exact Nat.lt_log2_self
theorem bl_le {X : Nat} (h : X ≠ 0) : 2 ^ (bl X - 1) ≤ X := by
  unfold bl
  rw [if_neg h, Nat.add_sub_cancel]
  exact Nat.log2_self_le h
theorem bl_pos {X : Nat} (h : X ≠ 0) : 0 < bl X := by unfold bl; rw [if_neg h]; omega
theorem bl_zero : bl 0 = 0 := rfl
theorem bl_mono_le {X L : Nat} (h : X < 2 ^ L) : bl X ≤ L := by
  by_cases z : X = 0
  · subst z; rw [bl_zero]; omega
  · rcases Nat.lt_or_ge L (bl X) with q | q
    · have a := bl_le z
      have b : 2 ^ L ≤ 2 ^ (bl X - 1) := Nat.pow_le_pow_right (by omega) (by omega)
      omega
    · exact q
/-- The length out of the highest digit's. -/
theorem bl_top {f : Nat → Nat} (hf : Big.Ws f) {n j : Nat} (h1 : 2 ^ j ≤ f n) (h2 : f n < 2 ^ (j + 1)) : bl (Big.V f (n + 1)) = 32 * n + j + 1 := by
  have lo := Big.V_lt hf n
  rw [D_pow] at lo
  have e : Big.V f (n + 1) = Big.V f n + f n * 2 ^ (32 * n) := by rw [Big.V_succ, D_pow]
  rw [e]
  refine bl_of ?_ ?_
  · rw [Nat.pow_add, Nat.mul_comm (2 ^ (32 * n))]
    have := Nat.mul_le_mul_right (2 ^ (32 * n)) h1
    omega
  · rw [Nat.add_assoc, Nat.pow_add, Nat.mul_comm (2 ^ (32 * n))]
    have := Nat.mul_le_mul_right (2 ^ (32 * n)) (Nat.succ_le_of_lt h2)
    rw [Nat.succ_mul] at this
    omega
/-- One bit. -/
def tb (X i : Nat) : Bool := decide (X / 2 ^ i % 2 = 1)
theorem tb_one {X i : Nat} (h : X / 2 ^ i % 2 = 1) : tb X i = true := decide_eq_true h
theorem tb_none {X i : Nat} (h : X / 2 ^ i % 2 ≠ 1) : tb X i = false := decide_eq_false h
/-- A number from its digit at the place q on. -/
theorem V_from {f : Nat → Nat} (hf : Big.Ws f) {n q : Nat} (hq : q < n) : ∃ H, Big.V f n / Big.B ^ q = f q + Big.B * H := by
  refine ⟨Big.V (fun i => f (q + 1 + i)) (n - (q + 1)), ?_⟩
  have s := Big.V_split f (q + 1) (n - (q + 1))
  rw [show q + 1 + (n - (q + 1)) = n by omega, Big.V_succ, Nat.pow_succ] at s
  have e : Big.V f n = Big.V f q + (f q + Big.B * Big.V (fun i => f (q + 1 + i)) (n - (q + 1))) * Big.B ^ q := by
    rw [s]
    generalize Big.V (fun i => f (q + 1 + i)) (n - (q + 1)) = h
    generalize Big.B ^ q = p
    generalize Big.B = d
    grind
  rw [e, Nat.add_mul_div_right _ _ (Big.Bp_pos q), Nat.div_eq_of_lt (Big.V_lt hf q), Nat.zero_add]
theorem part_gen {x d H p t : Nat} (hp : 0 < p) (e : d = 2 * t * p) : (x + d * H) / p % 2 = x / p % 2 := by
  rw [e, show 2 * t * p * H = p * (2 * (t * H)) by grind, Nat.add_mul_div_left _ _ hp]
  omega
theorem bit_at {f : Nat → Nat} (hf : Big.Ws f) {n q p : Nat} (hq : q < n) (hp : p < 32) : Big.V f n / 2 ^ (32 * q + p) % 2 = f q / 2 ^ p % 2 := by
  obtain ⟨H, h⟩ := V_from hf hq
  rw [Nat.pow_add, ← D_pow, ← Nat.div_div_eq_div_mul, h]
  refine part_gen (t := 2 ^ (31 - p)) (Nat.pow_pos (by omega)) ?_
  rw [D_two, Nat.mul_assoc, ← Nat.pow_add, show 31 - p + p = 31 by omega, ← Nat.pow_succ']
/-- The lowest bits: one place more. -/
theorem low_step {X k : Nat} (h : X % 2 ^ k = 0) : X % 2 ^ (k + 1) = 2 ^ k * (X / 2 ^ k % 2) := by
  rw [Nat.mod_pow_succ, h, Nat.zero_add]
theorem low_mono {X a b : Nat} (h : X % 2 ^ b = 0) (hab : a ≤ b) : X % 2 ^ a = 0 :=
  Nat.mod_eq_zero_of_dvd (Nat.dvd_trans (Nat.pow_dvd_pow 2 hab) (Nat.dvd_of_mod_eq_zero h))
theorem half_step {t j : Nat} : t / 2 ^ j / 2 = t / 2 ^ (j + 1) := by rw [Nat.div_div_eq_div_mul, Nat.pow_succ]
theorem two_fits {s k : Nat} (h : s < 32 * k) : Fits k (2 ^ s) := by
  refine ⟨k, Nat.le_refl _, ?_⟩
  rw [D_pow]
  exact Nat.pow_lt_pow_right (by omega) h
theorem upB_gen {v z P a x t s d r q : Nat} (hv : v + z * P = a * s) (e : d * q + r = x * t + z) : v + r * P + q * (P * d) = a * s + x * (t * P) := by
  have h : r * P + q * (P * d) = (d * q + r) * P := by grind
  rw [e] at h
  grind
set_option maxRecDepth 100000 in
set_option maxHeartbeats 1000000 in
theorem length_any {w : World} {ao : Option Addr} {n c b o : Nat} {f : Nat → Nat} (S : Sl w ao n c b o f) (h0 : 0 < n) (hn : n ≤ 1000) :
    Calls Tryd.prog 56 #[.slice ao n c] w fun e w' => e = .returned (.int .i64 (((n : Int) - 1) * 64 + blen (f (n - 1) : Int))) ∧ Below w.heap.size w w' := by
  obtain rfl := S.addr h0
  have hc := S.cell (n - 1) (by omega)
  have hw := S.ws (n - 1)
  unfold B at hw
  have hb := blen_01 (f (n - 1) : Int) (by omega) (by omega)
  have e1 : ((n : Int) == 0) = false := beq_eq_false_iff_ne.mpr (by omega)
  have HL := len64_any (f (n - 1) : Int) ⟨by omega, by omega⟩ w
  generalize blen (f (n - 1) : Int) = L at *
  go_enter Tryd.func56, Tryd.ntmps56
  go_wp2_with fail
  refine HL.mono ?_
  rintro e w' ⟨rfl, rfl⟩
  go_wp2
  go_ret
  exact ⟨rfl, Below.refl _ _⟩
theorem twoB_pow (k : Nat) : B ^ k = 2 ^ (64 * k) := by
  rw [Nat.pow_mul]
  rfl
/-- A number of n words with its top word: at least 2 to its length less one. -/
theorem length_le {f : Nat → Nat} {n : Nat} (hf : Ws f) (t : Top f n) (h0 : 0 < n) : ∃ L : Nat, ((n : Int) - 1) * 64 + blen (f (n - 1) : Int) = (L : Int) + 1 ∧ 2 ^ L ≤ V f n := by
  obtain ⟨k, rfl⟩ : ∃ k, n = k + 1 := ⟨n - 1, by omega⟩
  have tk : f k ≠ 0 := by
    rcases t with z | z
    · omega
    · simpa using z
  have hw := hf k
  have hw' : f k < 18446744073709551616 := hw
  obtain ⟨m, e, hm, h1, _⟩ := blen_bounds (f k : Int) (by omega) (by omega)
  refine ⟨64 * k + m, ?_, ?_⟩
  · rw [show k + 1 - 1 = k by omega, e]
    omega
  · rw [V_succ, Nat.pow_add, ← twoB_pow]
    have h1' : 2 ^ m ≤ f k := by exact_mod_cast h1
    have := Nat.mul_le_mul_left (B ^ k) h1'
    rw [Nat.mul_comm (B ^ k) (f k)] at this
    omega
set_option maxRecDepth 100000 in
set_option maxHeartbeats 1000000 in
theorem shl_ok {w : World} {va : Value} {X : Nat} (ha : NatV w va X) (s : Nat) (h : X * 2 ^ s < B ^ 128) (hs : s ≤ 8192) :
    Calls Tryd.prog 33 #[va, .int .i64 (s : Int)] w fun e w' => ∃ v, e = .returned (.tuple #[v, .nilIface]) ∧ NatV w' v (X * 2 ^ s) ∧ Below w.heap.size w w' := by
  obtain ⟨ao, n, c, b, o, f, rfl, S, t, rfl, hn⟩ := ha
  have h1 := valid_any S
  rw [verr_ok hn t] at h1
  unfold errV at h1
  by_cases h0 : n = 0
  · subst h0
    go_enter Tryd.func33, Tryd.ntmps33
    go_wp2_with fail
    refine h1.mono ?_
    rintro e wa ⟨rfl, hba⟩
    go_wp2
    refine bodyPost_ret (v := .tuple #[.slice none 0 0, .nilIface]) (by simp [results, Tryd.results33, go_sem]) rfl ⟨_, rfl, ?_, hba⟩
    rw [V_zero, Nat.zero_mul]
    exact natv_nil _
  · have e1 : ((n : Int) == 0) = false := beq_eq_false_iff_ne.mpr (by omega)
    obtain ⟨L, eL, hL⟩ := length_le S.ws t (by omega)
    have hLs : L + s < 8192 := by
      obtain ⟨M, hM, hBM⟩ : ∃ M, M = 8192 ∧ B ^ 128 = 2 ^ M := ⟨64 * 128, rfl, twoB_pow 128⟩
      have q : 2 ^ (L + s) < 2 ^ M := by
        rw [Nat.pow_add]
        refine Nat.lt_of_le_of_lt (Nat.mul_le_mul_right _ hL) ?_
        rw [hBM] at h
        exact h
      have := (Nat.pow_lt_pow_iff_right (a := 2) (by omega)).1 q
      omega
    have HH : Hid (V f n * 2 ^ s < B ^ 128) := h
    have HS : Hid (Sl w ao n c b o f) := S
    obtain ⟨q, p, hsq, hp⟩ : ∃ q p, s = 64 * q + p ∧ p < 64 := ⟨s / 64, s % 64, by omega, by omega⟩
    have hq : q ≤ 1000 := by omega
    have cL : ¬ (8192 : Int) - ((L : Int) + 1) < (s : Int) := by omega
    have cL2 : (0 : Int) ≤ (s : Int) := by omega
    have HQ : Hid (s = 64 * q + p) := hsq
    clear h hL S t hsq
    go_enter Tryd.func33, Tryd.ntmps33
    go_wp2_with fail
    refine h1.mono ?_
    rintro e wa ⟨rfl, hba⟩
    have LN := length_any (HS.out.below hba) (by omega) (by omega)
    rw [eL] at LN
    clear h1
    go_wp2_with fail
    refine LN.mono ?_
    rintro e wb ⟨rfl, hbb⟩
    have BB : Below w.heap.size w wb := hba.trans (hbb.mono hba.size)
    have SU := shiftUp_any (HS.out.below BB) (by omega) s q p HQ.out hp hq
    clear LN eL hba hbb
    go_wp2_with fail
    refine SU.mono ?_
    rintro e wc ⟨rfl, hbc, F, R, hv⟩
    obtain ⟨nv, hl⟩ := natv_tl R (by unfold maxLen; omega) hv HH.out
    have BC : Below w.heap.size w wc := BB.trans (hbc.mono BB.size)
    have TT := trim_any (row_sl0 R (by unfold maxLen; omega))
    go_wp2_with fail
    refine TT.mono ?_
    rintro e w4 ⟨rfl, rfl⟩
    go_wp2
    refine bodyPost_ret (v := .tuple #[.slice (some ⟨wb.heap.size, 0, none⟩) (tl F (q + n + 1)) (tl F (q + n + 1)), .nilIface]) (by simp [results, Tryd.results33, go_sem]) rfl ⟨_, rfl, nv, BC⟩
set_option maxRecDepth 100000 in
set_option maxHeartbeats 1000000 in
theorem shiftDown_far {w : World} {ao : Option Addr} {n c s q : Nat} (hq : s / 64 = q) (hqn : n ≤ q) (hs : s < 9223372036854775808) :
    Calls Tryd.prog 61 #[.slice ao n c, .int .i64 (s : Int)] w fun e w' => e = .returned (.tuple #[.slice none 0 0, .bool (decide (0 < n))]) ∧ w' = w := by
  have e1 : (s : Int) / 64 = (q : Int) := by omega
  have e2 : (n : Int) ≤ (q : Int) := by omega
  have hq2 : q < 9223372036854775808 := by omega
  have e3 : decide ((0 : Int) < (n : Int)) = decide (0 < n) := by
    by_cases z : 0 < n
    · rw [decide_eq_true z, decide_eq_true (by omega)]
    · rw [decide_eq_false z, decide_eq_false (by omega)]
  rw [← e3]
  clear e3 hqn hq
  go_enter Tryd.func61, Tryd.ntmps61
  go_wp2
  refine bodyPost_ret (v := .tuple #[.slice none 0 0, .bool (decide ((0 : Int) < (n : Int)))]) (by simp [results, Tryd.results61, go_sem]) rfl ⟨rfl, rfl⟩
set_option maxRecDepth 100000 in
set_option maxHeartbeats 1000000 in
theorem shr_ok {w : World} (hT : Tab w) {va : Value} {X : Nat} (ha : NatV w va X) (s : Nat) (hs : s < 9223372036854775808) :
    Calls Tryd.prog 37 #[va, .int .i64 (s : Int)] w fun e w' => ∃ v, e = .returned (.tuple #[v, .bool (decide (X % 2 ^ s ≠ 0)), .nilIface]) ∧ NatV w' v (X / 2 ^ s) ∧ Below w.heap.size w w' := by
  obtain ⟨ao, n, c, b, o, f, rfl, S, t, rfl, hn⟩ := ha
  have h1 := valid_any S
  rw [verr_ok hn t] at h1
  unfold errV at h1
  have cs : (0 : Int) ≤ (s : Int) := by omega
  have HS : Hid (Sl w ao n c b o f) := S
  have HV : Hid (V f n < B ^ n) := V_lt S.ws n
  have HT : Hid (Top f n) := t
  by_cases hqn : n ≤ s / 64
  · have lt : V f n < 2 ^ s := by
      refine Nat.lt_of_lt_of_le HV.out ?_
      rw [twoB_pow]
      exact Nat.pow_le_pow_right (by omega) (by omega)
    have eq : V f n / 2 ^ s = 0 := Nat.div_eq_of_lt lt
    have er : decide (V f n % 2 ^ s ≠ 0) = decide (0 < n) := by
      rw [Nat.mod_eq_of_lt lt]
      by_cases z : 0 < n
      · have q := Top_ge t z
        have := Bp_pos (n - 1)
        rw [decide_eq_true z, decide_eq_true (by omega)]
      · have : n = 0 := by omega
        subst this
        rfl
    rw [eq, er]
    have TN : Calls Tryd.prog 57 #[.slice none 0 0] w fun e w' => e = .returned (.slice none (tl (fun _ => 0) 0) (tl (fun _ => 0) 0)) ∧ w' = w :=
      trim_any (n := 0) (c := 0) (b := 0) (o := 0) (f := fun _ => 0) ⟨Nat.le_refl _, Nat.zero_le _, fun h => absurd h (by omega), fun h => absurd h (by omega), fun i h => absurd h (by omega), fun _ => B_pos⟩
    obtain ⟨Z, hZ⟩ : ∃ Z, Z = decide (0 < n) := ⟨_, rfl⟩
    rw [← hZ]
    have HZ : Hid (decide (0 < n) = Z) := hZ.symm
    clear TN lt eq er S t hZ
    go_enter Tryd.func37, Tryd.ntmps37
    go_wp2_with fail
    refine h1.mono ?_
    rintro e wa ⟨rfl, hba⟩
    have SD := shiftDown_far (w := wa) (ao := ao) (c := c) (s := s) (n := n) rfl hqn hs
    rw [HZ.out] at SD
    go_wp2_with fail
    refine SD.mono ?_
    rintro e wb ⟨rfl, rfl⟩
    have TN : Calls Tryd.prog 57 #[.slice none 0 0] wb fun e w' => e = .returned (.slice none (tl (fun _ => 0) 0) (tl (fun _ => 0) 0)) ∧ w' = wb :=
      trim_any (n := 0) (c := 0) (b := 0) (o := 0) (f := fun _ => 0) ⟨Nat.le_refl _, Nat.zero_le _, fun h => absurd h (by omega), fun h => absurd h (by omega), fun i h => absurd h (by omega), fun _ => B_pos⟩
    go_wp2_with fail
    refine TN.mono ?_
    rintro e wc ⟨rfl, rfl⟩
    go_wp2
    refine bodyPost_ret (v := .tuple #[.slice none 0 0, .bool Z, .nilIface]) (by simp [results, Tryd.results37, go_sem, tl]) rfl ⟨_, rfl, natv_nil _, hba⟩
  · have hv0 : V f n ≠ 0 := by
      have q := Top_ge t (by omega)
      have := Bp_pos (n - 1)
      omega
    obtain ⟨q, p, hsq, hp⟩ : ∃ q p, s = 64 * q + p ∧ p < 64 := ⟨s / 64, s % 64, by omega, by omega⟩
    have hqn2 : q < n := by omega
    have HQ : Hid (s = 64 * q + p) := hsq
    have H0 : Hid (V f n ≠ 0) := hv0
    have HL : Hid (V f n / 2 ^ s < B ^ 128) := Nat.lt_of_le_of_lt (Nat.div_le_self _ _) (Nat.lt_of_lt_of_le HV.out (Nat.pow_le_pow_right B_pos hn))
    clear hv0 hsq S t hqn
    obtain ⟨Z, hZ⟩ : ∃ Z, Z = decide (V f n % 2 ^ s ≠ 0) := ⟨_, rfl⟩
    rw [← hZ]
    have HZ : Hid (decide (V f n % 2 ^ s ≠ 0) = Z) := hZ.symm
    clear hZ
    go_enter Tryd.func37, Tryd.ntmps37
    go_wp2_with fail
    refine h1.mono ?_
    rintro e wa ⟨rfl, hba⟩
    have SD := shiftDown_any (hT.next hba) (HS.out.below hba) (by omega) s q p HQ.out hp hqn2 H0.out
    rw [HZ.out] at SD
    clear h1
    go_wp2_with fail
    refine SD.mono ?_
    rintro e wb ⟨rfl, hbb, F, R, hv⟩
    obtain ⟨nv, hl⟩ := natv_tl R (by unfold maxLen; omega) hv HL.out
    have BB : Below w.heap.size w wb := hba.trans (hbb.mono hba.size)
    have TT := trim_any (row_sl0 R (by unfold maxLen; omega))
    go_wp2_with fail
    refine TT.mono ?_
    rintro e w4 ⟨rfl, rfl⟩
    go_wp2
    refine bodyPost_ret (v := .tuple #[.slice (some ⟨wa.heap.size, 0, none⟩) (tl F (n - q)) (tl F (n - q)), .bool Z, .nilIface]) (by simp [results, Tryd.results37, go_sem]) rfl ⟨_, rfl, nv, BB⟩
theorem length_eq {f : Nat → Nat} {n : Nat} (hf : Ws f) (t : Top f n) (h0 : 0 < n) : ((n : Int) - 1) * 64 + blen (f (n - 1) : Int) = (bl (V f n) : Int) := by
  obtain ⟨k, rfl⟩ : ∃ k, n = k + 1 := ⟨n - 1, by omega⟩
  have tk : f k ≠ 0 := by
    rcases t with z | z
    · omega
    · simpa using z
  have hw' : f k < 18446744073709551616 := hf k
  obtain ⟨m, e, hm, h1, h2⟩ := blen_bounds (f k : Int) (by omega) (by omega)
  have h1' : 2 ^ m ≤ f k := by exact_mod_cast h1
  have h2' : f k < 2 ^ (m + 1) := by exact_mod_cast h2
  have lo := V_lt hf k
  rw [twoB_pow] at lo
  have ev : V f (k + 1) = V f k + f k * 2 ^ (64 * k) := by rw [V_succ, twoB_pow]
  have hb : bl (V f (k + 1)) = 64 * k + m + 1 := by
    rw [ev]
    refine bl_of ?_ ?_
    · rw [Nat.pow_add, Nat.mul_comm (2 ^ (64 * k))]
      have := Nat.mul_le_mul_right (2 ^ (64 * k)) h1'
      omega
    · rw [Nat.add_assoc, Nat.pow_add, Nat.mul_comm (2 ^ (64 * k))]
      have := Nat.mul_le_mul_right (2 ^ (64 * k)) (Nat.succ_le_of_lt h2')
      rw [Nat.succ_mul] at this
      omega
  rw [show k + 1 - 1 = k by omega, e, hb]
  omega
theorem length_full {w : World} {ao : Option Addr} {n c b o : Nat} {f : Nat → Nat} (S : Sl w ao n c b o f) (t : Top f n) (hn : n ≤ 1000) :
    Calls Tryd.prog 56 #[.slice ao n c] w fun e w' => e = .returned (.int .i64 (bl (V f n) : Int)) ∧ Below w.heap.size w w' := by
  by_cases h0 : n = 0
  · subst h0
    have e : bl (V f 0) = 0 := rfl
    rw [e]
    clear e
    go_enter Tryd.func56, Tryd.ntmps56
    go_wp2
    go_ret
    exact ⟨rfl, Below.refl _ _⟩
  · rw [← length_eq S.ws t (by omega)]
    exact length_any S (by omega) hn
set_option maxHeartbeats 1000000 in
theorem bitsN_any {w : World} {ao : Option Addr} {n c b o : Nat} {f : Nat → Nat} (S : Sl w ao n c b o f) :
    Calls Tryd.prog 54 #[.slice ao n c] w fun e w' => e = .returned (.tuple #[.int .i64 (num2 (verr f n) (bl (V f n)) : Int), errV (verr f n)]) ∧ Below w.heap.size w w' := by
  have h1 := valid_any S
  by_cases q : verr f n = 0
  · obtain ⟨hn, t⟩ := verr_nat q
    rw [q] at h1 ⊢
    rw [num2_zero]
    unfold errV at h1 ⊢
    have HS : Hid (Sl w ao n c b o f ∧ Top f n) := ⟨S, t⟩
    clear S t q
    go_enter Tryd.func54, Tryd.ntmps54
    go_wp2_with fail
    refine h1.mono ?_
    rintro e wa ⟨rfl, hba⟩
    have T := length_full (HS.out.1.below hba) HS.out.2 (by omega)
    go_wp2_with fail
    refine T.mono ?_
    rintro e wb ⟨rfl, hbb⟩
    go_wp2
    refine bodyPost_ret (v := .tuple #[.int .i64 (bl (V f n) : Int), .nilIface]) (by simp [results, Tryd.results54, go_sem]) rfl ⟨rfl, hba.trans (hbb.mono hba.size)⟩
  · rw [num2_bad q]
    rw [errV_succ q] at h1 ⊢
    generalize verr f n = k at *
    go_enter Tryd.func54, Tryd.ntmps54
    go_wp2_with fail
    refine h1.mono ?_
    rintro e wa ⟨rfl, hba⟩
    go_wp2
    refine bodyPost_ret (v := .tuple #[.int .i64 0, .iface 53 (.int .i64 (k : Int))]) (by simp [results, Tryd.results54, go_sem]) rfl ⟨rfl, hba⟩
/-- A row of N digits that fills the block g. -/
structure Big.Row (w : World) (g N : Nat) (F : Nat → Nat) : Prop where
  row : w.rowIs g 134 N (fun i => .int .u32 (F i : Int))
  ws : Big.Ws F
theorem Big.Row.drew {w : World} {g N : Nat} {F : Nat → Nat} (R : Big.Row w g N F) : Big.Row w.drew g N F := ⟨R.row.drew, R.ws⟩
theorem Big.Row.below {w w' : World} {g N : Nat} {F : Nat → Nat} (R : Big.Row w g N F) (h : Below w.heap.size w w') : Big.Row w' g N F :=
  ⟨R.row.of_block (h.block g R.row.lt), R.ws⟩
/-- A number that does not lie in the block g. -/
def ApV (w : World) (g : Nat) (v : Value) (X : Nat) : Prop := ∃ ao n c b o f, v = .slice ao n c ∧ Big.Sl w ao n c b o f ∧ Big.Top f n ∧ Big.V f n = X ∧ (0 < n → b ≠ g)
theorem ApV.below {w w' : World} {g : Nat} {v : Value} {X : Nat} (h : ApV w g v X) (hb : Below w.heap.size w w') : ApV w' g v X := by
  obtain ⟨ao, n, c, b, o, f, e, S, r⟩ := h
  exact ⟨ao, n, c, b, o, f, e, S.below hb, r⟩
theorem ord_neg' {x y : Nat} (h : ord x y < 0) : x < y := by
  unfold ord at h
  split at h
  · assumption
  · split at h <;> omega
/-- A bit that is 0, set. -/
theorem set_bit {x p : Nat} (h : x / 2 ^ p % 2 = 0) : x ||| 2 ^ p = x + 2 ^ p := by
  have h2 : x = 2 ^ (p + 1) * (x / 2 ^ p / 2) + x % 2 ^ p := by
    have a := Nat.div_add_mod x (2 ^ p)
    have b := Nat.div_add_mod (x / 2 ^ p) 2
    rw [h, Nat.add_zero] at b
    rw [Nat.pow_succ, Nat.mul_assoc, b]
    exact a.symm
  have l1 : x % 2 ^ p < 2 ^ p := Nat.mod_lt _ (Nat.pow_pos (by omega))
  generalize x / 2 ^ p / 2 = y at *
  generalize x % 2 ^ p = l at *
  subst h2
  have e1 : l ||| 2 ^ p = 2 ^ p * 1 + l := by rw [Nat.or_comm, Nat.two_pow_add_eq_or_of_lt l1, Nat.mul_one]
  have l2 : l < 2 ^ (p + 1) := by rw [Nat.pow_succ]; omega
  have l3 : 2 ^ p * 1 + l < 2 ^ (p + 1) := by rw [Nat.pow_succ]; omega
  rw [Nat.two_pow_add_eq_or_of_lt l2, Nat.or_assoc, e1, ← Nat.two_pow_add_eq_or_of_lt l3, ← Nat.two_pow_add_eq_or_of_lt l2]
  omega
theorem set_room {x p : Nat} (hx : x < Big.B) (hp : p < 32) (h : x / 2 ^ p % 2 = 0) : x + 2 ^ p < Big.B := by
  rw [← set_bit h, D_two]
  exact Nat.or_lt_two_pow (by rw [← D_two]; exact hx) (Nat.pow_lt_pow_right (by omega) hp)
/-- The number with a digit more in the place k. -/
theorem V_put {F : Nat → Nat} {k N r : Nat} (hk : k < N) : Big.V (Big.put F k (F k + r)) N = Big.V F N + r * Big.B ^ k := by
  have s1 := Big.V_split (Big.put F k (F k + r)) (k + 1) (N - (k + 1))
  have s2 := Big.V_split F (k + 1) (N - (k + 1))
  rw [show k + 1 + (N - (k + 1)) = N by omega] at s1 s2
  rw [s1, s2, Big.V_succ, Big.V_succ, Big.put_at, Big.V_put_low (Nat.le_refl _), Big.V_congr (f := fun i => Big.put F k (F k + r) (k + 1 + i)) (g := fun i => F (k + 1 + i)) (fun i hi => Big.put_ne (by omega)), Nat.add_mul]
  omega
theorem bl_fits {L X : Nat} (h : Fits L X) : bl X ≤ 32 * L := bl_mono_le (by rw [← D_pow]; exact h.lt)
theorem over_mod {Q k : Nat} (h : Q % 2 ^ (k + 1) = 0) : (Q + 2 ^ k) % 2 ^ k = 0 ∧ Q % 2 ^ k = 0 ∧ Q / 2 ^ k % 2 = 0 := by
  have a := low_mono h (show k ≤ k + 1 by omega)
  refine ⟨by rw [Nat.add_mod_right]; exact a, a, ?_⟩
  have b := low_step a
  rw [h] at b
  have p : 0 < 2 ^ k := Nat.pow_pos (by omega)
  rcases Nat.mul_eq_zero.1 b.symm with q | q
  · omega
  · exact q
end Go.Proofs.YtohbggdkopmpfaaDoor
