/-
  Plain arithmetic: bits of a number of 32-bit digits, how many they are, shifts; no program in sight.
-/
import Derived.Test.YtkkgancmodhghaaDoorBigP
namespace Go.Proofs.YtkkgancmodhghaaDoor

theorem D_two : Big.B = 2 ^ 32 := by decide
theorem D_pow (k : Nat) : Big.B ^ k = 2 ^ (32 * k) := by rw [Nat.pow_mul, D_two]

/-- How many binary digits. -/
def bl (X : Nat) : Nat := if X = 0 then 0 else Nat.log2 X + 1
theorem bl_of {X L : Nat} (h1 : 2 ^ L ≤ X) (h2 : X < 2 ^ (L + 1)) : bl X = L + 1 := by
  have hp : 0 < 2 ^ L := Nat.pow_pos (by omega)
  have h0 : X ≠ 0 := by omega
  unfold bl
  rw [if_neg h0, (Nat.log2_eq_iff h0).2 ⟨h1, h2⟩]
theorem bl_lt (X : Nat) : X < 2 ^ bl X := by
  unfold bl
  split
  · rename_i h; rw [h]; decide
  · exact Nat.lt_log2_self
theorem bl_le {X : Nat} (h : X ≠ 0) : 2 ^ (bl X - 1) ≤ X := by
  unfold bl
  rw [if_neg h, Nat.add_sub_cancel]
  exact Nat.log2_self_le h
theorem bl_pos {X : Nat} (h : X ≠ 0) : 0 < bl X := by unfold bl; rw [if_neg h]; omega
theorem bl_zero : bl 0 = 0 := rfl
theorem bl_mono_le {X L : Nat} (h : X < 2 ^ L) : bl X ≤ L := by
  by_cases z : X = 0
  · subst z; rw [bl_zero]; omega
  · rcases Nat.lt_or_ge L (bl X) with q | q
    · have a := bl_le z
      have b : 2 ^ L ≤ 2 ^ (bl X - 1) := Nat.pow_le_pow_right (by omega) (by omega)
      omega
    · exact q

/-- The length out of the highest digit's. -/
theorem bl_top {f : Nat → Nat} (hf : Big.Ws f) {n j : Nat} (h1 : 2 ^ j ≤ f n) (h2 : f n < 2 ^ (j + 1)) : bl (Big.V f (n + 1)) = 32 * n + j + 1 := by
  have lo := Big.V_lt hf n
  rw [D_pow] at lo
  have e : Big.V f (n + 1) = Big.V f n + f n * 2 ^ (32 * n) := by rw [Big.V_succ, D_pow]
  rw [e]
  refine bl_of ?_ ?_
  · rw [Nat.pow_add, Nat.mul_comm (2 ^ (32 * n))]
    have := Nat.mul_le_mul_right (2 ^ (32 * n)) h1
    omega
  · rw [Nat.add_assoc, Nat.pow_add, Nat.mul_comm (2 ^ (32 * n))]
    have := Nat.mul_le_mul_right (2 ^ (32 * n)) (Nat.succ_le_of_lt h2)
    rw [Nat.succ_mul] at this
    omega

/-- One bit. -/
def tb (X i : Nat) : Bool := decide (X / 2 ^ i % 2 = 1)
theorem tb_one {X i : Nat} (h : X / 2 ^ i % 2 = 1) : tb X i = true := decide_eq_true h
theorem tb_none {X i : Nat} (h : X / 2 ^ i % 2 ≠ 1) : tb X i = false := decide_eq_false h
theorem tb_big {X i : Nat} (h : X < 2 ^ i) : tb X i = false := tb_none (by rw [Nat.div_eq_of_lt h]; decide)

/-- A number from its digit at the place q on. -/
theorem V_from {f : Nat → Nat} (hf : Big.Ws f) {n q : Nat} (hq : q < n) : ∃ H, Big.V f n / Big.B ^ q = f q + Big.B * H := by
  refine ⟨Big.V (fun i => f (q + 1 + i)) (n - (q + 1)), ?_⟩
  have s := Big.V_split f (q + 1) (n - (q + 1))
  rw [show q + 1 + (n - (q + 1)) = n by omega, Big.V_succ, Nat.pow_succ] at s
  have e : Big.V f n = Big.V f q + (f q + Big.B * Big.V (fun i => f (q + 1 + i)) (n - (q + 1))) * Big.B ^ q := by
    rw [s]
    generalize Big.V (fun i => f (q + 1 + i)) (n - (q + 1)) = h
    generalize Big.B ^ q = p
    generalize Big.B = d
    grind
  rw [e, Nat.add_mul_div_right _ _ (Big.Bp_pos q), Nat.div_eq_of_lt (Big.V_lt hf q), Nat.zero_add]
theorem part_gen {x d H p t : Nat} (hp : 0 < p) (e : d = 2 * t * p) : (x + d * H) / p % 2 = x / p % 2 := by
  rw [e, show 2 * t * p * H = p * (2 * (t * H)) by grind, Nat.add_mul_div_left _ _ hp]
  omega
theorem bit_at {f : Nat → Nat} (hf : Big.Ws f) {n q p : Nat} (hq : q < n) (hp : p < 32) : Big.V f n / 2 ^ (32 * q + p) % 2 = f q / 2 ^ p % 2 := by
  obtain ⟨H, h⟩ := V_from hf hq
  rw [Nat.pow_add, ← D_pow, ← Nat.div_div_eq_div_mul, h]
  refine part_gen (t := 2 ^ (31 - p)) (Nat.pow_pos (by omega)) ?_
  rw [D_two, Nat.mul_assoc, ← Nat.pow_add, show 31 - p + p = 31 by omega, ← Nat.pow_succ']

/-- Digits of a number by division. -/
def dg (Y k : Nat) : Nat := Y / Big.B ^ k % Big.B
theorem dg_Ws (Y : Nat) : Big.Ws (dg Y) := fun _ => Nat.mod_lt _ Big.B_pos
theorem dg_V (Y : Nat) : ∀ m, Big.V (dg Y) m = Y % Big.B ^ m
  | 0 => by rw [Nat.pow_zero, Nat.mod_one]; rfl
  | m + 1 => by rw [Big.V_succ, dg_V Y m, Nat.mod_pow_succ, Nat.mul_comm]; rfl
theorem downB_gen {x d H p t : Nat} (hp : 0 < p) (e : d = t * p) : (x + d * d * H) / p % d = x / p % d := by
  have e2 : d * d * H = p * (d * (t * H)) := by rw [show d * d = d * (t * p) by rw [← e]]; grind
  rw [e2, Nat.add_mul_div_left _ _ hp, Nat.add_mul_mod_self_left]
/-- A digit of what is shifted down: out of two digits. -/
theorem down_at {f : Nat → Nat} (hf : Big.Ws f) {n q p k : Nat} (hq : q + k < n) (hp : p < 32) :
    dg (Big.V f n / 2 ^ (32 * q + p)) k = (f (q + k) + cut f n (q + k + 1) * Big.B) / 2 ^ p % Big.B := by
  unfold dg
  have e1 : Big.V f n / 2 ^ (32 * q + p) / Big.B ^ k = Big.V f n / Big.B ^ (q + k) / 2 ^ p := by
    rw [Nat.div_div_eq_div_mul, Nat.div_div_eq_div_mul, Nat.pow_add, Nat.pow_add, ← D_pow]
    congr 1
    generalize Big.B ^ q = a
    generalize Big.B ^ k = b
    generalize 2 ^ p = c
    grind
  rw [e1]
  obtain ⟨H, h⟩ := V_from hf hq
  have hc : Big.V f n / Big.B ^ (q + k) = f (q + k) + cut f n (q + k + 1) * Big.B + Big.B * Big.B * (H / Big.B) := by
    by_cases c : q + k + 1 < n
    · obtain ⟨H2, h2⟩ := V_from hf c
      have hh : H = f (q + k + 1) + Big.B * H2 := by
        have a := congrArg (· / Big.B) h
        have b := Nat.add_mul_div_left (f (q + k)) H Big.B_pos
        rw [Nat.div_eq_of_lt (hf _), Nat.zero_add] at b
        simp only [b] at a
        rw [Nat.div_div_eq_div_mul, ← Nat.pow_succ, h2] at a
        exact a.symm
      have hd : H / Big.B = H2 := by rw [hh, Nat.add_mul_div_left _ _ Big.B_pos, Nat.div_eq_of_lt (hf _), Nat.zero_add]
      have cc : cut f n (q + k + 1) = f (q + k + 1) := by unfold cut; rw [if_pos c]
      rw [h, hd, cc, hh]
      generalize Big.B = d
      grind
    · have cc : cut f n (q + k + 1) = 0 := by unfold cut; rw [if_neg c]
      have hl : Big.V f n / Big.B ^ (q + k) < Big.B := by
        rw [Nat.div_lt_iff_lt_mul (Big.Bp_pos _), ← Nat.pow_succ', show (q + k).succ = n by omega]
        exact Big.V_lt hf n
      have h0 : H = 0 := by
        rcases Nat.eq_zero_or_pos H with z | z
        · exact z
        · have := Nat.mul_le_mul_left Big.B z
          rw [h] at hl
          omega
      rw [h, h0, cc, Nat.zero_div]
      omega
  rw [hc]
  refine downB_gen (t := 2 ^ (32 - p)) (Nat.pow_pos (by omega)) ?_
  rw [D_two, ← Nat.pow_add, show 32 - p + p = 32 by omega]
theorem down_fits {f : Nat → Nat} (hf : Big.Ws f) {n q p : Nat} (hq : q < n) : Big.V f n / 2 ^ (32 * q + p) < Big.B ^ (n - q) := by
  rw [Nat.pow_add, ← D_pow, ← Nat.div_div_eq_div_mul]
  refine Nat.lt_of_le_of_lt (Nat.div_le_self _ _) ?_
  rw [Nat.div_lt_iff_lt_mul (Big.Bp_pos _), ← Nat.pow_add, show n - q + q = n by omega]
  exact Big.V_lt hf n

/-- The lowest bits: one place more. -/
theorem low_step {X k : Nat} (h : X % 2 ^ k = 0) : X % 2 ^ (k + 1) = 2 ^ k * (X / 2 ^ k % 2) := by
  rw [Nat.mod_pow_succ, h, Nat.zero_add]
theorem low_mono {X a b : Nat} (h : X % 2 ^ b = 0) (hab : a ≤ b) : X % 2 ^ a = 0 :=
  Nat.mod_eq_zero_of_dvd (Nat.dvd_trans (Nat.pow_dvd_pow 2 hab) (Nat.dvd_of_mod_eq_zero h))

end Go.Proofs.YtkkgancmodhghaaDoor
