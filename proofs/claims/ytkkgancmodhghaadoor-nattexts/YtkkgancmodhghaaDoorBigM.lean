/-
  The same of rows of digits of 32 bits (the document reckons with them).
-/
namespace Go.Proofs.YtkkgancmodhghaaDoor.Big

/-- How many numbers a digit holds. -/
def B : Nat := 4294967296
theorem B_def : B = 4294967296 := rfl
theorem B_pos : 0 < B := by decide
theorem Bp_pos (n : Nat) : 0 < B ^ n := Nat.pow_pos B_pos

/-- The number of the lowest n words. -/
def V (f : Nat → Nat) : Nat → Nat
  | 0 => 0
  | n + 1 => V f n + f n * B ^ n
/-- Words. -/
def Ws (f : Nat → Nat) : Prop := ∀ i, f i < B

theorem V_zero (f : Nat → Nat) : V f 0 = 0 := rfl
theorem V_succ (f : Nat → Nat) (n : Nat) : V f (n + 1) = V f n + f n * B ^ n := rfl
theorem V_congr {f g : Nat → Nat} : ∀ {n : Nat}, (∀ i, i < n → f i = g i) → V f n = V g n
  | 0, _ => rfl
  | n + 1, h => by rw [V_succ, V_succ, V_congr (fun i hi => h i (by omega)), h n (by omega)]
theorem V_lt {f : Nat → Nat} (hf : Ws f) : ∀ n, V f n < B ^ n
  | 0 => by rw [V_zero, Nat.pow_zero]; decide
  | n + 1 => by
    have a := V_lt hf n
    have b := hf n
    have c : (f n + 1) * B ^ n ≤ B * B ^ n := Nat.mul_le_mul_right _ b
    rw [V_succ, Nat.pow_succ]
    rw [Nat.add_mul, Nat.one_mul] at c
    rw [Nat.mul_comm (B ^ n) B]
    omega
theorem V_ge {f : Nat → Nat} {n : Nat} (h : f n ≠ 0) : B ^ n ≤ V f (n + 1) := by
  have a : 1 * B ^ n ≤ f n * B ^ n := Nat.mul_le_mul_right _ (by omega)
  rw [V_succ]; omega
theorem V_mono {f : Nat → Nat} : ∀ {m n : Nat}, m ≤ n → V f m ≤ V f n
  | m, 0, h => by
    have e : m = 0 := by omega
    rw [e]; exact Nat.le_refl _
  | m, n + 1, h => by
    by_cases e : m = n + 1
    · rw [e]; exact Nat.le_refl _
    · have := V_mono (f := f) (show m ≤ n by omega)
      rw [V_succ]; omega
theorem split_gen {u v x p q : Nat} : u + v * p + x * (p * q) = u + (v + x * q) * p := by grind
theorem V_split (f : Nat → Nat) (a : Nat) : ∀ b, V f (a + b) = V f a + V (fun i => f (a + i)) b * B ^ a
  | 0 => by rw [V_zero, Nat.zero_mul]; rfl
  | b + 1 => by
    have e := V_split f a b
    rw [← Nat.add_assoc, V_succ, e, V_succ, Nat.pow_add]
    exact split_gen
theorem V_zeros {f : Nat → Nat} {m : Nat} : ∀ {n : Nat}, m ≤ n → (∀ i, m ≤ i → i < n → f i = 0) → V f n = V f m
  | 0, h, _ => by
    have e : m = 0 := by omega
    rw [e]
  | n + 1, h, z => by
    by_cases e : m = n + 1
    · rw [e]
    · rw [V_succ, z n (by omega) (by omega), Nat.zero_mul, Nat.add_zero]
      exact V_zeros (by omega) (fun i a b => z i a (by omega))

theorem V_nought (n : Nat) : V (fun _ => 0) n = 0 := V_zeros (f := fun _ => 0) (Nat.zero_le n) (fun _ _ _ => rfl)

/-- Two rows of one length that make the same number are the same. -/
theorem V_inj {f g : Nat → Nat} (hf : Ws f) (hg : Ws g) : ∀ {n : Nat}, V f n = V g n → ∀ i, i < n → f i = g i
  | 0, _, i, hi => absurd hi (by omega)
  | n + 1, h, i, hi => by
    have a := V_lt hf n
    have b := V_lt hg n
    rw [V_succ, V_succ] at h
    have p := Bp_pos n
    have e1 : (V f n + f n * B ^ n) / B ^ n = f n := by rw [Nat.add_mul_div_right _ _ p, Nat.div_eq_of_lt a, Nat.zero_add]
    have e2 : (V g n + g n * B ^ n) / B ^ n = g n := by rw [Nat.add_mul_div_right _ _ p, Nat.div_eq_of_lt b, Nat.zero_add]
    have e : f n = g n := by rw [← e1, ← e2, h]
    by_cases c : i = n
    · rw [c]; exact e
    · rw [e] at h
      exact V_inj hf hg (n := n) (by omega) i (by omega)

/-- A number has no word 0 on top. -/
def Top (f : Nat → Nat) (n : Nat) : Prop := n = 0 ∨ f (n - 1) ≠ 0
theorem Top_ge {f : Nat → Nat} {n : Nat} (h : Top f n) (hn : 0 < n) : B ^ (n - 1) ≤ V f n := by
  rcases h with h | h
  · omega
  · have := V_ge h
    rw [show n - 1 + 1 = n by omega] at this
    exact this
theorem len_lt {f g : Nat → Nat} {m n : Nat} (hf : Ws f) (hg : Top g n) (h : m < n) : V f m < V g n := by
  have a := V_lt hf m
  have b := Top_ge hg (by omega)
  have c : B ^ m ≤ B ^ (n - 1) := Nat.pow_le_pow_right B_pos (by omega)
  omega
theorem len_eq {f g : Nat → Nat} {m n : Nat} (hf : Ws f) (hg : Ws g) (tf : Top f m) (tg : Top g n) (h : V f m = V g n) : m = n := by
  rcases Nat.lt_trichotomy m n with c | c | c
  · have := len_lt hf tg c; omega
  · exact c
  · have := len_lt hg tf c; omega
theorem len_le {f : Nat → Nat} {n k : Nat} (t : Top f n) (h : V f n < B ^ k) : n ≤ k := by
  by_cases c : n ≤ k
  · exact c
  · exfalso
    have a := Top_ge t (by omega)
    have b : B ^ k ≤ B ^ (n - 1) := Nat.pow_le_pow_right B_pos (by omega)
    omega

/-- The length without the words 0 on top. -/
def tl (f : Nat → Nat) : Nat → Nat
  | 0 => 0
  | n + 1 => if f n = 0 then tl f n else n + 1
theorem tl_le (f : Nat → Nat) : ∀ n, tl f n ≤ n
  | 0 => Nat.le_refl _
  | n + 1 => by
    unfold tl
    split
    · have := tl_le f n; omega
    · exact Nat.le_refl _
theorem tl_top (f : Nat → Nat) : ∀ n, Top f (tl f n)
  | 0 => Or.inl rfl
  | n + 1 => by
    unfold tl
    split
    · exact tl_top f n
    · exact Or.inr (by simpa using ‹_›)
theorem tl_V (f : Nat → Nat) : ∀ n, V f (tl f n) = V f n
  | 0 => rfl
  | n + 1 => by
    unfold tl
    split
    · rename_i h; rw [tl_V f n, V_succ, h, Nat.zero_mul, Nat.add_zero]
    · rfl
theorem tl_zero {f : Nat → Nat} {n : Nat} (h : f n = 0) : tl f (n + 1) = tl f n := by
  show (if f n = 0 then tl f n else n + 1) = _
  rw [if_pos h]
theorem tl_stop {f : Nat → Nat} {n : Nat} (h : f n ≠ 0) : tl f (n + 1) = n + 1 := by
  show (if f n = 0 then tl f n else n + 1) = _
  rw [if_neg h]

/-- The order of two numbers. -/
def ord (x y : Nat) : Int := if x < y then -1 else if y < x then 1 else 0
theorem ord_lt {x y : Nat} (h : x < y) : ord x y = -1 := by unfold ord; rw [if_pos h]
theorem ord_gt {x y : Nat} (h : y < x) : ord x y = 1 := by unfold ord; rw [if_neg (by omega), if_pos h]
theorem ord_eq {x y : Nat} (h : x = y) : ord x y = 0 := by unfold ord; rw [if_neg (by omega), if_neg (by omega)]

/-- The highest word that parts them decides. -/
theorem V_lt_at {f g : Nat → Nat} (hf : Ws f) {k : Nat} (hk : f k < g k) : ∀ {n : Nat}, k < n → (∀ j, k < j → j < n → f j = g j) → V f n < V g n
  | 0, h, _ => absurd h (by omega)
  | n + 1, h, e => by
    by_cases c : k = n
    · subst c
      have a := V_lt hf k
      have b : (f k + 1) * B ^ k ≤ g k * B ^ k := Nat.mul_le_mul_right _ hk
      rw [V_succ, V_succ]
      rw [Nat.add_mul, Nat.one_mul] at b
      omega
    · have i := V_lt_at hf hk (n := n) (by omega) (fun j a b => e j a (by omega))
      rw [V_succ, V_succ, e n (by omega) (by omega)]
      omega

/-- A word put into a row. -/
def put (f : Nat → Nat) (k x : Nat) : Nat → Nat := fun i => if i = k then x else f i
theorem put_at (f : Nat → Nat) (k x : Nat) : put f k x k = x := by unfold put; rw [if_pos rfl]
theorem put_ne {f : Nat → Nat} {k x i : Nat} (h : i ≠ k) : put f k x i = f i := by unfold put; rw [if_neg h]
theorem put_Ws {f : Nat → Nat} {k x : Nat} (hf : Ws f) (hx : x < B) : Ws (put f k x) := by
  intro i; unfold put; split
  · exact hx
  · exact hf i
theorem V_put_low {f : Nat → Nat} {k x n : Nat} (h : n ≤ k) : V (put f k x) n = V f n := V_congr fun i hi => put_ne (by omega)

/-- One word more of a sum, of a difference. -/
theorem sum_gen {β v a b p x y c q r : Nat} (h : v + c * p = a + b) (e : β * q + r = x + y + c) : v + r * p + q * (p * β) = a + x * p + (b + y * p) := by
  have : r * p + q * (p * β) = (β * q + r) * p := by grind
  rw [e] at this
  grind
theorem sum_step {v a b p x y c : Nat} (h : v + c * p = a + b) : v + (x + y + c) % B * p + (x + y + c) / B * (p * B) = a + x * p + (b + y * p) :=
  sum_gen h (Nat.div_add_mod (x + y + c) B)
theorem carry_le {x y c : Nat} (hx : x < B) (hy : y < B) (hc : c ≤ 1) : (x + y + c) / B ≤ 1 := by
  unfold B at *; omega
theorem sub_step {β v a b p x y c l d : Nat} (h : v + b = a + c * p) (hl : l + y + c = x + d * β) : v + l * p + (b + y * p) = a + x * p + d * (p * β) := by
  have : l * p + y * p + c * p = x * p + d * (p * β) := by
    have e : (l + y + c) * p = (x + d * β) * p := by rw [hl]
    grind
  omega

end Go.Proofs.YtkkgancmodhghaaDoor.Big
