/-
  Holds: VMath VNatM VBtM VBigM VBigP.
-/
import Derived.Test.YtjagnfddmlkalaaGreatDoorKj0
set_option maxRecDepth 100000
set_option maxHeartbeats 4000000
namespace Go.Proofs.YtjagnfddmlkalaaGreatDoor
def Word (x : Int) : Prop := 0 ≤ x ∧ x < 18446744073709551616
def a3Lo (x y c : Int) : Int := (x + y + c) % 18446744073709551616
def a3C (x y c : Int) : Int := (x + y + c) / 18446744073709551616
def s3Lo (x y b : Int) : Int := (x - y - b) % 18446744073709551616
def s3B (x y b : Int) : Int := if x < y + b then 1 else 0
theorem a3C_01 {x y c : Int} (hx : Word x) (hy : Word y) (hc0 : 0 ≤ c) (hc : c ≤ 1) : 0 ≤ a3C x y c ∧ a3C x y c ≤ 1 := by
 unfold Word at hx hy; unfold a3C; omega
def sHi (ah al bh bl : Int) : Int := a3Lo ah bh (a3C al bl 0)
def sLo (al bl : Int) : Int := a3Lo al bl 0
def sOv (ah al bh bl : Int) : Bool := a3C ah bh (a3C al bl 0) != 0
def mHi (x y : Int) : Int := x * y / 18446744073709551616
def mLo (x y : Int) : Int := x * y % 18446744073709551616
def m3Top (h l b : Int) : Int := mHi h b + a3C (mLo h b) (mHi l b) 0
def m3Mid (h l b : Int) : Int := a3Lo (mLo h b) (mHi l b) 0
theorem mul_lt_sq {x y : Int} (hx : Word x) (hy : Word y) : 0 ≤ x * y ∧ x * y ≤ 18446744073709551615 * 18446744073709551615 := by
 unfold Word at *
 exact ⟨Int.mul_nonneg hx.1 hy.1, Int.mul_le_mul (by omega) (by omega) hy.1 (by omega)⟩
theorem mHi_word {x y : Int} (hx : Word x) (hy : Word y) : 0 ≤ mHi x y ∧ mHi x y ≤ 18446744073709551614 := by
 have h := mul_lt_sq hx hy
 unfold mHi
 generalize x * y = p at *
 omega
theorem mHi_isWord {x y : Int} (hx : Word x) (hy : Word y) : Word (mHi x y) := by
 have h := mHi_word hx hy
 unfold Word; omega
theorem mLo_word (x y : Int) : Word (mLo x y) := by unfold Word mLo; omega
theorem m3Top_word {h l b : Int} (hh : Word h) (hl : Word l) (hb : Word b) : Word (m3Top h l b) := by
 have h1 := mHi_word hh hb
 have h2 := a3C_01 (mLo_word h b) (mHi_isWord hl hb) (Int.le_refl 0) (by omega : (0 : Int) ≤ 1)
 unfold Word m3Top; omega
def B : Nat := 18446744073709551616
theorem B_pos : 0 < B := by decide
theorem Bp_pos (n : Nat) : 0 < B ^ n := Nat.pow_pos B_pos
def V (f : Nat → Nat) : Nat → Nat
 | 0 => 0
 | n + 1 => V f n + f n * B ^ n
def Ws (f : Nat → Nat) : Prop := ∀ i, f i < B
theorem V_zero (f : Nat → Nat) : V f 0 = 0 := rfl
theorem V_succ (f : Nat → Nat) (n : Nat) : V f (n + 1) = V f n + f n * B ^ n := rfl
theorem V_congr {f g : Nat → Nat} : ∀ {n : Nat}, (∀ i, i < n → f i = g i) → V f n = V g n
 | 0, _ => rfl
 | n + 1, h => by rw [V_succ, V_succ, V_congr (fun i hi => h i (by omega)), h n (by omega)]
theorem V_lt {f : Nat → Nat} (hf : Ws f) : ∀ n, V f n < B ^ n
  | 0 => by rw [V_zero, Nat.pow_zero]; decide
  | n + 1 => by
    have a := V_lt hf n
    have b := hf n
    have c : (f n + 1) * B ^ n ≤ B * B ^ n := Nat.mul_le_mul_right _ b
    rw [V_succ, Nat.pow_succ]
    rw [Nat.add_mul, Nat.one_mul] at c
    rw [Nat.mul_comm (B ^ n) B]
    omega
theorem V_ge {f : Nat → Nat} {n : Nat} (h : f n ≠ 0) : B ^ n ≤ V f (n + 1) := by
 have a : 1 * B ^ n ≤ f n * B ^ n := Nat.mul_le_mul_right _ (by omega)
 rw [V_succ]; omega
theorem split_gen {u v x p q : Nat} : u + v * p + x * (p * q) = u + (v + x * q) * p := by grind
theorem V_split (f : Nat → Nat) (a : Nat) : ∀ b, V f (a + b) = V f a + V (fun i => f (a + i)) b * B ^ a
  | 0 => by rw [V_zero, Nat.zero_mul]; rfl
  | b + 1 => by
    have e := V_split f a b
    rw [← Nat.add_assoc, V_succ, e, V_succ, Nat.pow_add]
    exact split_gen
theorem V_zeros {f : Nat → Nat} {m : Nat} : ∀ {n : Nat}, m ≤ n → (∀ i, m ≤ i → i < n → f i = 0) → V f n = V f m
  | 0, h, _ => by
    have e : m = 0 := by omega
    rw [e]
  | n + 1, h, z => by
    by_cases e : m = n + 1
    · rw [e]
    · rw [V_succ, z n (by omega) (by omega), Nat.zero_mul, Nat.add_zero]
      exact V_zeros (by omega) (fun i a b => z i a (by omega))
theorem V_nought (n : Nat) : V (fun _ => 0) n = 0 := V_zeros (f := fun _ => 0) (Nat.zero_le n) (fun _ _ _ => rfl)
def Top (f : Nat → Nat) (n : Nat) : Prop := n = 0 ∨ f (n - 1) ≠ 0
theorem Top_ge {f : Nat → Nat} {n : Nat} (h : Top f n) (hn : 0 < n) : B ^ (n - 1) ≤ V f n := by
 rcases h with h | h
 · omega
 · have := V_ge h
   rw [show n - 1 + 1 = n by omega] at this
   exact this
theorem len_le {f : Nat → Nat} {n k : Nat} (t : Top f n) (h : V f n < B ^ k) : n ≤ k := by
 by_cases c : n ≤ k
 · exact c
 · exfalso
   have a := Top_ge t (by omega)
   have b : B ^ k ≤ B ^ (n - 1) := Nat.pow_le_pow_right B_pos (by omega)
   omega
def tl (f : Nat → Nat) : Nat → Nat
 | 0 => 0
 | n + 1 => if f n = 0 then tl f n else n + 1
theorem tl_le (f : Nat → Nat) : ∀ n, tl f n ≤ n
  | 0 => Nat.le_refl _
  | n + 1 => by
    unfold tl
    split
    · have := tl_le f n; omega
    · exact Nat.le_refl _
theorem tl_top (f : Nat → Nat) : ∀ n, Top f (tl f n)
  | 0 => Or.inl rfl
  | n + 1 => by
    unfold tl
    split
    · exact tl_top f n
    · exact Or.inr (by simpa using ‹_›)
theorem tl_V (f : Nat → Nat) : ∀ n, V f (tl f n) = V f n
  | 0 => rfl
  | n + 1 => by
    unfold tl
    split
    · rename_i h; rw [tl_V f n, V_succ, h, Nat.zero_mul, Nat.add_zero]
    · rfl
theorem tl_zero {f : Nat → Nat} {n : Nat} (h : f n = 0) : tl f (n + 1) = tl f n := by
 show (if f n = 0 then tl f n else n + 1) = _
 rw [if_pos h]
theorem tl_stop {f : Nat → Nat} {n : Nat} (h : f n ≠ 0) : tl f (n + 1) = n + 1 := by
 show (if f n = 0 then tl f n else n + 1) = _
 rw [if_neg h]
theorem V_lt_at {f g : Nat → Nat} (hf : Ws f) {k : Nat} (hk : f k < g k) : ∀ {n : Nat}, k < n → (∀ j, k < j → j < n → f j = g j) → V f n < V g n
  | 0, h, _ => absurd h (by omega)
  | n + 1, h, e => by
    by_cases c : k = n
    · subst c
      have a := V_lt hf k
      have b : (f k + 1) * B ^ k ≤ g k * B ^ k := Nat.mul_le_mul_right _ hk
      rw [V_succ, V_succ]
      rw [Nat.add_mul, Nat.one_mul] at b
      omega
    · have i := V_lt_at hf hk (n := n) (by omega) (fun j a b => e j a (by omega))
      rw [V_succ, V_succ, e n (by omega) (by omega)]
      omega
def put (f : Nat → Nat) (k x : Nat) : Nat → Nat := fun i => if i = k then x else f i
theorem put_at (f : Nat → Nat) (k x : Nat) : put f k x k = x := by unfold put; rw [if_pos rfl]
theorem put_ne {f : Nat → Nat} {k x i : Nat} (h : i ≠ k) : put f k x i = f i := by unfold put; rw [if_neg h]
theorem put_Ws {f : Nat → Nat} {k x : Nat} (hf : Ws f) (hx : x < B) : Ws (put f k x) := by
 intro i; unfold put; split
 · exact hx
 · exact hf i
theorem V_put_low {f : Nat → Nat} {k x n : Nat} (h : n ≤ k) : V (put f k x) n = V f n := V_congr fun i hi => put_ne (by omega)
theorem sub_step {β v a b p x y c l d : Nat} (h : v + b = a + c * p) (hl : l + y + c = x + d * β) : v + l * p + (b + y * p) = a + x * p + d * (p * β) := by
 have : l * p + y * p + c * p = x * p + d * (p * β) := by
  have e : (l + y + c) * p = (x + d * β) * p := by rw [hl]
  grind
 omega
def ev (K : Int) (m : Nat) (e : Int) : Nat := m * 2 ^ (e - K).toNat
theorem ev_at {K' K e : Int} (m : Nat) (h : K' ≤ K) (h2 : K ≤ e) : ev K' m e = ev K m e * 2 ^ (K - K').toNat := by
 unfold ev
 rw [Nat.mul_assoc, ← Nat.pow_add]
 have : (e - K').toNat = (e - K).toNat + (K - K').toNat := by omega
 rw [this]
def Good (f : Nat) (L : Int) (M : Nat) (E : Int) : Prop := M < 2 ^ (f + 1) ∧ L ≤ E ∧ (2 ^ f ≤ M ∨ E = L)
def mt (f : Nat) (b : Nat) : Nat := if b / 2 ^ f = 0 then b else b % 2 ^ f + 2 ^ f
def xp (f : Nat) (L : Int) (b : Nat) : Int := if b / 2 ^ f = 0 then L else L + ((b / 2 ^ f : Nat) : Int) - 1
theorem parts_good (f : Nat) (L : Int) (b : Nat) : Good f L (mt f b) (xp f L b) := by
 unfold mt xp
 have p := Nat.two_pow_pos f
 by_cases h : b / 2 ^ f = 0
 · rw [if_pos h, if_pos h]
   have : b < 2 ^ f := by
    rcases Nat.div_eq_zero_iff.1 h with h | h <;> omega
   refine ⟨?_, Int.le_refl L, .inr rfl⟩
   rw [Nat.pow_succ]
   omega
 · rw [if_neg h, if_neg h]
   have := Nat.mod_lt b p
   refine ⟨?_, ?_, .inl (by omega)⟩
   · rw [Nat.pow_succ]
     omega
   · generalize b / 2 ^ f = q at h ⊢
     omega
namespace Big
def B : Nat := 4294967296
theorem B_pos : 0 < B := by decide
def V (f : Nat → Nat) : Nat → Nat
 | 0 => 0
 | n + 1 => V f n + f n * B ^ n
def Ws (f : Nat → Nat) : Prop := ∀ i, f i < B
theorem V_zero (f : Nat → Nat) : V f 0 = 0 := rfl
theorem V_succ (f : Nat → Nat) (n : Nat) : V f (n + 1) = V f n + f n * B ^ n := rfl
theorem V_congr {f g : Nat → Nat} : ∀ {n : Nat}, (∀ i, i < n → f i = g i) → V f n = V g n
 | 0, _ => rfl
 | n + 1, h => by rw [V_succ, V_succ, V_congr (fun i hi => h i (by omega)), h n (by omega)]
theorem V_ge {f : Nat → Nat} {n : Nat} (h : f n ≠ 0) : B ^ n ≤ V f (n + 1) := by
 have a : 1 * B ^ n ≤ f n * B ^ n := Nat.mul_le_mul_right _ (by omega)
 rw [V_succ]; omega
theorem split_gen {u v x p q : Nat} : u + v * p + x * (p * q) = u + (v + x * q) * p := by grind
theorem V_split (f : Nat → Nat) (a : Nat) : ∀ b, V f (a + b) = V f a + V (fun i => f (a + i)) b * B ^ a
  | 0 => by rw [V_zero, Nat.zero_mul]; rfl
  | b + 1 => by
    have e := V_split f a b
    rw [← Nat.add_assoc, V_succ, e, V_succ, Nat.pow_add]
    exact split_gen
theorem V_zeros {f : Nat → Nat} {m : Nat} : ∀ {n : Nat}, m ≤ n → (∀ i, m ≤ i → i < n → f i = 0) → V f n = V f m
  | 0, h, _ => by
    have e : m = 0 := by omega
    rw [e]
  | n + 1, h, z => by
    by_cases e : m = n + 1
    · rw [e]
    · rw [V_succ, z n (by omega) (by omega), Nat.zero_mul, Nat.add_zero]
      exact V_zeros (by omega) (fun i a b => z i a (by omega))
theorem V_nought (n : Nat) : V (fun _ => 0) n = 0 := V_zeros (f := fun _ => 0) (Nat.zero_le n) (fun _ _ _ => rfl)
def Top (f : Nat → Nat) (n : Nat) : Prop := n = 0 ∨ f (n - 1) ≠ 0
theorem Top_ge {f : Nat → Nat} {n : Nat} (h : Top f n) (hn : 0 < n) : B ^ (n - 1) ≤ V f n := by
 rcases h with h | h
 · omega
 · have := V_ge h
   rw [show n - 1 + 1 = n by omega] at this
   exact this
theorem len_le {f : Nat → Nat} {n k : Nat} (t : Top f n) (h : V f n < B ^ k) : n ≤ k := by
 by_cases c : n ≤ k
 · exact c
 · exfalso
   have a := Top_ge t (by omega)
   have b : B ^ k ≤ B ^ (n - 1) := Nat.pow_le_pow_right B_pos (by omega)
   omega
def tl (f : Nat → Nat) : Nat → Nat
 | 0 => 0
 | n + 1 => if f n = 0 then tl f n else n + 1
theorem tl_le (f : Nat → Nat) : ∀ n, tl f n ≤ n
  | 0 => Nat.le_refl _
  | n + 1 => by
    unfold tl
    split
    · have := tl_le f n; omega
    · exact Nat.le_refl _
theorem tl_top (f : Nat → Nat) : ∀ n, Top f (tl f n)
  | 0 => Or.inl rfl
  | n + 1 => by
    unfold tl
    split
    · exact tl_top f n
    · exact Or.inr (by simpa using ‹_›)
theorem tl_V (f : Nat → Nat) : ∀ n, V f (tl f n) = V f n
  | 0 => rfl
  | n + 1 => by
    unfold tl
    split
    · rename_i h; rw [tl_V f n, V_succ, h, Nat.zero_mul, Nat.add_zero]
    · rfl
theorem tl_zero {f : Nat → Nat} {n : Nat} (h : f n = 0) : tl f (n + 1) = tl f n := by
 show (if f n = 0 then tl f n else n + 1) = _
 rw [if_pos h]
theorem tl_stop {f : Nat → Nat} {n : Nat} (h : f n ≠ 0) : tl f (n + 1) = n + 1 := by
 show (if f n = 0 then tl f n else n + 1) = _
 rw [if_neg h]
def put (f : Nat → Nat) (k x : Nat) : Nat → Nat := fun i => if i = k then x else f i
theorem put_at (f : Nat → Nat) (k x : Nat) : put f k x k = x := by unfold put; rw [if_pos rfl]
theorem put_ne {f : Nat → Nat} {k x i : Nat} (h : i ≠ k) : put f k x i = f i := by unfold put; rw [if_neg h]
theorem put_Ws {f : Nat → Nat} {k x : Nat} (hf : Ws f) (hx : x < B) : Ws (put f k x) := by
 intro i; unfold put; split
 · exact hx
 · exact hf i
theorem V_put_low {f : Nat → Nat} {k x n : Nat} (h : n ≤ k) : V (put f k x) n = V f n := V_congr fun i hi => put_ne (by omega)
end Big
theorem BB : B = Big.B * Big.B := by decide
theorem BB_pow (k : Nat) : B ^ k = Big.B ^ (2 * k) := by rw [BB, Nat.pow_mul, Nat.pow_two]
end Go.Proofs.YtjagnfddmlkalaaGreatDoor
