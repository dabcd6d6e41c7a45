/-
  Numbers of many words and of two words: what the program's calls answer; digits of 32 bits.
-/
import Derived.Test.YtohbggdkopmpfaaDoorBtZ
import Derived.Test.YtohbggdkopmpfaaDoorLen
import Derived.Test.YtohbggdkopmpfaaDoorMath2
import Derived.Laws.Externs
import Derived.WalkKit
import Derived.WalkSpells
import Derived.WalkLawsBesides
import Derived.Lib.Mul64
import Derived.Laws.Bits64b
import Derived.Lib.ItoaNum
import Derived.OwnWalk
import Derived.Lib.TrailingZeros
import Derived.Deep.OwnRows
import Derived.Laws.CopyOwn
import Derived.BigQuiet
import Derived.Deep.QuietTactic
import Derived.RegionTactic
import Derived.ChangeAlike
import Derived.BigRegion
import Derived.Deep.RegionHeld3
import Derived.Lib.SliceRun
import Derived.Deep.LoopGhost
import Derived.WalkMore
import Derived.Deep.RegionWith
import Derived.Deep.AppendLies
import Derived.Laws.BytesArg
namespace Go.Proofs.YtohbggdkopmpfaaDoor
open Go.RowKit

/-- How many numbers a word holds. -/
def B : Nat := 18446744073709551616
theorem B_pos : 0 < B := by decide
theorem Bp_pos (n : Nat) : 0 < B ^ n := Nat.pow_pos B_pos
/-- The number of the lowest n words. -/
def V (f : Nat → Nat) : Nat → Nat
  | 0 => 0
  | n + 1 => V f n + f n * B ^ n
/-- Words. -/
def Ws (f : Nat → Nat) : Prop := ∀ i, f i < B
theorem V_zero (f : Nat → Nat) : V f 0 = 0 := rfl
theorem V_succ (f : Nat → Nat) (n : Nat) : V f (n + 1) = V f n + f n * B ^ n := rfl
theorem V_congr {f g : Nat → Nat} : ∀ {n : Nat}, (∀ i, i < n → f i = g i) → V f n = V g n
  | 0, _ => rfl
  | n + 1, h => by rw [V_succ, V_succ, V_congr (fun i hi => h i (by omega)), h n (by omega)]
theorem V_lt {f : Nat → Nat} (hf : Ws f) : ∀ n, V f n < B ^ n
  | 0 => by rw [V_zero, Nat.pow_zero]; decide
  | n + 1 => by
    have a := V_lt hf n
    have b := hf n
    have c : (f n + 1) * B ^ n ≤ B * B ^ n := Nat.mul_le_mul_right _ b
    rw [V_succ, Nat.pow_succ]
    rw [Nat.add_mul, Nat.one_mul] at c
    rw [Nat.mul_comm (B ^ n) B]
    omega
theorem V_ge {f : Nat → Nat} {n : Nat} (h : f n ≠ 0) : B ^ n ≤ V f (n + 1) := by
  have a : 1 * B ^ n ≤ f n * B ^ n := Nat.mul_le_mul_right _ (by omega)
  rw [V_succ]; omega
theorem split_gen {u v x p q : Nat} : u + v * p + x * (p * q) = u + (v + x * q) * p := by grind
theorem V_split (f : Nat → Nat) (a : Nat) : ∀ b, V f (a + b) = V f a + V (fun i => f (a + i)) b * B ^ a
  | 0 => by rw [V_zero, Nat.zero_mul]; rfl
  | b + 1 => by
    have e := V_split f a b
    rw [← Nat.add_assoc, V_succ, e, V_succ, Nat.pow_add]
    exact split_gen
theorem V_zeros {f : Nat → Nat} {m : Nat} : ∀ {n : Nat}, m ≤ n → (∀ i, m ≤ i → i < n → f i = 0) → V f n = V f m
  | 0, h, _ => by
    have e : m = 0 := by omega
    rw [e]
  | n + 1, h, z => by
    by_cases e : m = n + 1
    · rw [e]
    · rw [V_succ, z n (by omega) (by omega), Nat.zero_mul, Nat.add_zero]
      exact V_zeros (by omega) (fun i a b => z i a (by omega))
theorem V_nought (n : Nat) : V (fun _ => 0) n = 0 := V_zeros (f := fun _ => 0) (Nat.zero_le n) (fun _ _ _ => rfl)
/-- A number has no word 0 on top. -/
def Top (f : Nat → Nat) (n : Nat) : Prop := n = 0 ∨ f (n - 1) ≠ 0
theorem Top_ge {f : Nat → Nat} {n : Nat} (h : Top f n) (hn : 0 < n) : B ^ (n - 1) ≤ V f n := by
  rcases h with h | h
  · omega
  · have := V_ge h
    rw [show n - 1 + 1 = n by omega] at this
    exact this
theorem len_lt {f g : Nat → Nat} {m n : Nat} (hf : Ws f) (hg : Top g n) (h : m < n) : V f m < V g n := by
  have a := V_lt hf m
  have b := Top_ge hg (by omega)
  have c : B ^ m ≤ B ^ (n - 1) := Nat.pow_le_pow_right B_pos (by omega)
  omega
theorem len_le {f : Nat → Nat} {n k : Nat} (t : Top f n) (h : V f n < B ^ k) : n ≤ k := by
  by_cases c : n ≤ k
  · exact c
  · exfalso
    have a := Top_ge t (by omega)
    have b : B ^ k ≤ B ^ (n - 1) := Nat.pow_le_pow_right B_pos (by omega)
    omega
/-- The length without the words 0 on top. -/
def tl (f : Nat → Nat) : Nat → Nat
  | 0 => 0
  | n + 1 => if f n = 0 then tl f n else n + 1
theorem tl_le (f : Nat → Nat) : ∀ n, tl f n ≤ n
  | 0 => Nat.le_refl _
  | n + 1 => by
    unfold tl
    split
    · have := tl_le f n; omega
    · exact Nat.le_refl _
theorem tl_top (f : Nat → Nat) : ∀ n, Top f (tl f n)
  | 0 => Or.inl rfl
  | n + 1 => by
    unfold tl
    split
    · exact tl_top f n
    · exact Or.inr (by simpa using ‹_›)
theorem tl_V (f : Nat → Nat) : ∀ n, V f (tl f n) = V f n
  | 0 => rfl
  | n + 1 => by
    unfold tl
    split
    · rename_i h; rw [tl_V f n, V_succ, h, Nat.zero_mul, Nat.add_zero]
    · rfl
theorem tl_zero {f : Nat → Nat} {n : Nat} (h : f n = 0) : tl f (n + 1) = tl f n := by
  show (if f n = 0 then tl f n else n + 1) = _
  rw [if_pos h]
theorem tl_stop {f : Nat → Nat} {n : Nat} (h : f n ≠ 0) : tl f (n + 1) = n + 1 := by
  show (if f n = 0 then tl f n else n + 1) = _
  rw [if_neg h]
/-- The order of two numbers. -/
def ord (x y : Nat) : Int := if x < y then -1 else if y < x then 1 else 0
/-- The highest word that parts them decides. -/
theorem V_lt_at {f g : Nat → Nat} (hf : Ws f) {k : Nat} (hk : f k < g k) : ∀ {n : Nat}, k < n → (∀ j, k < j → j < n → f j = g j) → V f n < V g n
  | 0, h, _ => absurd h (by omega)
  | n + 1, h, e => by
    by_cases c : k = n
    · subst c
      have a := V_lt hf k
      have b : (f k + 1) * B ^ k ≤ g k * B ^ k := Nat.mul_le_mul_right _ hk
      rw [V_succ, V_succ]
      rw [Nat.add_mul, Nat.one_mul] at b
      omega
    · have i := V_lt_at hf hk (n := n) (by omega) (fun j a b => e j a (by omega))
      rw [V_succ, V_succ, e n (by omega) (by omega)]
      omega
/-- A word put into a row. -/
def put (f : Nat → Nat) (k x : Nat) : Nat → Nat := fun i => if i = k then x else f i
theorem put_at (f : Nat → Nat) (k x : Nat) : put f k x k = x := by unfold put; rw [if_pos rfl]
theorem put_ne {f : Nat → Nat} {k x i : Nat} (h : i ≠ k) : put f k x i = f i := by unfold put; rw [if_neg h]
theorem put_Ws {f : Nat → Nat} {k x : Nat} (hf : Ws f) (hx : x < B) : Ws (put f k x) := by
  intro i; unfold put; split
  · exact hx
  · exact hf i
theorem V_put_low {f : Nat → Nat} {k x n : Nat} (h : n ≤ k) : V (put f k x) n = V f n := V_congr fun i hi => put_ne (by omega)
/-- One word more of a sum, of a difference. -/
theorem sum_gen {β v a b p x y c q r : Nat} (h : v + c * p = a + b) (e : β * q + r = x + y + c) : v + r * p + q * (p * β) = a + x * p + (b + y * p) := by
  have : r * p + q * (p * β) = (β * q + r) * p := by grind
  rw [e] at this
  grind
theorem sum_step {v a b p x y c : Nat} (h : v + c * p = a + b) : v + (x + y + c) % B * p + (x + y + c) / B * (p * B) = a + x * p + (b + y * p) :=
  sum_gen h (Nat.div_add_mod (x + y + c) B)
theorem sub_step {β v a b p x y c l d : Nat} (h : v + b = a + c * p) (hl : l + y + c = x + d * β) : v + l * p + (b + y * p) = a + x * p + d * (p * β) := by
  have : l * p + y * p + c * p = x * p + d * (p * β) := by
    have e : (l + y + c) * p = (x + d * β) * p := by rw [hl]
    grind
  omega
namespace Big
/-- How many numbers a digit holds. -/
def B : Nat := 4294967296
theorem B_pos : 0 < B := by decide
theorem Bp_pos (n : Nat) : 0 < B ^ n := Nat.pow_pos B_pos
/-- The number of the lowest n words. -/
def V (f : Nat → Nat) : Nat → Nat
  | 0 => 0
  | n + 1 => V f n + f n * B ^ n
/-- Words. -/
def Ws (f : Nat → Nat) : Prop := ∀ i, f i < B
theorem V_zero (f : Nat → Nat) : V f 0 = 0 := rfl
theorem V_succ (f : Nat → Nat) (n : Nat) : V f (n + 1) = V f n + f n * B ^ n := rfl
theorem V_congr {f g : Nat → Nat} : ∀ {n : Nat}, (∀ i, i < n → f i = g i) → V f n = V g n
  | 0, _ => rfl
  | n + 1, h => by rw [V_succ, V_succ, V_congr (fun i hi => h i (by omega)), h n (by omega)]
theorem V_lt {f : Nat → Nat} (hf : Ws f) : ∀ n, V f n < B ^ n
  | 0 => by rw [V_zero, Nat.pow_zero]; decide
  | n + 1 => by
    have a := V_lt hf n
    have b := hf n
    have c : (f n + 1) * B ^ n ≤ B * B ^ n := Nat.mul_le_mul_right _ b
    rw [V_succ, Nat.pow_succ]
    rw [Nat.add_mul, Nat.one_mul] at c
    rw [Nat.mul_comm (B ^ n) B]
    omega
theorem V_ge {f : Nat → Nat} {n : Nat} (h : f n ≠ 0) : B ^ n ≤ V f (n + 1) := by
  have a : 1 * B ^ n ≤ f n * B ^ n := Nat.mul_le_mul_right _ (by omega)
  rw [V_succ]; omega
theorem split_gen {u v x p q : Nat} : u + v * p + x * (p * q) = u + (v + x * q) * p := by grind
theorem V_split (f : Nat → Nat) (a : Nat) : ∀ b, V f (a + b) = V f a + V (fun i => f (a + i)) b * B ^ a
  | 0 => by rw [V_zero, Nat.zero_mul]; rfl
  | b + 1 => by
    have e := V_split f a b
    rw [← Nat.add_assoc, V_succ, e, V_succ, Nat.pow_add]
    exact split_gen
theorem V_zeros {f : Nat → Nat} {m : Nat} : ∀ {n : Nat}, m ≤ n → (∀ i, m ≤ i → i < n → f i = 0) → V f n = V f m
  | 0, h, _ => by
    have e : m = 0 := by omega
    rw [e]
  | n + 1, h, z => by
    by_cases e : m = n + 1
    · rw [e]
    · rw [V_succ, z n (by omega) (by omega), Nat.zero_mul, Nat.add_zero]
      exact V_zeros (by omega) (fun i a b => z i a (by omega))
theorem V_nought (n : Nat) : V (fun _ => 0) n = 0 := V_zeros (f := fun _ => 0) (Nat.zero_le n) (fun _ _ _ => rfl)
/-- A number has no word 0 on top. -/
def Top (f : Nat → Nat) (n : Nat) : Prop := n = 0 ∨ f (n - 1) ≠ 0
theorem Top_ge {f : Nat → Nat} {n : Nat} (h : Top f n) (hn : 0 < n) : B ^ (n - 1) ≤ V f n := by
  rcases h with h | h
  · omega
  · have := V_ge h
    rw [show n - 1 + 1 = n by omega] at this
    exact this
theorem len_lt {f g : Nat → Nat} {m n : Nat} (hf : Ws f) (hg : Top g n) (h : m < n) : V f m < V g n := by
  have a := V_lt hf m
  have b := Top_ge hg (by omega)
  have c : B ^ m ≤ B ^ (n - 1) := Nat.pow_le_pow_right B_pos (by omega)
  omega
theorem len_le {f : Nat → Nat} {n k : Nat} (t : Top f n) (h : V f n < B ^ k) : n ≤ k := by
  by_cases c : n ≤ k
  · exact c
  · exfalso
    have a := Top_ge t (by omega)
    have b : B ^ k ≤ B ^ (n - 1) := Nat.pow_le_pow_right B_pos (by omega)
    omega
/-- The length without the words 0 on top. -/
def tl (f : Nat → Nat) : Nat → Nat
  | 0 => 0
  | n + 1 => if f n = 0 then tl f n else n + 1
theorem tl_le (f : Nat → Nat) : ∀ n, tl f n ≤ n
  | 0 => Nat.le_refl _
  | n + 1 => by
    unfold tl
    split
    · have := tl_le f n; omega
    · exact Nat.le_refl _
theorem tl_top (f : Nat → Nat) : ∀ n, Top f (tl f n)
  | 0 => Or.inl rfl
  | n + 1 => by
    unfold tl
    split
    · exact tl_top f n
    · exact Or.inr (by simpa using ‹_›)
theorem tl_V (f : Nat → Nat) : ∀ n, V f (tl f n) = V f n
  | 0 => rfl
  | n + 1 => by
    unfold tl
    split
    · rename_i h; rw [tl_V f n, V_succ, h, Nat.zero_mul, Nat.add_zero]
    · rfl
theorem tl_zero {f : Nat → Nat} {n : Nat} (h : f n = 0) : tl f (n + 1) = tl f n := by
  show (if f n = 0 then tl f n else n + 1) = _
  rw [if_pos h]
theorem tl_stop {f : Nat → Nat} {n : Nat} (h : f n ≠ 0) : tl f (n + 1) = n + 1 := by
  show (if f n = 0 then tl f n else n + 1) = _
  rw [if_neg h]
/-- The highest word that parts them decides. -/
theorem V_lt_at {f g : Nat → Nat} (hf : Ws f) {k : Nat} (hk : f k < g k) : ∀ {n : Nat}, k < n → (∀ j, k < j → j < n → f j = g j) → V f n < V g n
  | 0, h, _ => absurd h (by omega)
  | n + 1, h, e => by
    by_cases c : k = n
    · subst c
      have a := V_lt hf k
      have b : (f k + 1) * B ^ k ≤ g k * B ^ k := Nat.mul_le_mul_right _ hk
      rw [V_succ, V_succ]
      rw [Nat.add_mul, Nat.one_mul] at b
      omega
    · have i := V_lt_at hf hk (n := n) (by omega) (fun j a b => e j a (by omega))
      rw [V_succ, V_succ, e n (by omega) (by omega)]
      omega
/-- A word put into a row. -/
def put (f : Nat → Nat) (k x : Nat) : Nat → Nat := fun i => if i = k then x else f i
theorem put_at (f : Nat → Nat) (k x : Nat) : put f k x k = x := by unfold put; rw [if_pos rfl]
theorem put_ne {f : Nat → Nat} {k x i : Nat} (h : i ≠ k) : put f k x i = f i := by unfold put; rw [if_neg h]
theorem put_Ws {f : Nat → Nat} {k x : Nat} (hf : Ws f) (hx : x < B) : Ws (put f k x) := by
  intro i; unfold put; split
  · exact hx
  · exact hf i
theorem V_put_low {f : Nat → Nat} {k x n : Nat} (h : n ≤ k) : V (put f k x) n = V f n := V_congr fun i hi => put_ne (by omega)
/-- One word more of a sum, of a difference. -/
theorem sum_gen {β v a b p x y c q r : Nat} (h : v + c * p = a + b) (e : β * q + r = x + y + c) : v + r * p + q * (p * β) = a + x * p + (b + y * p) := by
  have : r * p + q * (p * β) = (β * q + r) * p := by grind
  rw [e] at this
  grind
theorem sum_step {v a b p x y c : Nat} (h : v + c * p = a + b) : v + (x + y + c) % B * p + (x + y + c) / B * (p * B) = a + x * p + (b + y * p) :=
  sum_gen h (Nat.div_add_mod (x + y + c) B)
theorem sub_step {β v a b p x y c l d : Nat} (h : v + b = a + c * p) (hl : l + y + c = x + d * β) : v + l * p + (b + y * p) = a + x * p + d * (p * β) := by
  have : l * p + y * p + c * p = x * p + d * (p * β) := by
    have e : (l + y + c) * p = (x + d * β) * p := by rw [hl]
    grind
  omega
end Big
theorem BB : B = Big.B * Big.B := by decide
theorem BB_pow (k : Nat) : B ^ k = Big.B ^ (2 * k) := by rw [BB, Nat.pow_mul, Nat.pow_two]
theorem half_lt {x : Nat} (h : x < B) : x / Big.B < Big.B := Nat.div_lt_of_lt_mul (by rw [← BB]; exact h)
/-- What lies at n and above is 0. -/
def cut (g : Nat → Nat) (n i : Nat) : Nat := if i < n then g i else 0
/-- The number of two words, and its words. -/
def val (h l : Int) : Nat := (h * 18446744073709551616 + l).toNat
def hiW (v : Nat) : Int := ((v / 18446744073709551616 : Nat) : Int)
def loW (v : Nat) : Int := ((v % 18446744073709551616 : Nat) : Int)
theorem val_lt {h l : Int} (h1 : Word h) (h2 : Word l) : val h l < 340282366920938463463374607431768211456 := by
  unfold Word at *; unfold val; omega
theorem hiW_val {h l : Int} (h1 : Word h) (h2 : Word l) : hiW (val h l) = h := by
  unfold Word at *; unfold val hiW; omega
theorem loW_val {h l : Int} (h1 : Word h) (h2 : Word l) : loW (val h l) = l := by
  unfold Word at *; unfold val loW; omega
theorem hiW_zero : hiW 0 = 0 := by decide
theorem loW_zero : loW 0 = 0 := by decide
theorem pow_cast (s : Nat) : ((2 : Int) ^ s) = ((2 ^ s : Nat) : Int) := by push_cast; rfl
/-- The two shifts' parts, in numbers from 0 on. -/
theorem shl_nat (a b s : Nat) (hb : b < 18446744073709551616) (h1 : s ≤ 64) :
    ((a * 18446744073709551616 + b) * 2 ^ s) / 18446744073709551616 = a * 2 ^ s + b / 2 ^ (64 - s) ∧ ((a * 18446744073709551616 + b) * 2 ^ s) % 18446744073709551616 = b * 2 ^ s % 18446744073709551616 ∧ b / 2 ^ (64 - s) < 2 ^ s := by
  have p2 : 2 ^ (64 - s) * 2 ^ s = 18446744073709551616 := by rw [← Nat.pow_add, show 64 - s + s = 64 by omega]
  have s0 : 0 < 2 ^ s := Nat.pow_pos (by omega)
  have i4 : b * 2 ^ s / 18446744073709551616 = b / 2 ^ (64 - s) := by rw [← p2, Nat.mul_div_mul_right _ _ s0]
  have i5 : b / 2 ^ (64 - s) < 2 ^ s := by
    rw [Nat.div_lt_iff_lt_mul (Nat.pow_pos (by omega)), Nat.mul_comm, p2]; exact hb
  have e : (a * 18446744073709551616 + b) * 2 ^ s = a * 2 ^ s * 18446744073709551616 + b * 2 ^ s := by rw [Nat.add_mul, Nat.mul_right_comm]
  rw [e]
  refine ⟨by omega, by omega, i5⟩
theorem shl_or (a c s : Nat) (h1 : s ≤ 64) (hc : c < 2 ^ s) : (a * 2 ^ s % 18446744073709551616) ||| c = (a * 2 ^ s + c) % 18446744073709551616 := by
  have p2 : 2 ^ (64 - s) * 2 ^ s = 18446744073709551616 := by rw [← Nat.pow_add, show 64 - s + s = 64 by omega]
  have e : a * 2 ^ s % 18446744073709551616 = 2 ^ s * (a % 2 ^ (64 - s)) := by
    rw [← p2, Nat.mul_mod_mul_right, Nat.mul_comm]
  have l : 2 ^ s * (a % 2 ^ (64 - s)) + c < 18446744073709551616 := by
    have q : a % 2 ^ (64 - s) + 1 ≤ 2 ^ (64 - s) := Nat.mod_lt _ (Nat.pow_pos (by omega))
    have r := Nat.mul_le_mul_left (2 ^ s) q
    rw [Nat.mul_add, Nat.mul_comm (2 ^ s) (2 ^ (64 - s)), p2] at r
    omega
  rw [e, ← Nat.two_pow_add_eq_or_of_lt hc, Nat.add_mod, e]
  have c2 : c < 18446744073709551616 := by omega
  rw [Nat.mod_eq_of_lt c2, Nat.mod_eq_of_lt l]
/-- A shift up by s, from 1 to 63: the words. -/
theorem shl_words {h l : Int} (w1 : Word h) (w2 : Word l) (s : Nat) (h1 : s ≤ 64) :
    bits .or .u64 (IntKind.u64.wrap (h * 2 ^ s)) (l / 2 ^ (64 - s)) = hiW (val h l * 2 ^ s % 340282366920938463463374607431768211456) ∧ IntKind.u64.wrap (l * 2 ^ s) = loW (val h l * 2 ^ s % 340282366920938463463374607431768211456) := by
  obtain ⟨a, rfl⟩ := Int.eq_ofNat_of_zero_le w1.1
  obtain ⟨b, rfl⟩ := Int.eq_ofNat_of_zero_le w2.1
  have w22 := w2.2
  have hv : val (a : Int) (b : Int) = a * 18446744073709551616 + b := by unfold val; omega
  obtain ⟨e1, e2, e3⟩ := shl_nat a b s (by omega) h1
  have c1 : IntKind.u64.wrap ((a : Int) * 2 ^ s) = ((a * 2 ^ s % 18446744073709551616 : Nat) : Int) := by rw [pow_cast, ← Int.natCast_mul, IntKind.wrap_u64]; omega
  have c2 : IntKind.u64.wrap ((b : Int) * 2 ^ s) = ((b * 2 ^ s % 18446744073709551616 : Nat) : Int) := by rw [pow_cast, ← Int.natCast_mul, IntKind.wrap_u64]; omega
  have c3 : ((b : Int) / 2 ^ (64 - s)) = ((b / 2 ^ (64 - s) : Nat) : Int) := by rw [pow_cast, ← Int.natCast_ediv]
  have l3 : b / 2 ^ (64 - s) < 18446744073709551616 := Nat.lt_of_le_of_lt (Nat.div_le_self _ _) (by omega)
  constructor
  · rw [c1, c3, bits_or_u64_nat _ _ (Nat.mod_lt _ (by omega)) l3, shl_or a _ s h1 e3, ← e1, hv]
    unfold hiW
    generalize (a * 18446744073709551616 + b) * 2 ^ s = V
    omega
  · rw [c2, ← e2, hv]
    unfold loW
    generalize (a * 18446744073709551616 + b) * 2 ^ s = V
    omega
/-- A shift up by s, from 64 on: the words. -/
theorem shl_words64 {h l : Int} (w1 : Word h) (w2 : Word l) (s : Nat) (h1 : 64 ≤ s) :
    IntKind.u64.wrap (l * 2 ^ (s - 64)) = hiW (val h l * 2 ^ s % 340282366920938463463374607431768211456) ∧ 0 = loW (val h l * 2 ^ s % 340282366920938463463374607431768211456) := by
  obtain ⟨a, rfl⟩ := Int.eq_ofNat_of_zero_le w1.1
  obtain ⟨b, rfl⟩ := Int.eq_ofNat_of_zero_le w2.1
  have hv : val (a : Int) (b : Int) = a * 18446744073709551616 + b := by unfold val; omega
  have p : 2 ^ s = 2 ^ (s - 64) * 18446744073709551616 := by
    rw [show (18446744073709551616 : Nat) = 2 ^ 64 by decide, ← Nat.pow_add, show s - 64 + 64 = s by omega]
  have e : (a * 18446744073709551616 + b) * 2 ^ s = a * 2 ^ (s - 64) * 340282366920938463463374607431768211456 + b * 2 ^ (s - 64) * 18446744073709551616 := by
    rw [p, Nat.add_mul]
    have x1 : a * 18446744073709551616 * (2 ^ (s - 64) * 18446744073709551616) = a * 2 ^ (s - 64) * 340282366920938463463374607431768211456 := by
      generalize 2 ^ (s - 64) = q
      rw [Nat.mul_mul_mul_comm]
    have x2 : b * (2 ^ (s - 64) * 18446744073709551616) = b * 2 ^ (s - 64) * 18446744073709551616 := by rw [Nat.mul_assoc]
    rw [x1, x2]
  have c2 : IntKind.u64.wrap ((b : Int) * 2 ^ (s - 64)) = ((b * 2 ^ (s - 64) % 18446744073709551616 : Nat) : Int) := by rw [pow_cast, ← Int.natCast_mul, IntKind.wrap_u64]; omega
  rw [hv, e, c2]
  unfold hiW loW
  generalize a * 2 ^ (s - 64) = x
  generalize b * 2 ^ (s - 64) = y
  constructor <;> omega
/-- A shift up by s, from 128 on: nothing is left. -/
theorem shl_none (v s : Nat) (h1 : 128 ≤ s) : v * 2 ^ s % 340282366920938463463374607431768211456 = 0 := by
  have p : 2 ^ s = 2 ^ (s - 128) * 340282366920938463463374607431768211456 := by
    rw [show (340282366920938463463374607431768211456 : Nat) = 2 ^ 128 by decide, ← Nat.pow_add, show s - 128 + 128 = s by omega]
  rw [p, ← Nat.mul_assoc, Nat.mul_mod_left]
/-- A shift down by s, up to 64: the words. -/
theorem shr_words {h l : Int} (w1 : Word h) (w2 : Word l) (s : Nat) (h1 : s ≤ 64) :
    h / 2 ^ s = hiW (val h l / 2 ^ s) ∧ bits .or .u64 (l / 2 ^ s) (IntKind.u64.wrap (h * 2 ^ (64 - s))) = loW (val h l / 2 ^ s) := by
  obtain ⟨a, rfl⟩ := Int.eq_ofNat_of_zero_le w1.1
  obtain ⟨b, rfl⟩ := Int.eq_ofNat_of_zero_le w2.1
  have w22 := w2.2
  have hv : val (a : Int) (b : Int) = a * 18446744073709551616 + b := by unfold val; omega
  have p2 : 2 ^ (64 - s) * 2 ^ s = 18446744073709551616 := by rw [← Nat.pow_add, show 64 - s + s = 64 by omega]
  have s0 : 0 < 2 ^ s := Nat.pow_pos (by omega)
  have e : (a * 18446744073709551616 + b) / 2 ^ s = a * 2 ^ (64 - s) + b / 2 ^ s := by
    rw [← p2, ← Nat.mul_assoc, Nat.add_comm, Nat.add_mul_div_right _ _ s0, Nat.add_comm]
  have l5 : b / 2 ^ s < 2 ^ (64 - s) := by rw [Nat.div_lt_iff_lt_mul s0, p2]; omega
  have c1 : ((a : Int) / 2 ^ s) = ((a / 2 ^ s : Nat) : Int) := by rw [pow_cast, ← Int.natCast_ediv]
  have c2 : IntKind.u64.wrap ((a : Int) * 2 ^ (64 - s)) = ((a * 2 ^ (64 - s) % 18446744073709551616 : Nat) : Int) := by rw [pow_cast, ← Int.natCast_mul, IntKind.wrap_u64]; omega
  have c3 : ((b : Int) / 2 ^ s) = ((b / 2 ^ s : Nat) : Int) := by rw [pow_cast, ← Int.natCast_ediv]
  have l3 : b / 2 ^ s < 18446744073709551616 := Nat.lt_of_le_of_lt (Nat.div_le_self _ _) (by omega)
  constructor
  · rw [c1, hv]
    unfold hiW
    rw [Nat.div_div_eq_div_mul, Nat.mul_comm (2 ^ s), ← Nat.div_div_eq_div_mul, show (a * 18446744073709551616 + b) / 18446744073709551616 = a by omega]
  · have o := shl_or a (b / 2 ^ s) (64 - s) (by omega) l5
    rw [c2, c3, bits_or_u64_nat _ _ l3 (Nat.mod_lt _ (by omega)), Nat.or_comm, o, ← e, hv]
    rfl
/-- A shift down by s, from 64 on: the words. -/
theorem shr_words64 {h l : Int} (w1 : Word h) (w2 : Word l) (s : Nat) (h1 : 64 ≤ s) :
    0 = hiW (val h l / 2 ^ s) ∧ h / 2 ^ (s - 64) = loW (val h l / 2 ^ s) := by
  obtain ⟨a, rfl⟩ := Int.eq_ofNat_of_zero_le w1.1
  obtain ⟨b, rfl⟩ := Int.eq_ofNat_of_zero_le w2.1
  have w12 := w1.2
  have w22 := w2.2
  have hv : val (a : Int) (b : Int) = a * 18446744073709551616 + b := by unfold val; omega
  have p : 2 ^ s = 18446744073709551616 * 2 ^ (s - 64) := by
    rw [show (18446744073709551616 : Nat) = 2 ^ 64 by decide, ← Nat.pow_add, show 64 + (s - 64) = s by omega]
  have e : (a * 18446744073709551616 + b) / 2 ^ s = a / 2 ^ (s - 64) := by
    rw [p, ← Nat.div_div_eq_div_mul, show (a * 18446744073709551616 + b) / 18446744073709551616 = a by omega]
  have l3 : a / 2 ^ (s - 64) < 18446744073709551616 := Nat.lt_of_le_of_lt (Nat.div_le_self _ _) (by omega)
  have c1 : ((a : Int) / 2 ^ (s - 64)) = ((a / 2 ^ (s - 64) : Nat) : Int) := by rw [pow_cast, ← Int.natCast_ediv]
  rw [hv, e, c1]
  unfold hiW loW
  generalize a / 2 ^ (s - 64) = x at *
  constructor <;> omega
/-- A shift down by s, from 128 on: nothing is left. -/
theorem shr_none {v : Nat} (hv : v < 340282366920938463463374607431768211456) (s : Nat) (h1 : 128 ≤ s) : v / 2 ^ s = 0 ∧ v % 2 ^ s = v := by
  have p : 2 ^ 128 ≤ 2 ^ s := Nat.pow_le_pow_right (by omega) h1
  have q : v < 2 ^ s := Nat.lt_of_lt_of_le hv p
  exact ⟨Nat.div_eq_of_lt q, Nat.mod_eq_of_lt q⟩
/-- A number shifted up and down by every distance; whether anything is cut. -/
def shl (v : Nat) (n : Int) : Nat := v * 2 ^ n.toNat % 340282366920938463463374607431768211456
def shr (v : Nat) (n : Int) : Nat := v / 2 ^ n.toNat
def cutB (v : Nat) (n : Int) : Bool := decide (v % 2 ^ n.toNat ≠ 0)
/-- A slice of n words that lie at the block b from the place o on. -/
structure Sl (w : World) (ao : Option Addr) (n c : Nat) (b o : Nat) (f : Nat → Nat) : Prop where
  le : n ≤ c
  cap : c ≤ maxLen
  addr : 0 < n → ao = some ⟨b, o, none⟩
  blk : 0 < n → b < w.heap.size
  cell : ∀ i, i < n → w.cell? ⟨b, o + i, none⟩ = some (.int .u64 (f i : Int))
  ws : Ws f
theorem Sl.below {w w' : World} {ao : Option Addr} {n c b o : Nat} {f : Nat → Nat} (S : Sl w ao n c b o f) (hb : Below w.heap.size w w') : Sl w' ao n c b o f :=
  ⟨S.le, S.cap, S.addr, fun h => Nat.lt_of_lt_of_le (S.blk h) hb.size, fun i hi => (hb.cell (p := ⟨b, o + i, none⟩) (S.blk (by omega))).trans (S.cell i hi), S.ws⟩
/-- The error of a number: 0: none. -/
def errV : Nat → Value
  | 0 => .nilIface
  | k + 1 => .iface 53 (.int .i64 ((k + 1 : Nat) : Int))
def verr (f : Nat → Nat) (n : Nat) : Nat := if 128 < n then 20 else if 0 < n ∧ f (n - 1) = 0 then 1 else 0
theorem verr_ok {f : Nat → Nat} {n : Nat} (h : n ≤ 128) (t : Top f n) : verr f n = 0 := by
  unfold verr
  rw [if_neg (by omega), if_neg]
  rintro ⟨a, b⟩
  rcases t with t | t
  · omega
  · exact t b
set_option maxHeartbeats 400000 in
theorem valid_any {w : World} {ao : Option Addr} {n c b o : Nat} {f : Nat → Nat} (S : Sl w ao n c b o f) :
    Calls Tryd.prog 55 #[.slice ao n c] w fun e w' => e = .returned (errV (verr f n)) ∧ Below w.heap.size w w' := by
  have hn : n ≤ maxLen := Nat.le_trans S.le S.cap
  unfold maxLen at hn
  by_cases c1 : 128 < n
  · have e : errV (verr f n) = .iface 53 (.int .i64 20) := by unfold verr; rw [if_pos c1]; rfl
    rw [e]
    clear e
    have c1' : (128 : Int) < (n : Int) := by omega
    go_enter Tryd.func55, Tryd.ntmps55
    go_wp2
    go_ret
    exact ⟨rfl, Below.refl _ _⟩
  · by_cases c2 : 0 < n
    · obtain rfl := S.addr c2
      have hc := S.cell (n - 1) (by omega)
      by_cases c3 : f (n - 1) = 0
      · have e : errV (verr f n) = .iface 53 (.int .i64 1) := by unfold verr; rw [if_neg c1, if_pos ⟨c2, c3⟩]; rfl
        rw [e]
        rw [c3] at hc
        clear e
        go_enter Tryd.func55, Tryd.ntmps55
        go_wp2
        go_ret
        exact ⟨rfl, Below.refl _ _⟩
      · have e : errV (verr f n) = .nilIface := by unfold verr; rw [if_neg c1, if_neg (fun x => c3 x.2)]; rfl
        rw [e]
        clear e
        have c3' : (((f (n - 1) : Nat) : Int) == 0) = false := beq_eq_false_iff_ne.mpr (by omega)
        go_enter Tryd.func55, Tryd.ntmps55
        go_wp2
        go_ret
        exact ⟨rfl, Below.refl _ _⟩
    · have e : errV (verr f n) = .nilIface := by unfold verr; rw [if_neg c1, if_neg (fun x => c2 x.1)]; rfl
      rw [e]
      clear e
      obtain rfl : n = 0 := by omega
      go_enter Tryd.func55, Tryd.ntmps55
      go_wp2
      go_ret
      exact ⟨rfl, Below.refl _ _⟩
/-- The error of two numbers: of the first one, then of the second one. -/
def verr2 (f : Nat → Nat) (n : Nat) (g : Nat → Nat) (m : Nat) : Nat := if verr f n = 0 then verr g m else verr f n
theorem verr2_ok {f g : Nat → Nat} {n m : Nat} (h : n ≤ 128) (t : Top f n) (h' : m ≤ 128) (t' : Top g m) : verr2 f n g m = 0 := by
  unfold verr2; rw [if_pos (verr_ok h t), verr_ok h' t']
set_option maxHeartbeats 400000 in
theorem both_any {w : World} {ao : Option Addr} {n c b o : Nat} {f : Nat → Nat} (S : Sl w ao n c b o f) {ao' : Option Addr} {n' c' b' o' : Nat} {f' : Nat → Nat} (S' : Sl w ao' n' c' b' o' f') :
    Calls Tryd.prog 59 #[.slice ao n c, .slice ao' n' c'] w fun e w' => e = .returned (errV (verr2 f n f' n')) ∧ Below w.heap.size w w' := by
  have h1 := valid_any S
  cases q : verr f n with
  | zero =>
    rw [q] at h1
    have e : verr2 f n f' n' = verr f' n' := by unfold verr2; rw [if_pos q]
    rw [e]
    clear q e
    go_enter Tryd.func59, Tryd.ntmps59
    go_wp2_with fail
    refine h1.mono ?_
    rintro e wa ⟨rfl, hba⟩
    unfold errV
    have S2 := S'.below hba
    go_wp2_with fail
    refine (valid_any S2).mono ?_
    rintro e wb ⟨rfl, hbb⟩
    go_wp2
    go_ret
    exact ⟨rfl, hba.trans (hbb.mono hba.size)⟩
  | succ k =>
    rw [q] at h1
    have e : verr2 f n f' n' = k + 1 := by unfold verr2; rw [if_neg (by omega), q]
    rw [e]
    clear q e
    go_enter Tryd.func59, Tryd.ntmps59
    go_wp2_with fail
    refine h1.mono ?_
    rintro e wa ⟨rfl, hba⟩
    unfold errV
    go_wp2
    go_ret
    exact ⟨rfl, hba⟩
set_option maxHeartbeats 1000000 in
theorem trim_any {w : World} {ao : Option Addr} {n c b o : Nat} {f : Nat → Nat} (S : Sl w ao n c b o f) :
    Calls Tryd.prog 57 #[.slice ao n c] w fun e w' => e = .returned (.slice ao (tl f n) (tl f n)) ∧ w' = w := by
  have hn : n ≤ maxLen := Nat.le_trans S.le S.cap
  have hnc := S.le
  unfold maxLen at hn
  have HS : Hid (Sl w ao n c b o f) := S
  clear S
  go_enter Tryd.func57, Tryd.ntmps57
  go_wp2
  go_loop [3] (fun i => ∃ k : Nat, i = .int .i64 k ∧ k ≤ n ∧ tl f n = tl f k) (fun i => (intOf i).toNat)
  case atStart => exact ⟨n, rfl, Nat.le_refl _, rfl⟩
  case round =>
    obtain ⟨k, rfl, hk, htl⟩ := hrel
    have HT : Hid (tl f n = tl f k) := htl
    clear htl
    by_cases c1 : 0 < k
    · obtain rfl := HS.out.addr (by omega)
      have hc := HS.out.cell (k - 1) (by omega)
      by_cases c3 : f (k - 1) = 0
      · rw [c3] at hc
        have HT2 : Hid (tl f n = tl f (k - 1)) := by
          have a := tl_zero (f := f) (n := k - 1) c3
          rw [show k - 1 + 1 = k by omega] at a
          exact HT.out.trans a
        clear c3
        go_wp2
        go_round
        case rel => exact ⟨k - 1, by go_num, by omega, HT2.out⟩
        case measure => simp [intOf]; omega
      · have c3' : (((f (k - 1) : Nat) : Int) == 0) = false := beq_eq_false_iff_ne.mpr (by omega)
        have HT2 : Hid (tl f n = k) := by
          have a := tl_stop (f := f) (n := k - 1) c3
          rw [show k - 1 + 1 = k by omega] at a
          exact HT.out.trans a
        clear c3
        go_wp2
        go_ret
        exact ⟨by rw [HT2.out]; rfl, rfl⟩
    · obtain rfl : k = 0 := by omega
      have HT2 : Hid (tl f n = 0) := HT.out
      clear HT c1
      cases ao with
      | none =>
        go_wp2
        go_ret
        exact ⟨by rw [HT2.out]; rfl, rfl⟩
      | some a =>
        go_wp2
        go_ret
        exact ⟨by rw [HT2.out]; rfl, rfl⟩
set_option maxHeartbeats 400000 in
theorem fit_ok {w : World} {ao : Option Addr} {n c b o : Nat} {f : Nat → Nat} (S : Sl w ao n c b o f) (h : tl f n ≤ 128) :
    Calls Tryd.prog 74 #[.slice ao n c] w fun e w' => e = .returned (.tuple #[.slice ao (tl f n) (tl f n), .nilIface]) ∧ w' = w := by
  generalize hm : tl f n = m at *
  have h1 := trim_any S
  rw [hm] at h1
  clear hm
  go_enter Tryd.func74, Tryd.ntmps74
  go_wp2_with fail
  refine h1.mono ?_
  rintro e wa ⟨rfl, rfl⟩
  go_wp2
  refine bodyPost_ret (v := .tuple #[.slice ao m m, .nilIface]) (by simp [results, Tryd.results74, go_sem]) rfl ⟨rfl, rfl⟩
theorem maskN (a : Nat) (ha : a < 18446744073709551616) : bits .and .u64 (a : Int) 4294967295 = ((a % 4294967296 : Nat) : Int) := by
  have h := bits_and_u64_nat a 4294967295 ha (by omega)
  have e : a &&& 4294967295 = a % 4294967296 := Nat.and_two_pow_sub_one_eq_mod a 32
  rw [e] at h
  exact h
theorem divN (a : Nat) : (a : Int) / 4294967296 = ((a / 4294967296 : Nat) : Int) := by omega
theorem mulN (a b : Nat) : (a : Int) * (b : Int) = ((a * b : Nat) : Int) := (Int.natCast_mul a b).symm
theorem addN (a b : Nat) : (a : Int) + (b : Int) = ((a + b : Nat) : Int) := (Int.natCast_add a b).symm
theorem wrapN (a : Nat) (ha : a < 18446744073709551616) : IntKind.u64.wrap (a : Int) = (a : Int) := by rw [IntKind.wrap_u64]; omega
theorem wrapM (a : Nat) : IntKind.u64.wrap (a : Int) = ((a % 18446744073709551616 : Nat) : Int) := by rw [IntKind.wrap_u64]; omega
theorem ret_two {x x' y y' : Int} (hx : x = x') (hy : y = y') : Ending.returned (.tuple #[.int .u64 x, .int .u64 y]) = .returned (.tuple #[.int .u64 x', .int .u64 y']) := by rw [hx, hy]
set_option maxHeartbeats 1000000 in
theorem mul64_any (a b : Int) (h1 : Word a) (h2 : Word b) (w : World) :
    Calls Tryd.prog 79 #[.int .u64 a, .int .u64 b] w fun e w' => e = .returned (.tuple #[.int .u64 (mHi a b), .int .u64 (mLo a b)]) ∧ w' = w := by
  obtain ⟨x, rfl⟩ := Int.eq_ofNat_of_zero_le h1.1
  obtain ⟨y, rfl⟩ := Int.eq_ofNat_of_zero_le h2.1
  have hx : x < 18446744073709551616 := by have := h1.2; omega
  have hy : y < 18446744073709551616 := by have := h2.2; omega
  clear h1 h2
  obtain ⟨bd, bt, bw, hhi⟩ := Lib.mul64_hi x y hx hy
  have ba := Lib.half_mul_le (a := x / 4294967296) (b := y / 4294967296) (by omega) (by omega)
  have bb := Lib.half_mul_le (a := x / 4294967296) (b := y % 4294967296) (by omega) (by omega)
  have bc := Lib.half_mul_le (a := x % 4294967296) (b := y / 4294967296) (by omega) (by omega)
  have ba' : x / 4294967296 * (y / 4294967296) < 18446744073709551616 := by omega
  have bb' : x / 4294967296 * (y % 4294967296) < 18446744073709551616 := by omega
  have bc' : x % 4294967296 * (y / 4294967296) < 18446744073709551616 := by omega
  have bh1 : x / 4294967296 * (y / 4294967296) + (x / 4294967296 * (y % 4294967296) + x % 4294967296 * (y % 4294967296) / 4294967296) / 4294967296 < 18446744073709551616 := by omega
  have bh : x / 4294967296 * (y / 4294967296) + (x / 4294967296 * (y % 4294967296) + x % 4294967296 * (y % 4294967296) / 4294967296) / 4294967296 + ((x / 4294967296 * (y % 4294967296) + x % 4294967296 * (y % 4294967296) / 4294967296) % 4294967296 + x % 4294967296 * (y / 4294967296)) / 4294967296 < 18446744073709551616 := by omega
  go_enter Tryd.func79, Tryd.ntmps79
  go_wp2
  simp only [maskN x hx, maskN y hy, divN, mulN, addN, wrapN _ bd, wrapN _ bb', wrapN _ bt, maskN _ bt, wrapN _ bc', wrapN _ bw, wrapN _ ba', wrapN _ bh1, wrapN _ bh, wrapM (x * y)]
  rw [hhi]
  go_ret2
  exact ⟨ret_two (by unfold mHi; rw [mulN]; omega) (by unfold mLo; rw [mulN]; omega), rfl⟩
set_option maxHeartbeats 400000 in
theorem wmul_any (a b : Int) (h1 : Word a) (h2 : Word b) (w : World) :
    Calls Tryd.prog 63 #[.int .u64 a, .int .u64 b] w fun e w' => e = .returned (.agg #[.int .u64 (mHi a b), .int .u64 (mLo a b)]) ∧ Below w.heap.size w w' := by
  go_enter Tryd.func63, Tryd.ntmps63
  go_wp2_with (go_at_call 79; refine (mul64_any a b h1 h2 _).mono ?_; rintro e w' ⟨rfl, rfl⟩)
  exact bodyPost_ret (v := .agg #[.int .u64 (mHi a b), .int .u64 (mLo a b)]) (by simp [results, Tryd.results63, go_sem]) rfl ⟨rfl, (Below.refl _ _).alloc (Nat.le_refl _) _⟩
theorem ret_wn {x x' y y' z z' : Int} (hx : x = x') (hy : y = y') (hz : z = z') :
    Ending.returned (.tuple #[.int .u64 x, .agg #[.int .u64 y, .int .u64 z]]) = .returned (.tuple #[.int .u64 x', .agg #[.int .u64 y', .int .u64 z']]) := by rw [hx, hy, hz]
set_option maxHeartbeats 1000000 in
theorem wmulw_any (h l b : Int) (h1 : Word h) (h2 : Word l) (h3 : Word b) (w : World) :
    Calls Tryd.prog 41 #[.agg #[.int .u64 h, .int .u64 l], .int .u64 b] w fun e w' => e = .returned (.tuple #[.int .u64 (m3Top h l b), .agg #[.int .u64 (m3Mid h l b), .int .u64 (mLo l b)]]) ∧ Below w.heap.size w w' := by
  have k1 := mHi_isWord h2 h3
  have k2 := mLo_word h b
  go_enter Tryd.func41, Tryd.ntmps41
  go_wp2_with (first
    | (go_at_call_of 63 (Value.int .u64 l); refine (wmul_any l b h2 h3 _).mono ?_; rintro e wa ⟨rfl, hba⟩; obtain ⟨hca, hfa⟩ := bcell hba; have hza := hba.size; simp at hca hfa hza; have q0 : w.heap.size < wa.heap.size := (by omega); have q1 : w.heap.size + 1 < wa.heap.size := (by omega))
    | (go_at_call_of 63 (Value.int .u64 h); refine (wmul_any h b h1 h3 _).mono ?_; rintro e wb ⟨rfl, hbb⟩; obtain ⟨hcb, hfb⟩ := bcell hbb; have hzb := hbb.size; simp at hcb hfb hzb; have q2 : w.heap.size < wb.heap.size := (by omega); have q3 : w.heap.size + 1 < wb.heap.size := (by omega); have q4 : wa.heap.size < wb.heap.size := (by omega))
    | simp only [add64 _ _ 0 k2 k1 (Int.le_refl 0) (by omega : (0:Int) ≤ 1)])
  go_region
  all_goals
    go_wp2
    have c0 : wb.cell? ⟨w.heap.size + 1, 0, none⟩ = some (.int .u64 0) := by rw [hcb _ _ (by omega), World.cell?_alloc_past _ _ _ q1, hca _ _ (by omega)]; simp
    have c1 : wb.cell? ⟨w.heap.size + 1, 1, none⟩ = some (.int .u64 0) := by rw [hcb _ _ (by omega), World.cell?_alloc_past _ _ _ q1, hca _ _ (by omega)]; simp
    have b1 : Below w.heap.size w wb := (((((Below.refl _ _).alloc (Nat.le_refl _) _).alloc (by simp) _).trans (hba.mono (by simp; omega))).alloc (by omega) _).trans (hbb.mono (by simp; omega))
    refine bodyPost_ret (v := _) (by simp [results, Tryd.results41, go_sem, c0, c1, q3]; rfl) rfl ⟨?_, (((b1.setCell (by simp) _).setCell (by simp) _).alloc (by simp [World.setCell]; omega) _).drew⟩
    apply ret_wn
    · have e1 := m3Top_word h1 h2 h3
      unfold m3Top Word at *
      rw [IntKind.wrap_u64]; omega
    · rfl
    · rfl
/-- A row of N words that fills the block g. -/
structure Row (w : World) (g N : Nat) (F : Nat → Nat) : Prop where
  row : w.rowIs g 22 N (fun i => .int .u64 (F i : Int))
  ws : Ws F
theorem Row.set {w : World} {g N : Nat} {F : Nat → Nat} (R : Row w g N F) (i : Nat) {r : Nat} (hr : r < B) : Row (w.setCell ⟨g, i, none⟩ (.int .u64 (r : Int))) g N (put F i r) := by
  refine ⟨(R.row.set i (.int .u64 (r : Int))).congr fun j hj => ?_, put_Ws R.ws hr⟩
  unfold put
  by_cases c : j = i
  · rw [if_pos c, if_pos c]
  · rw [if_neg c, if_neg c]
theorem Row.drew {w : World} {g N : Nat} {F : Nat → Nat} (R : Row w g N F) : Row w.drew g N F := ⟨R.row.drew, R.ws⟩
theorem Row.kept {w w' : World} {g g' N : Nat} {F : Nat → Nat} (R : Row w g N F) (h : w.grownBy w' (some g')) (hne : g ≠ g') : Row w' g N F :=
  ⟨R.row.of_block (h.block g R.row.lt (fun e => hne (Option.some.inj e))), R.ws⟩
theorem Row.below {w w' : World} {g N : Nat} {F : Nat → Nat} (R : Row w g N F) (h : Below w.heap.size w w') : Row w' g N F :=
  ⟨R.row.of_block (h.block g R.row.lt), R.ws⟩
theorem Row.sl {w : World} {g N : Nat} {F : Nat → Nat} (R : Row w g N F) {o n c : Nat} (h : o + n ≤ N) (hc : n ≤ c) (hm : c ≤ maxLen) : Sl w (some ⟨g, o, none⟩) n c g o (fun i => F (o + i)) :=
  ⟨hc, hm, fun _ => rfl, fun _ => R.row.lt, fun i hi => R.row.cell (by omega), fun i => R.ws _⟩
theorem Sl.kept {w w' : World} {ao : Option Addr} {n c b o g : Nat} {f : Nat → Nat} (S : Sl w ao n c b o f) (h : w.grownBy w' (some g)) (hne : 0 < n → b ≠ g) : Sl w' ao n c b o f :=
  ⟨S.le, S.cap, S.addr, fun q => Nat.lt_of_lt_of_le (S.blk q) h.size, fun i hi => by
    rw [World.cell?_of_block (w := w) (h.block b (S.blk (by omega)) (fun e => hne (by omega) (Option.some.inj e)))]; exact S.cell i hi, S.ws⟩
theorem grown_set {w wr : World} {g i : Nat} (h : w.grownBy wr (some g)) (v : Value) : w.grownBy (wr.setCell ⟨g, i, none⟩ v) (some g) :=
  ⟨h.os, h.tape, h.output, by rw [World.size_setCell]; exact h.size, fun k hk hne => (Below.heap_setCell _ _ _ _ (fun e => hne (by rw [e]))).trans (h.block k hk hne)⟩
theorem grown_drew {w wr : World} {row : Option Nat} (h : w.grownBy wr row) : w.grownBy wr.drew row := ⟨h.os, h.tape, h.output, h.size, h.block⟩
theorem grown_trans {a b c : World} {row : Option Nat} (h : a.grownBy b row) (k : b.grownBy c row) : a.grownBy c row :=
  ⟨k.os.trans h.os, k.tape.trans h.tape, k.output.trans h.output, Nat.le_trans h.size k.size, fun i hi hne => (k.block i (Nat.lt_of_lt_of_le hi h.size) hne).trans (h.block i hi hne)⟩
theorem add64N (x y c : Nat) (hx : x < B) (hy : y < B) (hc : c ≤ 1) (w : World) :
    (callFunc 40 #[.int .u64 (x : Int), .int .u64 (y : Int), .int .u64 (c : Int)]).run Tryd.prog w = .ok (.value (.tuple #[.int .u64 (((x + y + c) % B : Nat) : Int), .int .u64 (((x + y + c) / B : Nat) : Int)])) w := by
  unfold B at *
  rw [add64 x y c ⟨by omega, by omega⟩ ⟨by omega, by omega⟩ (by omega) (by omega)]
  unfold a3Lo a3C
  rfl
/-- One word of a difference, and what is borrowed. -/
def dW (x y c : Nat) : Nat := (x + B - y - c) % B
def dC (x y c : Nat) : Nat := if x < y + c then 1 else 0
theorem dW_lt (x y c : Nat) : dW x y c < B := Nat.mod_lt _ B_pos
theorem dC_le (x y c : Nat) : dC x y c ≤ 1 := by unfold dC; split <;> omega
theorem dW_eq {x y c : Nat} (hx : x < B) (hy : y < B) (hc : c ≤ 1) : dW x y c + y + c = x + dC x y c * B := by
  unfold dW dC B at *; split <;> omega
theorem sub64N (x y c : Nat) (hx : x < B) (hy : y < B) (hc : c ≤ 1) (w : World) :
    (callFunc 88 #[.int .u64 (x : Int), .int .u64 (y : Int), .int .u64 (c : Int)]).run Tryd.prog w = .ok (.value (.tuple #[.int .u64 ((dW x y c : Nat) : Int), .int .u64 ((dC x y c : Nat) : Int)])) w := by
  unfold dW dC B at *
  rw [sub64 x y c ⟨by omega, by omega⟩ ⟨by omega, by omega⟩ (by omega) (by omega)]
  have e1 : s3Lo (x : Int) y c = (((x + 18446744073709551616 - y - c) % 18446744073709551616 : Nat) : Int) := by unfold s3Lo; omega
  have e2 : s3B (x : Int) y c = ((if x < y + c then 1 else 0 : Nat) : Int) := by unfold s3B; split <;> split <;> omega
  rw [e1, e2]
/-- What is the same above the place k adds nothing to what parts two numbers. -/
theorem V_tail {f g : Nat → Nat} {k n a b : Nat} (hk : k ≤ n) (h : V f k + a = V g k + b) (e : ∀ i, k ≤ i → i < n → f i = g i) : V f n + a = V g n + b := by
  have n1 : n = k + (n - k) := by omega
  have s1 := V_split f k (n - k)
  have s2 := V_split g k (n - k)
  have c : V (fun i => f (k + i)) (n - k) = V (fun i => g (k + i)) (n - k) := V_congr fun i hi => e (k + i) (by omega) (by omega)
  rw [← n1] at s1 s2
  rw [s1, s2, c]
  omega
set_option maxHeartbeats 2000000 in
theorem decrease_any {w : World} {g N o n c : Nat} {F : Nat → Nat} (R : Row w g N F) (hoN : o + n ≤ N) (hnc : n ≤ c) (hcm : c ≤ maxLen)
    {bo : Option Addr} {m cb bb ob : Nat} {G : Nat → Nat} (S : Sl w bo m cb bb ob G) (hne : 0 < m → bb ≠ g) (hmn : m ≤ n) (hfit : V G m ≤ V (fun i => F (o + i)) n) :
    Calls Tryd.prog 77 #[.slice (some ⟨g, o, none⟩) n c, .slice bo m cb] w fun e w' => e = .returned (.tuple #[]) ∧ w.grownBy w' (some g) ∧
      ∃ F', Row w' g N F' ∧ (∀ i, i < o ∨ o + n ≤ i → F' i = F i) ∧ V (fun i => F' (o + i)) n + V G m = V (fun i => F (o + i)) n := by
  have hm : m ≤ maxLen := Nat.le_trans S.le S.cap
  unfold maxLen at hm hcm
  go_enter Tryd.func77, Tryd.ntmps77
  go_wp2
  have HS : Hid (Sl w bo m cb bb ob G) := S
  have HN : Hid (0 < m → bb ≠ g) := hne
  have HFIT : Hid (V G m ≤ V (fun i => F (o + i)) n) := hfit
  clear S hne hfit
  go_loopw [4, 9] (fun cy i wr => ∃ (k x : Nat) (F' : Nat → Nat), cy = .int .u64 (x : Int) ∧ i = .int .i64 (k : Int) ∧ k ≤ m ∧ x ≤ 1 ∧ Row wr g N F' ∧ w.grownBy wr (some g) ∧ (∀ i, i < o ∨ o + k ≤ i → F' i = F i) ∧ V (fun i => F' (o + i)) k + V G k = V (fun i => F (o + i)) k + x * B ^ k) (fun _ i _ => m - (intOf i).toNat)
  case atStart => exact ⟨0, 0, F, rfl, rfl, Nat.zero_le _, by omega, R, World.grownBy.refl _ _, fun i _ => rfl, by simp [V]⟩
  case round =>
    obtain ⟨k, x, F', rfl, rfl, hk, hx, R', hgr, hfr, hv⟩ := hrel
    have HF : Hid (∀ i, i < o ∨ o + k ≤ i → F' i = F i) := hfr
    have HV : Hid (V (fun i => F' (o + i)) k + V G k = V (fun i => F (o + i)) k + x * B ^ k) := hv
    have HR : Hid (Row wr g N F') := R'
    have HG : Hid (w.grownBy wr (some g)) := hgr
    clear hfr hv
    by_cases c1 : k < m
    · obtain rfl := HS.out.addr (by omega)
      have hb := HS.out.blk (by omega)
      have cb0 := HS.out.cell k c1
      have ne := HN.out (by omega)
      have cb1 : wr.cell? ⟨bb, ob + k, none⟩ = some (.int .u64 (G k : Int)) := by
        rw [World.cell?_of_block (w := w) (hgr.block bb hb (by intro e; exact ne (Option.some.inj e)))]; exact cb0
      have cz := R'.row.cell (i := o + k) (by omega)
      have fz := R'.row.frozen (o + k)
      have ad := fun W => sub64N (F' (o + k)) (G k) x (R'.ws _) (HS.out.ws _) hx W
      have hr : dW (F' (o + k)) (G k) x < B := dW_lt _ _ _
      have hq : dC (F' (o + k)) (G k) x ≤ 1 := dC_le _ _ _
      have st := sub_step HV.out (dW_eq (R'.ws _) (HS.out.ws _) hx : dW (F' (o + k)) (G k) x + G k + x = F' (o + k) + dC (F' (o + k)) (G k) x * B)
      have hF : F' (o + k) = F (o + k) := HF.out _ (Or.inr (by omega))
      have HFK : Hid (F' (o + k) = F (o + k)) := hF
      clear R' hgr cb0 hF
      generalize dW (F' (o + k)) (G k) x = r at *
      generalize dC (F' (o + k)) (G k) x = q at *
      have HST := (show Hid _ from st)
      clear st
      go_wp2
      go_region
      all_goals
        go_wp2
        go_roundw
        case rel =>
          refine ⟨k + 1, q, put F' (o + k) r, rfl, by go_num, by omega, hq, (HR.out.set (o + k) hr).drew, grown_drew (grown_set HG.out _), ?_, ?_⟩
          · intro i hi
            rw [put_ne (by omega)]
            exact HF.out i (by omega)
          · have e : V (fun i => put F' (o + k) r (o + i)) (k + 1) = V (fun i => F' (o + i)) k + r * B ^ k := by
              rw [V_succ, V_congr (f := fun i => put F' (o + k) r (o + i)) (g := fun i => F' (o + i)) (fun i hi => put_ne (by omega)), put_at]
            rw [e, V_succ (fun i => F (o + i)), V_succ G, Nat.pow_succ]
            have s := HST.out
            rw [HFK.out] at s
            exact s
        case measure => simp [intOf]; omega
    · obtain rfl : k = m := by omega
      clear R' hgr c1 hk
      go_wp2
      go_loopw [4, 6] (fun cy i wr => ∃ (k2 x : Nat) (F' : Nat → Nat), cy = .int .u64 (x : Int) ∧ i = .int .i64 (k2 : Int) ∧ k2 ≤ n ∧ x ≤ 1 ∧ Row wr g N F' ∧ w.grownBy wr (some g) ∧ (∀ i, i < o ∨ o + k2 ≤ i → F' i = F i) ∧ V (fun i => F' (o + i)) k2 + V G k = V (fun i => F (o + i)) k2 + x * B ^ k2) (fun _ i _ => n - (intOf i).toNat)
      case atStart => exact ⟨k, x, F', rfl, rfl, hmn, hx, HR.out, HG.out, HF.out, HV.out⟩
      case round =>
        clear HF HV HR HG hx
        obtain ⟨k2, x, F', rfl, rfl, hk, hx, R', hgr, hfr, hv⟩ := hrel
        have HF : Hid (∀ i, i < o ∨ o + k2 ≤ i → F' i = F i) := hfr
        have HV : Hid (V (fun i => F' (o + i)) k2 + V G k = V (fun i => F (o + i)) k2 + x * B ^ k2) := hv
        have HR : Hid (Row wr g N F') := R'
        have HG : Hid (w.grownBy wr (some g)) := hgr
        clear hfr hv
        by_cases c1 : x = 0
        · subst c1
          clear R' hgr
          go_wp2
          refine bodyPost_end (v := .tuple #[]) (by simp [results, Tryd.results77, go_sem]) rfl ⟨rfl, HG.out, F', HR.out, fun i hi => HF.out i (by omega), ?_⟩
          have a := HV.out
          rw [Nat.zero_mul, Nat.add_zero] at a
          exact V_tail (b := 0) hk a (fun i p q => HF.out (o + i) (Or.inr (by omega)))
        · have hlt : k2 < n := by
            rcases Nat.lt_or_ge k2 n with z | z
            · exact z
            · exfalso
              obtain rfl : k2 = n := by omega
              obtain rfl : x = 1 := by omega
              have a := HV.out
              have b := HFIT.out
              have l1 := V_lt (f := fun i => F' (o + i)) (fun i => R'.ws _) k2
              rw [Nat.one_mul] at a
              omega
          have c1' : ((x : Int) == 0) = false := beq_eq_false_iff_ne.mpr (by omega)
          have cz := R'.row.cell (i := o + k2) (by omega)
          have fz := R'.row.frozen (o + k2)
          have ad : ∀ W, (callFunc 88 #[.int .u64 ((F' (o + k2) : Nat) : Int), .int .u64 0, .int .u64 (x : Int)]).run Tryd.prog W = .ok (.value (.tuple #[.int .u64 ((dW (F' (o + k2)) (0) x : Nat) : Int), .int .u64 ((dC (F' (o + k2)) (0) x : Nat) : Int)])) W := fun W => sub64N (F' (o + k2)) 0 x (R'.ws _) B_pos hx W
          have hr : dW (F' (o + k2)) (0) x < B := dW_lt _ _ _
          have hq : dC (F' (o + k2)) (0) x ≤ 1 := dC_le _ _ _
          have st := sub_step HV.out (dW_eq (R'.ws _) B_pos hx : dW (F' (o + k2)) (0) x + 0 + x = F' (o + k2) + dC (F' (o + k2)) (0) x * B)
          have hF : F' (o + k2) = F (o + k2) := HF.out _ (Or.inr (by omega))
          have HFK : Hid (F' (o + k2) = F (o + k2)) := hF
          clear R' hgr hF c1
          generalize dW (F' (o + k2)) (0) x = r at *
          generalize dC (F' (o + k2)) (0) x = q at *
          have HST := (show Hid _ from st)
          clear st
          go_wp2
          all_goals
            go_roundw
            case rel =>
              refine ⟨k2 + 1, q, put F' (o + k2) r, rfl, by go_num, by omega, hq, HR.out.set (o + k2) hr, grown_set HG.out _, ?_, ?_⟩
              · intro i hi
                rw [put_ne (by omega)]
                exact HF.out i (by omega)
              · have e : V (fun i => put F' (o + k2) r (o + i)) (k2 + 1) = V (fun i => F' (o + i)) k2 + r * B ^ k2 := by
                  rw [V_succ, V_congr (f := fun i => put F' (o + k2) r (o + i)) (g := fun i => F' (o + i)) (fun i hi => put_ne (by omega)), put_at]
                rw [e, V_succ (fun i => F (o + i)), Nat.pow_succ]
                have s := HST.out
                rw [HFK.out, Nat.zero_mul, Nat.add_zero] at s
                exact s
            case measure => simp [intOf]; omega
theorem mul64N (x y : Nat) (hx : x < B) (hy : y < B) (w : World) :
    Calls Tryd.prog 79 #[.int .u64 (x : Int), .int .u64 (y : Int)] w fun e w' => e = .returned (.tuple #[.int .u64 ((x * y / B : Nat) : Int), .int .u64 ((x * y % B : Nat) : Int)]) ∧ w' = w := by
  unfold B at *
  refine (mul64_any x y ⟨by omega, by omega⟩ ⟨by omega, by omega⟩ w).mono ?_
  rintro e w' ⟨rfl, rfl⟩
  unfold mHi mLo
  exact ⟨rfl, rfl⟩
/-- A product of two words and two words more: its two words, as they are reckoned. -/
theorem times_words {x y z v : Nat} (hx : x < B) (hy : y < B) (hz : z < B) (hv : v < B) :
    x * y / B + (x * y % B + z + 0) / B < B ∧ x * y / B + (x * y % B + z + 0) / B + ((x * y % B + z + 0) % B + v + 0) / B < B ∧
      ((x * y % B + z + 0) % B + v + 0) % B + (x * y / B + (x * y % B + z + 0) / B + ((x * y % B + z + 0) % B + v + 0) / B) * B = x * y + z + v := by
  have p : x * y ≤ 18446744073709551615 * 18446744073709551615 := Nat.mul_le_mul (by unfold B at hx; omega) (by unfold B at hy; omega)
  generalize x * y = P at *
  unfold B at *
  omega
theorem times_step {β v a b p x y z c l : Nat} (h : v + c * p = a + b * x) {d : Nat} (e : l + d * β = x * y + z + c) : v + l * p + d * (p * β) = a + z * p + (b + y * p) * x := by
  have : l * p + d * (p * β) = (x * y + z + c) * p := by rw [← e]; grind
  grind
set_option maxHeartbeats 2000000 in
theorem times_any {w : World} {g N o n c : Nat} {F : Nat → Nat} (R : Row w g N F) {zo : Option Addr}
    {bo : Option Addr} {m cb bb ob : Nat} {G : Nat → Nat} (S : Sl w bo m cb bb ob G) (hz : 0 < m → zo = some ⟨g, o, none⟩ ∧ bb ≠ g) (hoN : o + m ≤ N) (hmn : m ≤ n) (x : Nat) (hx : x < B) :
    Calls Tryd.prog 86 #[.slice zo n c, .slice bo m cb, .int .u64 (x : Int)] w fun e w' => ∃ (v : Nat) (F' : Nat → Nat), e = .returned (.int .u64 (v : Int)) ∧ v < B ∧ w.grownBy w' (some g) ∧
      Row w' g N F' ∧ (∀ i, i < o ∨ o + m ≤ i → F' i = F i) ∧ V (fun i => F' (o + i)) m + v * B ^ m = V (fun i => F (o + i)) m + V G m * x := by
  have hm : m ≤ maxLen := Nat.le_trans S.le S.cap
  unfold maxLen at hm
  have HS : Hid (Sl w bo m cb bb ob G) := S
  have HN : Hid (0 < m → zo = some ⟨g, o, none⟩ ∧ bb ≠ g) := hz
  have HW : Hid (x < B) := hx
  clear S hz hx
  go_enter Tryd.func86, Tryd.ntmps86
  go_wp2
  go_loopw [7, 15] (fun ov i wr => ∃ (k v : Nat) (F' : Nat → Nat), ov = .int .u64 (v : Int) ∧ i = .int .i64 (k : Int) ∧ k ≤ m ∧ v < B ∧ Row wr g N F' ∧ w.grownBy wr (some g) ∧ (∀ i, i < o ∨ o + k ≤ i → F' i = F i) ∧ V (fun i => F' (o + i)) k + v * B ^ k = V (fun i => F (o + i)) k + V G k * x) (fun _ i _ => m - (intOf i).toNat)
  case atStart => exact ⟨0, 0, F, rfl, rfl, Nat.zero_le _, B_pos, R, World.grownBy.refl _ _, fun i _ => rfl, by simp [V]⟩
  case round =>
    obtain ⟨k, v, F', rfl, rfl, hk, hv, R', hgr, hfr, hVV⟩ := hrel
    have HF : Hid (∀ i, i < o ∨ o + k ≤ i → F' i = F i) := hfr
    have HV : Hid (V (fun i => F' (o + i)) k + v * B ^ k = V (fun i => F (o + i)) k + V G k * x) := hVV
    have HR : Hid (Row wr g N F') := R'
    have HG : Hid (w.grownBy wr (some g)) := hgr
    have HB : Hid (v < B) := hv
    clear hfr hVV hv
    by_cases c1 : k < m
    · obtain ⟨rfl, ne⟩ := HN.out (by omega)
      obtain rfl := HS.out.addr (by omega)
      have hb := HS.out.blk (by omega)
      have cb0 := HS.out.cell k c1
      have cb1 : wr.cell? ⟨bb, ob + k, none⟩ = some (.int .u64 (G k : Int)) := by
        rw [World.cell?_of_block (w := w) (hgr.block bb hb (by intro e; exact ne (Option.some.inj e)))]; exact cb0
      have cz := R'.row.cell (i := o + k) (by omega)
      have fz := R'.row.frozen (o + k)
      have ml := fun W => mul64N x (G k) HW.out (HS.out.ws _) W
      have a1 : ∀ W, (callFunc 40 #[.int .u64 ((x * G k % B : Nat) : Int), .int .u64 ((F' (o + k) : Nat) : Int), .int .u64 0]).run Tryd.prog W = .ok (.value (.tuple #[.int .u64 (((x * G k % B + F' (o + k) + 0) % B : Nat) : Int), .int .u64 (((x * G k % B + F' (o + k) + 0) / B : Nat) : Int)])) W := fun W => add64N _ _ 0 (Nat.mod_lt _ B_pos) (R'.ws _) (by omega) W
      have a2 : ∀ W, (callFunc 40 #[.int .u64 (((x * G k % B + F' (o + k) + 0) % B : Nat) : Int), .int .u64 (v : Int), .int .u64 0]).run Tryd.prog W = .ok (.value (.tuple #[.int .u64 ((((x * G k % B + F' (o + k) + 0) % B + v + 0) % B : Nat) : Int), .int .u64 ((((x * G k % B + F' (o + k) + 0) % B + v + 0) / B : Nat) : Int)])) W := fun W => add64N _ _ 0 (Nat.mod_lt _ B_pos) HB.out (by omega) W
      obtain ⟨t1, t2, t3⟩ := times_words HW.out (HS.out.ws k) (R'.ws (o + k)) HB.out
      have hr : ((x * G k % B + F' (o + k) + 0) % B + v + 0) % B < B := Nat.mod_lt _ B_pos
      have st := times_step HV.out t3
      have hF : F' (o + k) = F (o + k) := HF.out _ (Or.inr (by omega))
      have HFK : Hid (F' (o + k) = F (o + k)) := hF
      clear R' hgr cb0 t3 hF
      generalize ((x * G k % B + F' (o + k) + 0) % B + v + 0) % B = r at *
      generalize ((x * G k % B + F' (o + k) + 0) % B + v + 0) / B = q2 at *
      generalize (x * G k % B + F' (o + k) + 0) % B = l2 at *
      generalize (x * G k % B + F' (o + k) + 0) / B = q1 at *
      generalize x * G k % B = l1 at *
      generalize x * G k / B = h1 at *
      have HST := (show Hid _ from st)
      have HT2 : Hid (h1 + q1 + q2 < B) := t2
      have t1' : h1 + q1 < 18446744073709551616 := t1
      have t2' : h1 + q1 + q2 < 18446744073709551616 := t2
      clear st t1 t2
      go_wp2_with (go_at_call 79; refine (ml _).mono ?_; rintro e wa ⟨rfl, rfl⟩)
      go_roundw
      case rel =>
        refine ⟨k + 1, h1 + q1 + q2, put F' (o + k) r, by push_cast; rfl, by go_num, by omega, HT2.out, HR.out.set (o + k) hr, grown_set HG.out _, ?_, ?_⟩
        · intro i hi
          rw [put_ne (by omega)]
          exact HF.out i (by omega)
        · have e : V (fun i => put F' (o + k) r (o + i)) (k + 1) = V (fun i => F' (o + i)) k + r * B ^ k := by
            rw [V_succ, V_congr (f := fun i => put F' (o + k) r (o + i)) (g := fun i => F' (o + i)) (fun i hi => put_ne (by omega)), put_at]
          rw [e, V_succ (fun i => F (o + i)), V_succ G, Nat.pow_succ]
          have s := HST.out
          rw [HFK.out] at s
          exact s
      case measure => simp [intOf]; omega
    · obtain rfl : k = m := by omega
      clear R' hgr
      go_wp2
      go_ret
      exact ⟨v, F', rfl, HB.out, HG.out, HR.out, HF.out, HV.out⟩
theorem und_nat : Tryd.prog.underlying 71 = some (.slice 22) := by kernel_rfl
theorem info_u64 : (Tryd.prog.info? 22).map (fun i => (i.zero, i.size, i.bytes)) = some (some (.int .u64 0), 1, 8) := by kernel_rfl
/-- A value that is the number X. -/
def NatV (w : World) (v : Value) (X : Nat) : Prop := ∃ ao n c b o f, v = .slice ao n c ∧ Sl w ao n c b o f ∧ Top f n ∧ V f n = X ∧ n ≤ 128
theorem NatV.below {w w' : World} {v : Value} {X : Nat} (h : NatV w v X) (hb : Below w.heap.size w w') : NatV w' v X := by
  obtain ⟨ao, n, c, b, o, f, e, S, r⟩ := h
  exact ⟨ao, n, c, b, o, f, e, S.below hb, r⟩
theorem below_grown {w w0 w' : World} {g : Nat} (h : Below w.heap.size w w0) (hg : w0.grownBy w' (some g)) (hl : w.heap.size ≤ g) : Below w.heap.size w w' :=
  h.grown hg h.size (fun k e => by have := Option.some.inj e; omega)
theorem split_gen2 {u t v p q : Nat} : u + t * p + v * (p * q) = u + (t + v * q) * p := by grind
theorem mult_gen {a b x p s t v q u : Nat} (h : t + v * q = s + b * x) (e : u + s * p = a * b) : u + (t + v * q) * p = (a + x * p) * b := by
  rw [h]; grind
set_option maxRecDepth 100000 in
set_option maxHeartbeats 2000000 in
theorem multiply_any {w : World} {ao : Option Addr} {n c ba oa : Nat} {f : Nat → Nat} (S : Sl w ao n c ba oa f) {bo : Option Addr} {m cb bb ob : Nat} {G : Nat → Nat} (S' : Sl w bo m cb bb ob G) (hn : n ≤ 1000) (hm : m ≤ 1000) :
    Calls Tryd.prog 73 #[.slice ao n c, .slice bo m cb] w fun e w' => e = .returned (.slice (some ⟨w.heap.size, 0, none⟩) (n + m) (n + m)) ∧ Below w.heap.size w w' ∧
      ∃ F, Row w' w.heap.size (n + m) F ∧ V F (n + m) = V f n * V G m := by
  have hmk := run_make_row' (P := Tryd.prog) 71 22 (.int .u64 0) 8 und_nat info_u64 rfl .i64 .i64 (n + m) (by omega) (by omega)
  simp only [Int.natCast_add] at hmk
  have HS : Hid (Sl w ao n c ba oa f) := S
  have HS' : Hid (Sl w bo m cb bb ob G) := S'
  clear S S'
  go_enter Tryd.func73, Tryd.ntmps73
  go_wp2
  go_loopw [16] (fun i wr => ∃ (k : Nat) (F' : Nat → Nat), i = .int .i64 (k : Int) ∧ k ≤ n ∧ Row wr w.heap.size (n + m) F' ∧ Below w.heap.size w wr ∧ (∀ j, k + m ≤ j → F' j = 0) ∧ V F' (k + m) = V f k * V G m) (fun i _ => n - (intOf i).toNat)
  case atStart => exact ⟨0, fun _ => 0, rfl, Nat.zero_le _, ⟨World.rowIs_made _ _ _ _, fun _ => B_pos⟩, (Below.refl _ _).alloc (Nat.le_refl _) _, fun _ _ => rfl, by rw [V_nought, V_zero, Nat.zero_mul]⟩
  case round =>
    obtain ⟨k, F', rfl, hk, R', hbl, hz, hv⟩ := hrel
    have HZ : Hid (∀ j, k + m ≤ j → F' j = 0) := hz
    have HV : Hid (V F' (k + m) = V f k * V G m) := hv
    have HB : Hid (Below w.heap.size w wr) := hbl
    have HR : Hid (Row wr w.heap.size (n + m) F') := R'
    clear hz hv
    by_cases c1 : k < n
    · obtain rfl := HS.out.addr (by omega)
      have hc := (HS.out.below hbl).cell k c1
      have T := times_any (g := w.heap.size) (o := k) (zo := some ⟨w.heap.size, k, none⟩) (n := m) (c := n + m - k) R' (HS'.out.below hbl) (fun q => ⟨rfl, Nat.ne_of_lt (HS'.out.blk q)⟩) (by omega) (Nat.le_refl _) (f k) (HS.out.ws k)
      clear hbl R'
      go_wp2_with fail
      refine T.mono ?_
      rintro e wa ⟨v, F2, rfl, hvB, hg, R2, hfr, hvv⟩
      have cz := R2.row.cell (i := k + m) (by omega)
      have fz := R2.row.frozen (k + m)
      have HR2 : Hid (Row wa w.heap.size (n + m) F2) := R2
      have HF : Hid (∀ i, i < k ∨ k + m ≤ i → F2 i = F' i) := hfr
      have HVV : Hid (V (fun i => F2 (k + i)) m + v * B ^ m = V (fun i => F' (k + i)) m + V G m * f k) := hvv
      have HG : Hid (Below w.heap.size w wa) := below_grown HB.out hg (Nat.le_refl _)
      have HVB : Hid (v < B) := hvB
      clear R2 hfr hvv hg hvB
      go_wp2
      go_roundw
      case rel =>
        refine ⟨k + 1, put F2 (k + m) v, by go_num, by omega, HR2.out.set (k + m) HVB.out, HG.out.setCell (Nat.le_refl _) _, ?_, ?_⟩
        · intro j hj
          rw [put_ne (by omega), HF.out j (by omega)]
          exact HZ.out j (by omega)
        · have e1 : V (put F2 (k + m) v) (k + 1 + m) = V F2 (k + m) + v * B ^ (k + m) := by
            rw [show k + 1 + m = k + m + 1 by omega, V_succ, V_put_low (Nat.le_refl _), put_at]
          have e2 := V_split F2 k m
          have e3 := V_split F' k m
          have e4 : V F2 k = V F' k := V_congr fun i hi => HF.out i (by omega)
          rw [e4] at e2
          rw [e1, e2, V_succ f k, Nat.pow_add]
          have e5 := mult_gen (p := B ^ k) HVV.out (u := V F' k) (a := V f k) (by rw [← e3]; exact HV.out)
          rw [← e5]
          exact split_gen2
      case measure => simp [intOf]; omega
    · obtain rfl : k = n := by omega
      clear R' hbl
      go_wp2
      go_ret
      exact ⟨rfl, HB.out, F', HR.out, HV.out⟩
/-- The trimmed part of a row is a number. -/
theorem natv_tl {w : World} {g N : Nat} {F : Nat → Nat} (R : Row w g N F) (hN : N ≤ maxLen) {X : Nat} (hX : V F N = X) (hlt : X < B ^ 128) :
    NatV w (.slice (some ⟨g, 0, none⟩) (tl F N) (tl F N)) X ∧ tl F N ≤ 128 := by
  have t := tl_top F N
  have v := tl_V F N
  have l := tl_le F N
  have h : tl F N ≤ 128 := len_le t (by rw [v, hX]; exact hlt)
  refine ⟨⟨_, _, _, g, 0, F, rfl, ?_, t, v.trans hX, h⟩, h⟩
  have S := R.sl (o := 0) (n := tl F N) (c := tl F N) (by omega) (Nat.le_refl _) (by omega)
  have e : (fun i => F (0 + i)) = F := funext fun i => by rw [Nat.zero_add]
  rw [e] at S
  exact S
theorem row_sl0 {w : World} {g N : Nat} {F : Nat → Nat} (R : Row w g N F) (hN : N ≤ maxLen) : Sl w (some ⟨g, 0, none⟩) N N g 0 F := by
  have S := R.sl (o := 0) (n := N) (c := N) (by omega) (Nat.le_refl _) hN
  have e : (fun i => F (0 + i)) = F := funext fun i => by rw [Nat.zero_add]
  rw [e] at S
  exact S
theorem made_row (w : World) (n : Nat) : Row (w.alloc (.cells (madeCells #[.int .u64 0] n) 22)) w.heap.size n (fun _ => 0) := ⟨World.rowIs_made _ _ _ _, fun _ => B_pos⟩
/-- Numbers as a row of values. -/
def dV (K : IntKind) (F : Nat → Nat) (k : Nat) : List Value := (List.range k).map fun i => Value.int K (F i : Int)
theorem dV_zero (K : IntKind) (F : Nat → Nat) : dV K F 0 = [] := rfl
theorem dV_succ (K : IntKind) (F : Nat → Nat) (k : Nat) : dV K F (k + 1) = dV K F k ++ [Value.int K (F k : Int)] := by
  unfold dV; rw [List.range_succ, List.map_append]; rfl
theorem dV_congr {K : IntKind} {F G : Nat → Nat} {k : Nat} (h : ∀ i, i < k → F i = G i) : dV K F k = dV K G k := by
  unfold dV
  exact List.map_congr_left fun i hi => by rw [h i (List.mem_range.1 hi)]
theorem dV_get {K : IntKind} {F : Nat → Nat} {k i : Nat} (h : i < k) : (dV K F k)[i]? = some (.int K (F i : Int)) := by
  unfold dV; rw [List.getElem?_map, List.getElem?_range h]; rfl
theorem own_cells {w : World} {base : Nat} {e : TypeId} {v : Value} {k : Nat} {K : IntKind} {F : Nat → Nat} (h : w.ownsRow base e 1 v k (dV K F k)) :
    ∃ ao c b, v = .slice ao k c ∧ k ≤ c ∧ c ≤ maxLen ∧ (0 < k → ao = some ⟨b, 0, none⟩ ∧ b < w.heap.size ∧ base ≤ b) ∧ ∀ i, i < k → w.cell? ⟨b, 0 + i, none⟩ = some (.int K (F i : Int)) := by
  rcases h.2 with ⟨rfl, rfl⟩ | ⟨g, cap, cur, rfl, hbg, hheap, hle, hmx, hcs, htk⟩
  · exact ⟨none, 0, 0, rfl, Nat.le_refl _, Nat.zero_le _, fun h => absurd h (by omega), fun i h => absurd h (by omega)⟩
  · rw [Nat.mul_one] at hcs htk
    refine ⟨_, cap, g, rfl, hle, hmx, fun _ => ⟨rfl, (Array.getElem?_eq_some_iff.1 hheap).1, hbg⟩, fun i hi => ?_⟩
    have q : (cur.toList.take k)[i]? = some (.int K (F i : Int)) := by rw [htk]; exact dV_get hi
    rw [List.getElem?_take_of_lt hi] at q
    have q3 : cur[i]? = some (.int K (F i : Int)) := by simpa using q
    rw [Nat.zero_add]
    simp [World.cell?, hheap, q3]
namespace Big
/-- A slice of n digits that lie at the block b from the place o on. -/
structure Sl (w : World) (ao : Option Addr) (n c : Nat) (b o : Nat) (f : Nat → Nat) : Prop where
  le : n ≤ c
  cap : c ≤ maxLen
  addr : 0 < n → ao = some ⟨b, o, none⟩
  blk : 0 < n → b < w.heap.size
  cell : ∀ i, i < n → w.cell? ⟨b, o + i, none⟩ = some (.int .u32 (f i : Int))
  ws : Ws f
theorem Sl.below {w w' : World} {ao : Option Addr} {n c b o : Nat} {f : Nat → Nat} (S : Sl w ao n c b o f) (hb : Below w.heap.size w w') : Sl w' ao n c b o f :=
  ⟨S.le, S.cap, S.addr, fun h => Nat.lt_of_lt_of_le (S.blk h) hb.size, fun i hi => (hb.cell (p := ⟨b, o + i, none⟩) (S.blk (by omega))).trans (S.cell i hi), S.ws⟩
/-- A value that is the document's number X. -/
def NatV (w : World) (v : Value) (X : Nat) : Prop := ∃ ao n c b o f, v = .slice ao n c ∧ Sl w ao n c b o f ∧ Top f n ∧ V f n = X
theorem NatV.below {w w' : World} {v : Value} {X : Nat} (h : NatV w v X) (hb : Below w.heap.size w w') : NatV w' v X := by
  obtain ⟨ao, n, c, b, o, f, e, S, r⟩ := h
  exact ⟨ao, n, c, b, o, f, e, S.below hb, r⟩
end Big
end Go.Proofs.YtohbggdkopmpfaaDoor
