/-
  Older texts, as far as layer 17 asks them: the document's numbers of many digits; floats taken apart and put together.
-/
import Derived.Test.YtkmnkogbafhfdaaDoorBtZ
import Derived.Test.YtkmnkogbafhfdaaDoorLen
import Derived.Test.YtkmnkogbafhfdaaDoorMath2
import Derived.Test.YtkmnkogbafhfdaaDoorRnM
import Derived.Test.YtkmnkogbafhfdaaDoorPrN
import Derived.Test.YtkmnkogbafhfdaaDoorPwO
import Derived.Test.YtkmnkogbafhfdaaDoorRows
import Derived.Laws.Externs
import Derived.WalkKit
import Derived.WalkSpells
import Derived.WalkLawsBesides
import Derived.Lib.Mul64
import Derived.Laws.Bits64b
import Derived.Lib.ItoaNum
import Derived.OwnWalk
import Derived.Lib.TrailingZeros
import Derived.Laws.BitsAllLaws
import Derived.Deep.OwnRows
import Derived.Laws.CopyOwn
import Derived.BigQuiet
import Derived.Deep.QuietTactic
import Derived.RegionTactic
import Derived.ChangeAlike
import Derived.BigRegion
import Derived.Deep.RegionHeld3
import Derived.Lib.SliceRun
import Derived.Deep.LoopGhost
import Derived.WalkMore
import Derived.Deep.RegionWith
import Derived.Deep.AppendLies
import Derived.Laws.BytesArg
import Derived.Deep.DeepCutAuto
namespace Go.Proofs.YtkmnkogbafhfdaaDoor
open Go.RowKit

/-- How many numbers a word holds. -/
def B : Nat := 18446744073709551616
theorem B_pos : 0 < B := by decide
theorem Bp_pos (n : Nat) : 0 < B ^ n := Nat.pow_pos B_pos
/-- The number of the lowest n words. -/
def V (f : Nat → Nat) : Nat → Nat
  | 0 => 0
  | n + 1 => V f n + f n * B ^ n
/-- Words. -/
def Ws (f : Nat → Nat) : Prop := ∀ i, f i < B
theorem V_zero (f : Nat → Nat) : V f 0 = 0 := rfl
theorem V_succ (f : Nat → Nat) (n : Nat) : V f (n + 1) = V f n + f n * B ^ n := rfl
theorem V_congr {f g : Nat → Nat} : ∀ {n : Nat}, (∀ i, i < n → f i = g i) → V f n = V g n
  | 0, _ => rfl
  | n + 1, h => by rw [V_succ, V_succ, V_congr (fun i hi => h i (by omega)), h n (by omega)]
theorem V_lt {f : Nat → Nat} (hf : Ws f) : ∀ n, V f n < B ^ n
  | 0 => by rw [V_zero, Nat.pow_zero]; decide
  | n + 1 => by
    have a := V_lt hf n
    have b := hf n
    have c : (f n + 1) * B ^ n ≤ B * B ^ n := Nat.mul_le_mul_right _ b
    rw [V_succ, Nat.pow_succ]
    rw [Nat.add_mul, Nat.one_mul] at c
    rw [Nat.mul_comm (B ^ n) B]
    omega
theorem V_ge {f : Nat → Nat} {n : Nat} (h : f n ≠ 0) : B ^ n ≤ V f (n + 1) := by
  have a : 1 * B ^ n ≤ f n * B ^ n := Nat.mul_le_mul_right _ (by omega)
  rw [V_succ]; omega
theorem split_gen {u v x p q : Nat} : u + v * p + x * (p * q) = u + (v + x * q) * p := by grind
theorem V_split (f : Nat → Nat) (a : Nat) : ∀ b, V f (a + b) = V f a + V (fun i => f (a + i)) b * B ^ a
  | 0 => by rw [V_zero, Nat.zero_mul]; rfl
  | b + 1 => by
    have e := V_split f a b
    rw [← Nat.add_assoc, V_succ, e, V_succ, Nat.pow_add]
    exact split_gen
theorem V_zeros {f : Nat → Nat} {m : Nat} : ∀ {n : Nat}, m ≤ n → (∀ i, m ≤ i → i < n → f i = 0) → V f n = V f m
  | 0, h, _ => by
    have e : m = 0 := by omega
    rw [e]
  | n + 1, h, z => by
    by_cases e : m = n + 1
    · rw [e]
    · rw [V_succ, z n (by omega) (by omega), Nat.zero_mul, Nat.add_zero]
      exact V_zeros (by omega) (fun i a b => z i a (by omega))
theorem V_nought (n : Nat) : V (fun _ => 0) n = 0 := V_zeros (f := fun _ => 0) (Nat.zero_le n) (fun _ _ _ => rfl)
/-- A number has no word 0 on top. -/
def Top (f : Nat → Nat) (n : Nat) : Prop := n = 0 ∨ f (n - 1) ≠ 0
theorem Top_ge {f : Nat → Nat} {n : Nat} (h : Top f n) (hn : 0 < n) : B ^ (n - 1) ≤ V f n := by
  rcases h with h | h
  · omega
  · have := V_ge h
    rw [show n - 1 + 1 = n by omega] at this
    exact this
theorem len_lt {f g : Nat → Nat} {m n : Nat} (hf : Ws f) (hg : Top g n) (h : m < n) : V f m < V g n := by
  have a := V_lt hf m
  have b := Top_ge hg (by omega)
  have c : B ^ m ≤ B ^ (n - 1) := Nat.pow_le_pow_right B_pos (by omega)
  omega
theorem len_le {f : Nat → Nat} {n k : Nat} (t : Top f n) (h : V f n < B ^ k) : n ≤ k := by
  by_cases c : n ≤ k
  · exact c
  · exfalso
    have a := Top_ge t (by omega)
    have b : B ^ k ≤ B ^ (n - 1) := Nat.pow_le_pow_right B_pos (by omega)
    omega
/-- The length without the words 0 on top. -/
def tl (f : Nat → Nat) : Nat → Nat
  | 0 => 0
  | n + 1 => if f n = 0 then tl f n else n + 1
theorem tl_le (f : Nat → Nat) : ∀ n, tl f n ≤ n
  | 0 => Nat.le_refl _
  | n + 1 => by
    unfold tl
    split
    · have := tl_le f n; omega
    · exact Nat.le_refl _
theorem tl_top (f : Nat → Nat) : ∀ n, Top f (tl f n)
  | 0 => Or.inl rfl
  | n + 1 => by
    unfold tl
    split
    · exact tl_top f n
    · exact Or.inr (by simpa using ‹_›)
theorem tl_V (f : Nat → Nat) : ∀ n, V f (tl f n) = V f n
  | 0 => rfl
  | n + 1 => by
    unfold tl
    split
    · rename_i h; rw [tl_V f n, V_succ, h, Nat.zero_mul, Nat.add_zero]
    · rfl
theorem tl_zero {f : Nat → Nat} {n : Nat} (h : f n = 0) : tl f (n + 1) = tl f n := by
  show (if f n = 0 then tl f n else n + 1) = _
  rw [if_pos h]
theorem tl_stop {f : Nat → Nat} {n : Nat} (h : f n ≠ 0) : tl f (n + 1) = n + 1 := by
  show (if f n = 0 then tl f n else n + 1) = _
  rw [if_neg h]
/-- The order of two numbers. -/
def ord (x y : Nat) : Int := if x < y then -1 else if y < x then 1 else 0
/-- The highest word that parts them decides. -/
theorem V_lt_at {f g : Nat → Nat} (hf : Ws f) {k : Nat} (hk : f k < g k) : ∀ {n : Nat}, k < n → (∀ j, k < j → j < n → f j = g j) → V f n < V g n
  | 0, h, _ => absurd h (by omega)
  | n + 1, h, e => by
    by_cases c : k = n
    · subst c
      have a := V_lt hf k
      have b : (f k + 1) * B ^ k ≤ g k * B ^ k := Nat.mul_le_mul_right _ hk
      rw [V_succ, V_succ]
      rw [Nat.add_mul, Nat.one_mul] at b
      omega
    · have i := V_lt_at hf hk (n := n) (by omega) (fun j a b => e j a (by omega))
      rw [V_succ, V_succ, e n (by omega) (by omega)]
      omega
/-- A word put into a row. -/
def put (f : Nat → Nat) (k x : Nat) : Nat → Nat := fun i => if i = k then x else f i
theorem put_at (f : Nat → Nat) (k x : Nat) : put f k x k = x := by unfold put; rw [if_pos rfl]
theorem put_ne {f : Nat → Nat} {k x i : Nat} (h : i ≠ k) : put f k x i = f i := by unfold put; rw [if_neg h]
theorem put_Ws {f : Nat → Nat} {k x : Nat} (hf : Ws f) (hx : x < B) : Ws (put f k x) := by
  intro i; unfold put; split
  · exact hx
  · exact hf i
theorem V_put_low {f : Nat → Nat} {k x n : Nat} (h : n ≤ k) : V (put f k x) n = V f n := V_congr fun i hi => put_ne (by omega)
/-- One word more of a sum, of a difference. -/
theorem sum_gen {β v a b p x y c q r : Nat} (h : v + c * p = a + b) (e : β * q + r = x + y + c) : v + r * p + q * (p * β) = a + x * p + (b + y * p) := by
  have : r * p + q * (p * β) = (β * q + r) * p := by grind
  rw [e] at this
  grind
theorem sum_step {v a b p x y c : Nat} (h : v + c * p = a + b) : v + (x + y + c) % B * p + (x + y + c) / B * (p * B) = a + x * p + (b + y * p) :=
  sum_gen h (Nat.div_add_mod (x + y + c) B)
theorem sub_step {β v a b p x y c l d : Nat} (h : v + b = a + c * p) (hl : l + y + c = x + d * β) : v + l * p + (b + y * p) = a + x * p + d * (p * β) := by
  have : l * p + y * p + c * p = x * p + d * (p * β) := by
    have e : (l + y + c) * p = (x + d * β) * p := by rw [hl]
    grind
  omega
namespace Big
/-- How many numbers a digit holds. -/
def B : Nat := 4294967296
theorem B_pos : 0 < B := by decide
theorem Bp_pos (n : Nat) : 0 < B ^ n := Nat.pow_pos B_pos
/-- The number of the lowest n words. -/
def V (f : Nat → Nat) : Nat → Nat
  | 0 => 0
  | n + 1 => V f n + f n * B ^ n
/-- Words. -/
def Ws (f : Nat → Nat) : Prop := ∀ i, f i < B
theorem V_zero (f : Nat → Nat) : V f 0 = 0 := rfl
theorem V_succ (f : Nat → Nat) (n : Nat) : V f (n + 1) = V f n + f n * B ^ n := rfl
theorem V_congr {f g : Nat → Nat} : ∀ {n : Nat}, (∀ i, i < n → f i = g i) → V f n = V g n
  | 0, _ => rfl
  | n + 1, h => by rw [V_succ, V_succ, V_congr (fun i hi => h i (by omega)), h n (by omega)]
theorem V_lt {f : Nat → Nat} (hf : Ws f) : ∀ n, V f n < B ^ n
  | 0 => by rw [V_zero, Nat.pow_zero]; decide
  | n + 1 => by
    have a := V_lt hf n
    have b := hf n
    have c : (f n + 1) * B ^ n ≤ B * B ^ n := Nat.mul_le_mul_right _ b
    rw [V_succ, Nat.pow_succ]
    rw [Nat.add_mul, Nat.one_mul] at c
    rw [Nat.mul_comm (B ^ n) B]
    omega
theorem V_ge {f : Nat → Nat} {n : Nat} (h : f n ≠ 0) : B ^ n ≤ V f (n + 1) := by
  have a : 1 * B ^ n ≤ f n * B ^ n := Nat.mul_le_mul_right _ (by omega)
  rw [V_succ]; omega
theorem split_gen {u v x p q : Nat} : u + v * p + x * (p * q) = u + (v + x * q) * p := by grind
theorem V_split (f : Nat → Nat) (a : Nat) : ∀ b, V f (a + b) = V f a + V (fun i => f (a + i)) b * B ^ a
  | 0 => by rw [V_zero, Nat.zero_mul]; rfl
  | b + 1 => by
    have e := V_split f a b
    rw [← Nat.add_assoc, V_succ, e, V_succ, Nat.pow_add]
    exact split_gen
theorem V_zeros {f : Nat → Nat} {m : Nat} : ∀ {n : Nat}, m ≤ n → (∀ i, m ≤ i → i < n → f i = 0) → V f n = V f m
  | 0, h, _ => by
    have e : m = 0 := by omega
    rw [e]
  | n + 1, h, z => by
    by_cases e : m = n + 1
    · rw [e]
    · rw [V_succ, z n (by omega) (by omega), Nat.zero_mul, Nat.add_zero]
      exact V_zeros (by omega) (fun i a b => z i a (by omega))
theorem V_nought (n : Nat) : V (fun _ => 0) n = 0 := V_zeros (f := fun _ => 0) (Nat.zero_le n) (fun _ _ _ => rfl)
/-- A number has no word 0 on top. -/
def Top (f : Nat → Nat) (n : Nat) : Prop := n = 0 ∨ f (n - 1) ≠ 0
theorem Top_ge {f : Nat → Nat} {n : Nat} (h : Top f n) (hn : 0 < n) : B ^ (n - 1) ≤ V f n := by
  rcases h with h | h
  · omega
  · have := V_ge h
    rw [show n - 1 + 1 = n by omega] at this
    exact this
theorem len_lt {f g : Nat → Nat} {m n : Nat} (hf : Ws f) (hg : Top g n) (h : m < n) : V f m < V g n := by
  have a := V_lt hf m
  have b := Top_ge hg (by omega)
  have c : B ^ m ≤ B ^ (n - 1) := Nat.pow_le_pow_right B_pos (by omega)
  omega
theorem len_le {f : Nat → Nat} {n k : Nat} (t : Top f n) (h : V f n < B ^ k) : n ≤ k := by
  by_cases c : n ≤ k
  · exact c
  · exfalso
    have a := Top_ge t (by omega)
    have b : B ^ k ≤ B ^ (n - 1) := Nat.pow_le_pow_right B_pos (by omega)
    omega
/-- The length without the words 0 on top. -/
def tl (f : Nat → Nat) : Nat → Nat
  | 0 => 0
  | n + 1 => if f n = 0 then tl f n else n + 1
theorem tl_le (f : Nat → Nat) : ∀ n, tl f n ≤ n
  | 0 => Nat.le_refl _
  | n + 1 => by
    unfold tl
    split
    · have := tl_le f n; omega
    · exact Nat.le_refl _
theorem tl_top (f : Nat → Nat) : ∀ n, Top f (tl f n)
  | 0 => Or.inl rfl
  | n + 1 => by
    unfold tl
    split
    · exact tl_top f n
    · exact Or.inr (by simpa using ‹_›)
theorem tl_V (f : Nat → Nat) : ∀ n, V f (tl f n) = V f n
  | 0 => rfl
  | n + 1 => by
    unfold tl
    split
    · rename_i h; rw [tl_V f n, V_succ, h, Nat.zero_mul, Nat.add_zero]
    · rfl
theorem tl_zero {f : Nat → Nat} {n : Nat} (h : f n = 0) : tl f (n + 1) = tl f n := by
  show (if f n = 0 then tl f n else n + 1) = _
  rw [if_pos h]
theorem tl_stop {f : Nat → Nat} {n : Nat} (h : f n ≠ 0) : tl f (n + 1) = n + 1 := by
  show (if f n = 0 then tl f n else n + 1) = _
  rw [if_neg h]
/-- The highest word that parts them decides. -/
theorem V_lt_at {f g : Nat → Nat} (hf : Ws f) {k : Nat} (hk : f k < g k) : ∀ {n : Nat}, k < n → (∀ j, k < j → j < n → f j = g j) → V f n < V g n
  | 0, h, _ => absurd h (by omega)
  | n + 1, h, e => by
    by_cases c : k = n
    · subst c
      have a := V_lt hf k
      have b : (f k + 1) * B ^ k ≤ g k * B ^ k := Nat.mul_le_mul_right _ hk
      rw [V_succ, V_succ]
      rw [Nat.add_mul, Nat.one_mul] at b
      omega
    · have i := V_lt_at hf hk (n := n) (by omega) (fun j a b => e j a (by omega))
      rw [V_succ, V_succ, e n (by omega) (by omega)]
      omega
/-- A word put into a row. -/
def put (f : Nat → Nat) (k x : Nat) : Nat → Nat := fun i => if i = k then x else f i
theorem put_at (f : Nat → Nat) (k x : Nat) : put f k x k = x := by unfold put; rw [if_pos rfl]
theorem put_ne {f : Nat → Nat} {k x i : Nat} (h : i ≠ k) : put f k x i = f i := by unfold put; rw [if_neg h]
theorem put_Ws {f : Nat → Nat} {k x : Nat} (hf : Ws f) (hx : x < B) : Ws (put f k x) := by
  intro i; unfold put; split
  · exact hx
  · exact hf i
theorem V_put_low {f : Nat → Nat} {k x n : Nat} (h : n ≤ k) : V (put f k x) n = V f n := V_congr fun i hi => put_ne (by omega)
/-- One word more of a sum, of a difference. -/
theorem sum_gen {β v a b p x y c q r : Nat} (h : v + c * p = a + b) (e : β * q + r = x + y + c) : v + r * p + q * (p * β) = a + x * p + (b + y * p) := by
  have : r * p + q * (p * β) = (β * q + r) * p := by grind
  rw [e] at this
  grind
theorem sum_step {v a b p x y c : Nat} (h : v + c * p = a + b) : v + (x + y + c) % B * p + (x + y + c) / B * (p * B) = a + x * p + (b + y * p) :=
  sum_gen h (Nat.div_add_mod (x + y + c) B)
theorem sub_step {β v a b p x y c l d : Nat} (h : v + b = a + c * p) (hl : l + y + c = x + d * β) : v + l * p + (b + y * p) = a + x * p + d * (p * β) := by
  have : l * p + y * p + c * p = x * p + d * (p * β) := by
    have e : (l + y + c) * p = (x + d * β) * p := by rw [hl]
    grind
  omega
end Big
theorem BB : B = Big.B * Big.B := by decide
theorem BB_pow (k : Nat) : B ^ k = Big.B ^ (2 * k) := by rw [BB, Nat.pow_mul, Nat.pow_two]
/-- What lies at n and above is 0. -/
def cut (g : Nat → Nat) (n i : Nat) : Nat := if i < n then g i else 0
theorem pow_cast (s : Nat) : ((2 : Int) ^ s) = ((2 ^ s : Nat) : Int) := by push_cast; rfl
/-- A slice of n words that lie at the block b from the place o on. -/
structure Sl (w : World) (ao : Option Addr) (n c : Nat) (b o : Nat) (f : Nat → Nat) : Prop where
  le : n ≤ c
  cap : c ≤ maxLen
  addr : 0 < n → ao = some ⟨b, o, none⟩
  blk : 0 < n → b < w.heap.size
  cell : ∀ i, i < n → w.cell? ⟨b, o + i, none⟩ = some (.int .u64 (f i : Int))
  ws : Ws f
theorem Sl.below {w w' : World} {ao : Option Addr} {n c b o : Nat} {f : Nat → Nat} (S : Sl w ao n c b o f) (hb : Below w.heap.size w w') : Sl w' ao n c b o f :=
  ⟨S.le, S.cap, S.addr, fun h => Nat.lt_of_lt_of_le (S.blk h) hb.size, fun i hi => (hb.cell (p := ⟨b, o + i, none⟩) (S.blk (by omega))).trans (S.cell i hi), S.ws⟩
/-- A row of N words that fills the block g. -/
structure Row (w : World) (g N : Nat) (F : Nat → Nat) : Prop where
  row : w.rowIs g 24 N (fun i => .int .u64 (F i : Int))
  ws : Ws F
theorem Row.set {w : World} {g N : Nat} {F : Nat → Nat} (R : Row w g N F) (i : Nat) {r : Nat} (hr : r < B) : Row (w.setCell ⟨g, i, none⟩ (.int .u64 (r : Int))) g N (put F i r) := by
  refine ⟨(R.row.set i (.int .u64 (r : Int))).congr fun j hj => ?_, put_Ws R.ws hr⟩
  unfold put
  by_cases c : j = i
  · rw [if_pos c, if_pos c]
  · rw [if_neg c, if_neg c]
theorem Row.drew {w : World} {g N : Nat} {F : Nat → Nat} (R : Row w g N F) : Row w.drew g N F := ⟨R.row.drew, R.ws⟩
theorem Row.kept {w w' : World} {g g' N : Nat} {F : Nat → Nat} (R : Row w g N F) (h : w.grownBy w' (some g')) (hne : g ≠ g') : Row w' g N F :=
  ⟨R.row.of_block (h.block g R.row.lt (fun e => hne (Option.some.inj e))), R.ws⟩
theorem Row.below {w w' : World} {g N : Nat} {F : Nat → Nat} (R : Row w g N F) (h : Below w.heap.size w w') : Row w' g N F :=
  ⟨R.row.of_block (h.block g R.row.lt), R.ws⟩
theorem Sl.kept {w w' : World} {ao : Option Addr} {n c b o g : Nat} {f : Nat → Nat} (S : Sl w ao n c b o f) (h : w.grownBy w' (some g)) (hne : 0 < n → b ≠ g) : Sl w' ao n c b o f :=
  ⟨S.le, S.cap, S.addr, fun q => Nat.lt_of_lt_of_le (S.blk q) h.size, fun i hi => by
    rw [World.cell?_of_block (w := w) (h.block b (S.blk (by omega)) (fun e => hne (by omega) (Option.some.inj e)))]; exact S.cell i hi, S.ws⟩
theorem grown_set {w wr : World} {g i : Nat} (h : w.grownBy wr (some g)) (v : Value) : w.grownBy (wr.setCell ⟨g, i, none⟩ v) (some g) :=
  ⟨h.os, h.tape, h.output, by rw [World.size_setCell]; exact h.size, fun k hk hne => (Below.heap_setCell _ _ _ _ (fun e => hne (by rw [e]))).trans (h.block k hk hne)⟩
theorem info_u64 : (Tryd.prog.info? 24).map (fun i => (i.zero, i.size, i.bytes)) = some (some (.int .u64 0), 1, 8) := by kernel_rfl
/-- A value that is the number X. -/
def NatV (w : World) (v : Value) (X : Nat) : Prop := ∃ ao n c b o f, v = .slice ao n c ∧ Sl w ao n c b o f ∧ Top f n ∧ V f n = X ∧ n ≤ 128
theorem NatV.below {w w' : World} {v : Value} {X : Nat} (h : NatV w v X) (hb : Below w.heap.size w w') : NatV w' v X := by
  obtain ⟨ao, n, c, b, o, f, e, S, r⟩ := h
  exact ⟨ao, n, c, b, o, f, e, S.below hb, r⟩
/-- Numbers as a row of values. -/
def dV (K : IntKind) (F : Nat → Nat) (k : Nat) : List Value := (List.range k).map fun i => Value.int K (F i : Int)
theorem dV_succ (K : IntKind) (F : Nat → Nat) (k : Nat) : dV K F (k + 1) = dV K F k ++ [Value.int K (F k : Int)] := by
  unfold dV; rw [List.range_succ, List.map_append]; rfl
theorem dV_congr {K : IntKind} {F G : Nat → Nat} {k : Nat} (h : ∀ i, i < k → F i = G i) : dV K F k = dV K G k := by
  unfold dV
  exact List.map_congr_left fun i hi => by rw [h i (List.mem_range.1 hi)]
theorem dV_get {K : IntKind} {F : Nat → Nat} {k i : Nat} (h : i < k) : (dV K F k)[i]? = some (.int K (F i : Int)) := by
  unfold dV; rw [List.getElem?_map, List.getElem?_range h]; rfl
theorem own_cells {w : World} {base : Nat} {e : TypeId} {v : Value} {k : Nat} {K : IntKind} {F : Nat → Nat} (h : w.ownsRow base e 1 v k (dV K F k)) :
    ∃ ao c b, v = .slice ao k c ∧ k ≤ c ∧ c ≤ maxLen ∧ (0 < k → ao = some ⟨b, 0, none⟩ ∧ b < w.heap.size ∧ base ≤ b) ∧ ∀ i, i < k → w.cell? ⟨b, 0 + i, none⟩ = some (.int K (F i : Int)) := by
  rcases h.2 with ⟨rfl, rfl⟩ | ⟨g, cap, cur, rfl, hbg, hheap, hle, hmx, hcs, htk⟩
  · exact ⟨none, 0, 0, rfl, Nat.le_refl _, Nat.zero_le _, fun h => absurd h (by omega), fun i h => absurd h (by omega)⟩
  · rw [Nat.mul_one] at hcs htk
    refine ⟨_, cap, g, rfl, hle, hmx, fun _ => ⟨rfl, (Array.getElem?_eq_some_iff.1 hheap).1, hbg⟩, fun i hi => ?_⟩
    have q : (cur.toList.take k)[i]? = some (.int K (F i : Int)) := by rw [htk]; exact dV_get hi
    rw [List.getElem?_take_of_lt hi] at q
    have q3 : cur[i]? = some (.int K (F i : Int)) := by simpa using q
    rw [Nat.zero_add]
    simp [World.cell?, hheap, q3]
namespace Big
/-- A slice of n digits that lie at the block b from the place o on. -/
structure Sl (w : World) (ao : Option Addr) (n c : Nat) (b o : Nat) (f : Nat → Nat) : Prop where
  le : n ≤ c
  cap : c ≤ maxLen
  addr : 0 < n → ao = some ⟨b, o, none⟩
  blk : 0 < n → b < w.heap.size
  cell : ∀ i, i < n → w.cell? ⟨b, o + i, none⟩ = some (.int .u32 (f i : Int))
  ws : Ws f
theorem Sl.below {w w' : World} {ao : Option Addr} {n c b o : Nat} {f : Nat → Nat} (S : Sl w ao n c b o f) (hb : Below w.heap.size w w') : Sl w' ao n c b o f :=
  ⟨S.le, S.cap, S.addr, fun h => Nat.lt_of_lt_of_le (S.blk h) hb.size, fun i hi => (hb.cell (p := ⟨b, o + i, none⟩) (S.blk (by omega))).trans (S.cell i hi), S.ws⟩
/-- A value that is the document's number X. -/
def NatV (w : World) (v : Value) (X : Nat) : Prop := ∃ ao n c b o f, v = .slice ao n c ∧ Sl w ao n c b o f ∧ Top f n ∧ V f n = X
theorem NatV.below {w w' : World} {v : Value} {X : Nat} (h : NatV w v X) (hb : Below w.heap.size w w') : NatV w' v X := by
  obtain ⟨ao, n, c, b, o, f, e, S, r⟩ := h
  exact ⟨ao, n, c, b, o, f, e, S.below hb, r⟩
end Big
/-- What the divisor Y (its digits Y1, Y0) and the number U * 2^32 + l are. -/
structure Divd (U l Y Y1 Y0 : Int) : Prop where
  hY : Y = Y1 * 4294967296 + Y0
  y0 : 0 ≤ Y0
  y0' : Y0 ≤ 4294967295
  y1 : 2147483648 ≤ Y1
  y1' : Y1 ≤ 4294967295
  u0 : 0 ≤ U
  u1 : U < Y
  l0 : 0 ≤ l
  l1 : l ≤ 4294967295
/-- The digit of the quotient. -/
def qd (U l Y : Int) : Int := (U * 4294967296 + l) / Y
/-- What is left. -/
def rd (U l Y : Int) : Int := (U * 4294967296 + l) % Y
theorem mul_split (q Y1 Y0 : Int) : q * (Y1 * 4294967296 + Y0) = q * Y1 * 4294967296 + q * Y0 := by rw [Int.mul_add, Int.mul_assoc]

variable {U l Y Y1 Y0 : Int}
theorem Divd.pos (h : Divd U l Y Y1 Y0) : 0 < Y := by have := h.hY; have := h.y0; have := h.y1; omega
theorem Divd.qd_nonneg (h : Divd U l Y Y1 Y0) : 0 ≤ qd U l Y := Int.ediv_nonneg (by have := h.u0; have := h.l0; omega) (Int.le_of_lt h.pos)
theorem Divd.rd_lt (h : Divd U l Y Y1 Y0) : 0 ≤ rd U l Y ∧ rd U l Y < Y := ⟨Int.emod_nonneg _ (by have := h.pos; omega), Int.emod_lt_of_pos _ h.pos⟩
theorem Divd.eq (_h : Divd U l Y Y1 Y0) : U * 4294967296 + l = qd U l Y * Y + rd U l Y := by
  have := Int.mul_ediv_add_emod (U * 4294967296 + l) Y
  unfold qd rd; rw [Int.mul_comm ((U * 4294967296 + l) / Y) Y]; exact this.symm
/-- The guess of a digit, from the highest digit of the divisor alone. -/
theorem Divd.start (h : Divd U l Y Y1 Y0) : qd U l Y ≤ U / Y1 ∧ U / Y1 ≤ 4294967297 ∧ U / Y1 * Y1 ≤ U ∧ U - U / Y1 * Y1 < Y1 := by
  have e := h.eq; have r := h.rd_lt
  have e3 := h.y1; have e1 := h.hY; have e4 := h.y0'
  have e5 := h.u0; have e6 := h.u1; have e7 := h.l0; have e8 := h.l1; have e9 := h.y0
  have m := Int.mul_ediv_add_emod U Y1
  have m1 := Int.emod_nonneg U (b := Y1) (by omega)
  have m2 := Int.emod_lt_of_pos U (b := Y1) (by omega)
  rw [Int.mul_comm] at m
  refine ⟨?_, ?_, by omega, by omega⟩
  · rw [Int.le_ediv_iff_mul_le (by omega)]
    have s := mul_split (qd U l Y) Y1 Y0
    rw [← e1] at s
    have p := Int.mul_nonneg h.qd_nonneg e9
    omega
  · by_cases c : U / Y1 ≤ 4294967297
    · exact c
    · have := Int.mul_le_mul (a := 4294967298) (b := Y1) (c := U / Y1) (d := Y1) (by omega) (Int.le_refl _) (by omega) (by omega)
      omega
theorem Row.alloc {w : World} {g N : Nat} {F : Nat → Nat} (R : Row w g N F) (o : Obj) : Row (w.alloc o) g N F := ⟨R.row.alloc o, R.ws⟩
theorem natv_nil (w : World) : NatV w (.slice none 0 0) 0 :=
  ⟨none, 0, 0, 0, 0, fun _ => 0, rfl, ⟨Nat.le_refl _, Nat.zero_le _, fun h => absurd h (by omega), fun h => absurd h (by omega), fun i h => absurd h (by omega), fun _ => B_pos⟩, Or.inl rfl, rfl, by omega⟩
theorem cut_in {g : Nat → Nat} {n i : Nat} (h : i < n) : cut g n i = g i := by unfold cut; rw [if_pos h]
theorem cut_out {g : Nat → Nat} {n i : Nat} (h : ¬ i < n) : cut g n i = 0 := by unfold cut; rw [if_neg h]
theorem cut_V {g : Nat → Nat} {n k : Nat} (h : n ≤ k) : Big.V (cut g n) k = Big.V g n := by
  rw [Big.V_zeros (f := cut g n) h (fun i a _ => cut_out (by omega))]
  exact Big.V_congr fun i hi => cut_in hi
theorem dV_put (K : IntKind) (F : Nat → Nat) (k r : Nat) : dV K (Big.put F k r) (k + 1) = dV K F k ++ [.int K (r : Int)] := by
  rw [dV_succ, Big.put_at, dV_congr (G := F) (fun i hi => Big.put_ne (by omega))]
theorem V_putB (F : Nat → Nat) (k r : Nat) : Big.V (Big.put F k r) (k + 1) = Big.V F k + r * Big.B ^ k := by
  rw [Big.V_succ, Big.put_at, Big.V_put_low (Nat.le_refl _)]
/-- A number of at most L digits. -/
def Fits (L X : Nat) : Prop := ∃ k, k ≤ L ∧ X < Big.B ^ k
theorem Fits.up {L M X : Nat} (h : Fits L X) (hl : L ≤ M) : Fits M X := by
  obtain ⟨k, a, b⟩ := h
  exact ⟨k, Nat.le_trans a hl, b⟩
theorem Fits.le {L X Y : Nat} (h : Fits L X) (hl : Y ≤ X) : Fits L Y := by
  obtain ⟨k, a, b⟩ := h
  exact ⟨k, a, Nat.lt_of_le_of_lt hl b⟩
theorem Fits.lt {L X : Nat} (h : Fits L X) : X < Big.B ^ L := by
  obtain ⟨k, a, b⟩ := h
  exact Nat.lt_of_lt_of_le b (Nat.pow_le_pow_right Big.B_pos a)
theorem Fits.sum {L X Y : Nat} (h : Fits L X) (k : Fits L Y) : Fits (L + 1) (X + Y) := by
  refine ⟨L + 1, Nat.le_refl _, ?_⟩
  have a := h.lt
  have b := k.lt
  have c : 2 * Big.B ^ L ≤ Big.B ^ (L + 1) := by
    rw [Nat.pow_succ, Nat.mul_comm]; exact Nat.mul_le_mul_left _ (by decide)
  omega
theorem Fits.mul {L M X Y : Nat} (h : Fits L X) (k : Fits M Y) : Fits (L + M) (X * Y) := by
  refine ⟨L + M, Nat.le_refl _, ?_⟩
  rw [Nat.pow_add]
  exact Nat.mul_lt_mul'' h.lt k.lt
theorem Fits.word {n X : Nat} (h : X < B ^ n) : Fits (2 * n) X := ⟨2 * n, Nat.le_refl _, by rw [← BB_pow]; exact h⟩
/-- The length of a number below a power. -/
theorem big_len {f : Nat → Nat} {n L : Nat} (t : Big.Top f n) (h : Fits L (Big.V f n)) : n ≤ L := Big.len_le t h.lt
theorem big_le_len {f g : Nat → Nat} {m n : Nat} (hf : Big.Ws f) (tg : Big.Top g m) (h : Big.V g m ≤ Big.V f n) : m ≤ n := by
  rcases Nat.lt_or_ge n m with z | z
  · have := Big.len_lt hf tg z; omega
  · exact z
theorem D_two : Big.B = 2 ^ 32 := by decide
theorem D_pow (k : Nat) : Big.B ^ k = 2 ^ (32 * k) := by rw [Nat.pow_mul, D_two]
/-- How many binary digits. -/
def bl (X : Nat) : Nat := if X = 0 then 0 else Nat.log2 X + 1
theorem bl_of {X L : Nat} (h1 : 2 ^ L ≤ X) (h2 : X < 2 ^ (L + 1)) : bl X = L + 1 := by
  have hp : 0 < 2 ^ L := Nat.pow_pos (by omega)
  have h0 : X ≠ 0 := by omega
  unfold bl
  rw [if_neg h0, (Nat.log2_eq_iff h0).2 ⟨h1, h2⟩]
theorem bl_lt (X : Nat) : X < 2 ^ bl X := by
  unfold bl
  split
  · rename_i h; rw [h]; decide
  · exact Nat.lt_log2_self
theorem bl_le {X : Nat} (h : X ≠ 0) : 2 ^ (bl X - 1) ≤ X := by
  unfold bl
  rw [if_neg h, Nat.add_sub_cancel]
  exact Nat.log2_self_le h
theorem bl_zero : bl 0 = 0 := rfl
theorem bl_mono_le {X L : Nat} (h : X < 2 ^ L) : bl X ≤ L := by
  by_cases z : X = 0
  · subst z; rw [bl_zero]; omega
  · rcases Nat.lt_or_ge L (bl X) with q | q
    · have a := bl_le z
      have b : 2 ^ L ≤ 2 ^ (bl X - 1) := Nat.pow_le_pow_right (by omega) (by omega)
      omega
    · exact q
/-- A number from its digit at the place q on. -/
theorem V_from {f : Nat → Nat} (hf : Big.Ws f) {n q : Nat} (hq : q < n) : ∃ H, Big.V f n / Big.B ^ q = f q + Big.B * H := by
  refine ⟨Big.V (fun i => f (q + 1 + i)) (n - (q + 1)), ?_⟩
  have s := Big.V_split f (q + 1) (n - (q + 1))
  rw [show q + 1 + (n - (q + 1)) = n by omega, Big.V_succ, Nat.pow_succ] at s
  have e : Big.V f n = Big.V f q + (f q + Big.B * Big.V (fun i => f (q + 1 + i)) (n - (q + 1))) * Big.B ^ q := by
    rw [s]
    generalize Big.V (fun i => f (q + 1 + i)) (n - (q + 1)) = h
    generalize Big.B ^ q = p
    generalize Big.B = d
    grind
  rw [e, Nat.add_mul_div_right _ _ (Big.Bp_pos q), Nat.div_eq_of_lt (Big.V_lt hf q), Nat.zero_add]
theorem part_gen {x d H p t : Nat} (hp : 0 < p) (e : d = 2 * t * p) : (x + d * H) / p % 2 = x / p % 2 := by
  rw [e, show 2 * t * p * H = p * (2 * (t * H)) by grind, Nat.add_mul_div_left _ _ hp]
  omega
theorem bit_at {f : Nat → Nat} (hf : Big.Ws f) {n q p : Nat} (hq : q < n) (hp : p < 32) : Big.V f n / 2 ^ (32 * q + p) % 2 = f q / 2 ^ p % 2 := by
  obtain ⟨H, h⟩ := V_from hf hq
  rw [Nat.pow_add, ← D_pow, ← Nat.div_div_eq_div_mul, h]
  refine part_gen (t := 2 ^ (31 - p)) (Nat.pow_pos (by omega)) ?_
  rw [D_two, Nat.mul_assoc, ← Nat.pow_add, show 31 - p + p = 31 by omega, ← Nat.pow_succ']
/-- The lowest bits: one place more. -/
theorem low_step {X k : Nat} (h : X % 2 ^ k = 0) : X % 2 ^ (k + 1) = 2 ^ k * (X / 2 ^ k % 2) := by
  rw [Nat.mod_pow_succ, h, Nat.zero_add]
theorem low_mono {X a b : Nat} (h : X % 2 ^ b = 0) (hab : a ≤ b) : X % 2 ^ a = 0 :=
  Nat.mod_eq_zero_of_dvd (Nat.dvd_trans (Nat.pow_dvd_pow 2 hab) (Nat.dvd_of_mod_eq_zero h))
theorem two_fits {s k : Nat} (h : s < 32 * k) : Fits k (2 ^ s) := by
  refine ⟨k, Nat.le_refl _, ?_⟩
  rw [D_pow]
  exact Nat.pow_lt_pow_right (by omega) h
theorem upB_gen {v z P a x t s d r q : Nat} (hv : v + z * P = a * s) (e : d * q + r = x * t + z) : v + r * P + q * (P * d) = a * s + x * (t * P) := by
  have h : r * P + q * (P * d) = (d * q + r) * P := by grind
  rw [e] at h
  grind
/-- A row of N digits that fills the block g. -/
structure Big.Row (w : World) (g N : Nat) (F : Nat → Nat) : Prop where
  row : w.rowIs g 130 N (fun i => .int .u32 (F i : Int))
  ws : Big.Ws F
theorem Big.Row.drew {w : World} {g N : Nat} {F : Nat → Nat} (R : Big.Row w g N F) : Big.Row w.drew g N F := ⟨R.row.drew, R.ws⟩
theorem Big.Row.below {w w' : World} {g N : Nat} {F : Nat → Nat} (R : Big.Row w g N F) (h : Below w.heap.size w w') : Big.Row w' g N F :=
  ⟨R.row.of_block (h.block g R.row.lt), R.ws⟩
/-- A number that does not lie in the block g. -/
def ApV (w : World) (g : Nat) (v : Value) (X : Nat) : Prop := ∃ ao n c b o f, v = .slice ao n c ∧ Big.Sl w ao n c b o f ∧ Big.Top f n ∧ Big.V f n = X ∧ (0 < n → b ≠ g)
theorem ApV.below {w w' : World} {g : Nat} {v : Value} {X : Nat} (h : ApV w g v X) (hb : Below w.heap.size w w') : ApV w' g v X := by
  obtain ⟨ao, n, c, b, o, f, e, S, r⟩ := h
  exact ⟨ao, n, c, b, o, f, e, S.below hb, r⟩
theorem ord_neg' {x y : Nat} (h : ord x y < 0) : x < y := by
  unfold ord at h
  split at h
  · assumption
  · split at h <;> omega
/-- A bit that is 0, set. -/
theorem set_bit {x p : Nat} (h : x / 2 ^ p % 2 = 0) : x ||| 2 ^ p = x + 2 ^ p := by
  have h2 : x = 2 ^ (p + 1) * (x / 2 ^ p / 2) + x % 2 ^ p := by
    have a := Nat.div_add_mod x (2 ^ p)
    have b := Nat.div_add_mod (x / 2 ^ p) 2
    rw [h, Nat.add_zero] at b
    rw [Nat.pow_succ, Nat.mul_assoc, b]
    exact a.symm
  have l1 : x % 2 ^ p < 2 ^ p := Nat.mod_lt _ (Nat.pow_pos (by omega))
  generalize x / 2 ^ p / 2 = y at *
  generalize x % 2 ^ p = l at *
  subst h2
  have e1 : l ||| 2 ^ p = 2 ^ p * 1 + l := by rw [Nat.or_comm, Nat.two_pow_add_eq_or_of_lt l1, Nat.mul_one]
  have l2 : l < 2 ^ (p + 1) := by rw [Nat.pow_succ]; omega
  have l3 : 2 ^ p * 1 + l < 2 ^ (p + 1) := by rw [Nat.pow_succ]; omega
  rw [Nat.two_pow_add_eq_or_of_lt l2, Nat.or_assoc, e1, ← Nat.two_pow_add_eq_or_of_lt l3, ← Nat.two_pow_add_eq_or_of_lt l2]
  omega
theorem set_room {x p : Nat} (hx : x < Big.B) (hp : p < 32) (h : x / 2 ^ p % 2 = 0) : x + 2 ^ p < Big.B := by
  rw [← set_bit h, D_two]
  exact Nat.or_lt_two_pow (by rw [← D_two]; exact hx) (Nat.pow_lt_pow_right (by omega) hp)
/-- The number with a digit more in the place k. -/
theorem V_put {F : Nat → Nat} {k N r : Nat} (hk : k < N) : Big.V (Big.put F k (F k + r)) N = Big.V F N + r * Big.B ^ k := by
  have s1 := Big.V_split (Big.put F k (F k + r)) (k + 1) (N - (k + 1))
  have s2 := Big.V_split F (k + 1) (N - (k + 1))
  rw [show k + 1 + (N - (k + 1)) = N by omega] at s1 s2
  rw [s1, s2, Big.V_succ, Big.V_succ, Big.put_at, Big.V_put_low (Nat.le_refl _), Big.V_congr (f := fun i => Big.put F k (F k + r) (k + 1 + i)) (g := fun i => F (k + 1 + i)) (fun i hi => Big.put_ne (by omega)), Nat.add_mul]
  omega
theorem bl_fits {L X : Nat} (h : Fits L X) : bl X ≤ 32 * L := bl_mono_le (by rw [← D_pow]; exact h.lt)
theorem over_mod {Q k : Nat} (h : Q % 2 ^ (k + 1) = 0) : (Q + 2 ^ k) % 2 ^ k = 0 ∧ Q % 2 ^ k = 0 ∧ Q / 2 ^ k % 2 = 0 := by
  have a := low_mono h (show k ≤ k + 1 by omega)
  refine ⟨by rw [Nat.add_mod_right]; exact a, a, ?_⟩
  have b := low_step a
  rw [h] at b
  have p : 0 < 2 ^ k := Nat.pow_pos (by omega)
  rcases Nat.mul_eq_zero.1 b.symm with q | q
  · omega
  · exact q
/-- x is what the number, a hair less or more, is rounded to, with an end. -/
def NrT (f T : Nat) (L : Int) (n d : Nat) (e t : Int) (x : Nat) : Prop := ∃ b, RDT f L n d e t b ∧ x = rdE f T b
theorem NrT.uniq {f T : Nat} {L : Int} {n d : Nat} {e t : Int} {x y : Nat} (d0 : 0 < d) (h : NrT f T L n d e t x) (k : NrT f T L n d e t y) : x = y := by
  obtain ⟨b, hb, rfl⟩ := h
  obtain ⟨c, hc, rfl⟩ := k
  rw [hb.uniq d0 hc]
theorem NrT.rise {f T : Nat} {L : Int} {n d n' d' : Nat} {e e' t t' : Int} {x y : Nat} (d0 : 0 < d) (d0' : 0 < d') (h : fLe n d e n' d' e') (ht : t ≤ t' ∨ fLt n d e n' d' e') (k : NrT f T L n d e t x) (k' : NrT f T L n' d' e' t' y) : x ≤ y := by
  obtain ⟨b, hb, rfl⟩ := k
  obtain ⟨c, hc, rfl⟩ := k'
  exact rdE_mono (RDT.rise d0 d0' h ht hb hc)
theorem NrT_iff {f T : Nat} {L : Int} {n d n' d' : Nat} {e e' t : Int} (d0 : 0 < d) (d0' : 0 < d') (h : Eqv (n * d') e (n' * d) e') (x : Nat) : NrT f T L n d e t x ↔ NrT f T L n' d' e' t x := by
  unfold NrT
  constructor
  · rintro ⟨b, hb, rfl⟩
    exact ⟨b, (RDT_iff d0 d0' h b).1 hb, rfl⟩
  · rintro ⟨b, hb, rfl⟩
    exact ⟨b, (RDT_iff d0 d0' h b).2 hb, rfl⟩
theorem RDT_nought {f : Nat} {L : Int} {d : Nat} {e t : Int} (d0 : 0 < d) : RDT f L 0 d e t 0 := by
  refine ⟨.inl ⟨min e (hX f L 0), by omega, by omega, ?_⟩, .inl rfl⟩
  unfold ev hM
  rw [Nat.zero_mul]
  exact Nat.mul_pos d0 (Nat.mul_pos (by omega) (Nat.two_pow_pos _))
theorem NrT_nought {f T : Nat} {L : Int} {d : Nat} {e t : Int} (d0 : 0 < d) (hT : 0 < T) : NrT f T L 0 d e t 0 := by
  refine ⟨0, RDT_nought d0, ?_⟩
  unfold rdE
  rw [if_pos (Nat.mul_pos hT (Nat.two_pow_pos _))]
end Go.Proofs.YtkmnkogbafhfdaaDoor
