/-
  Plain arithmetic of numbers of two words: shifts by every distance, the two words put together of bits: no walk in this text.
-/
import Derived.Test.YtmbhmiidelcieaaDoorBits
import Derived.Lib.TrailingZeros
namespace Go.Proofs.YtmbhmiidelcieaaDoor
open Go.RowKit

/-- The number of two words, and its words. -/
def val (h l : Int) : Nat := (h * 18446744073709551616 + l).toNat
def hiW (v : Nat) : Int := ((v / 18446744073709551616 : Nat) : Int)
def loW (v : Nat) : Int := ((v % 18446744073709551616 : Nat) : Int)

theorem val_lt {h l : Int} (h1 : Word h) (h2 : Word l) : val h l < 340282366920938463463374607431768211456 := by
  unfold Word at *; unfold val; omega
theorem hiW_val {h l : Int} (h1 : Word h) (h2 : Word l) : hiW (val h l) = h := by
  unfold Word at *; unfold val hiW; omega
theorem loW_val {h l : Int} (h1 : Word h) (h2 : Word l) : loW (val h l) = l := by
  unfold Word at *; unfold val loW; omega
theorem hiW_word {v : Nat} (h : v < 340282366920938463463374607431768211456) : Word (hiW v) := by
  unfold Word hiW; omega
theorem loW_word (v : Nat) : Word (loW v) := by unfold Word loW; omega
theorem val_hl (v : Nat) : val (hiW v) (loW v) = v := by
  unfold val hiW loW; omega
theorem val_int {h l : Int} (h1 : Word h) (h2 : Word l) : (val h l : Int) = h * 18446744073709551616 + l := by
  unfold Word at *; unfold val; omega
theorem hiW_zero : hiW 0 = 0 := by decide
theorem loW_zero : loW 0 = 0 := by decide
theorem hl_zero {v : Nat} (a : hiW v = 0) (b : loW v = 0) : v = 0 := by
  unfold hiW at a; unfold loW at b; omega

theorem pow_cast (s : Nat) : ((2 : Int) ^ s) = ((2 ^ s : Nat) : Int) := by push_cast; rfl

/-- The two shifts' parts, in numbers from 0 on. -/
theorem shl_nat (a b s : Nat) (hb : b < 18446744073709551616) (h1 : s ≤ 64) :
    ((a * 18446744073709551616 + b) * 2 ^ s) / 18446744073709551616 = a * 2 ^ s + b / 2 ^ (64 - s) ∧ ((a * 18446744073709551616 + b) * 2 ^ s) % 18446744073709551616 = b * 2 ^ s % 18446744073709551616 ∧ b / 2 ^ (64 - s) < 2 ^ s := by
  have p2 : 2 ^ (64 - s) * 2 ^ s = 18446744073709551616 := by rw [← Nat.pow_add, show 64 - s + s = 64 by omega]
  have s0 : 0 < 2 ^ s := Nat.pow_pos (by omega)
  have i4 : b * 2 ^ s / 18446744073709551616 = b / 2 ^ (64 - s) := by rw [← p2, Nat.mul_div_mul_right _ _ s0]
  have i5 : b / 2 ^ (64 - s) < 2 ^ s := by
    rw [Nat.div_lt_iff_lt_mul (Nat.pow_pos (by omega)), Nat.mul_comm, p2]; exact hb
  have e : (a * 18446744073709551616 + b) * 2 ^ s = a * 2 ^ s * 18446744073709551616 + b * 2 ^ s := by rw [Nat.add_mul, Nat.mul_right_comm]
  rw [e]
  refine ⟨by omega, by omega, i5⟩

theorem shl_or (a c s : Nat) (h1 : s ≤ 64) (hc : c < 2 ^ s) : (a * 2 ^ s % 18446744073709551616) ||| c = (a * 2 ^ s + c) % 18446744073709551616 := by
  have p2 : 2 ^ (64 - s) * 2 ^ s = 18446744073709551616 := by rw [← Nat.pow_add, show 64 - s + s = 64 by omega]
  have e : a * 2 ^ s % 18446744073709551616 = 2 ^ s * (a % 2 ^ (64 - s)) := by
    rw [← p2, Nat.mul_mod_mul_right, Nat.mul_comm]
  have l : 2 ^ s * (a % 2 ^ (64 - s)) + c < 18446744073709551616 := by
    have q : a % 2 ^ (64 - s) + 1 ≤ 2 ^ (64 - s) := Nat.mod_lt _ (Nat.pow_pos (by omega))
    have r := Nat.mul_le_mul_left (2 ^ s) q
    rw [Nat.mul_add, Nat.mul_comm (2 ^ s) (2 ^ (64 - s)), p2] at r
    omega
  rw [e, ← Nat.two_pow_add_eq_or_of_lt hc, Nat.add_mod, e]
  have c2 : c < 18446744073709551616 := by omega
  rw [Nat.mod_eq_of_lt c2, Nat.mod_eq_of_lt l]

/-- A shift up by s, from 1 to 63: the words. -/
theorem shl_words {h l : Int} (w1 : Word h) (w2 : Word l) (s : Nat) (h1 : s ≤ 64) :
    bits .or .u64 (IntKind.u64.wrap (h * 2 ^ s)) (l / 2 ^ (64 - s)) = hiW (val h l * 2 ^ s % 340282366920938463463374607431768211456) ∧ IntKind.u64.wrap (l * 2 ^ s) = loW (val h l * 2 ^ s % 340282366920938463463374607431768211456) := by
  obtain ⟨a, rfl⟩ := Int.eq_ofNat_of_zero_le w1.1
  obtain ⟨b, rfl⟩ := Int.eq_ofNat_of_zero_le w2.1
  have w22 := w2.2
  have hv : val (a : Int) (b : Int) = a * 18446744073709551616 + b := by unfold val; omega
  obtain ⟨e1, e2, e3⟩ := shl_nat a b s (by omega) h1
  have c1 : IntKind.u64.wrap ((a : Int) * 2 ^ s) = ((a * 2 ^ s % 18446744073709551616 : Nat) : Int) := by rw [pow_cast, ← Int.natCast_mul, IntKind.wrap_u64]; omega
  have c2 : IntKind.u64.wrap ((b : Int) * 2 ^ s) = ((b * 2 ^ s % 18446744073709551616 : Nat) : Int) := by rw [pow_cast, ← Int.natCast_mul, IntKind.wrap_u64]; omega
  have c3 : ((b : Int) / 2 ^ (64 - s)) = ((b / 2 ^ (64 - s) : Nat) : Int) := by rw [pow_cast, ← Int.natCast_ediv]
  have l3 : b / 2 ^ (64 - s) < 18446744073709551616 := Nat.lt_of_le_of_lt (Nat.div_le_self _ _) (by omega)
  constructor
  · rw [c1, c3, bits_or_u64_nat _ _ (Nat.mod_lt _ (by omega)) l3, shl_or a _ s h1 e3, ← e1, hv]
    unfold hiW
    generalize (a * 18446744073709551616 + b) * 2 ^ s = V
    omega
  · rw [c2, ← e2, hv]
    unfold loW
    generalize (a * 18446744073709551616 + b) * 2 ^ s = V
    omega

/-- A shift up by s, from 64 on: the words. -/
theorem shl_words64 {h l : Int} (w1 : Word h) (w2 : Word l) (s : Nat) (h1 : 64 ≤ s) :
    IntKind.u64.wrap (l * 2 ^ (s - 64)) = hiW (val h l * 2 ^ s % 340282366920938463463374607431768211456) ∧ 0 = loW (val h l * 2 ^ s % 340282366920938463463374607431768211456) := by
  obtain ⟨a, rfl⟩ := Int.eq_ofNat_of_zero_le w1.1
  obtain ⟨b, rfl⟩ := Int.eq_ofNat_of_zero_le w2.1
  have hv : val (a : Int) (b : Int) = a * 18446744073709551616 + b := by unfold val; omega
  have p : 2 ^ s = 2 ^ (s - 64) * 18446744073709551616 := by
    rw [show (18446744073709551616 : Nat) = 2 ^ 64 by decide, ← Nat.pow_add, show s - 64 + 64 = s by omega]
  have e : (a * 18446744073709551616 + b) * 2 ^ s = a * 2 ^ (s - 64) * 340282366920938463463374607431768211456 + b * 2 ^ (s - 64) * 18446744073709551616 := by
    rw [p, Nat.add_mul]
    have x1 : a * 18446744073709551616 * (2 ^ (s - 64) * 18446744073709551616) = a * 2 ^ (s - 64) * 340282366920938463463374607431768211456 := by
      generalize 2 ^ (s - 64) = q
      rw [Nat.mul_mul_mul_comm]
    have x2 : b * (2 ^ (s - 64) * 18446744073709551616) = b * 2 ^ (s - 64) * 18446744073709551616 := by rw [Nat.mul_assoc]
    rw [x1, x2]
  have c2 : IntKind.u64.wrap ((b : Int) * 2 ^ (s - 64)) = ((b * 2 ^ (s - 64) % 18446744073709551616 : Nat) : Int) := by rw [pow_cast, ← Int.natCast_mul, IntKind.wrap_u64]; omega
  rw [hv, e, c2]
  unfold hiW loW
  generalize a * 2 ^ (s - 64) = x
  generalize b * 2 ^ (s - 64) = y
  constructor <;> omega

/-- A shift up by s, from 128 on: nothing is left. -/
theorem shl_none (v s : Nat) (h1 : 128 ≤ s) : v * 2 ^ s % 340282366920938463463374607431768211456 = 0 := by
  have p : 2 ^ s = 2 ^ (s - 128) * 340282366920938463463374607431768211456 := by
    rw [show (340282366920938463463374607431768211456 : Nat) = 2 ^ 128 by decide, ← Nat.pow_add, show s - 128 + 128 = s by omega]
  rw [p, ← Nat.mul_assoc, Nat.mul_mod_left]

/-- A shift down by s, up to 64: the words. -/
theorem shr_words {h l : Int} (w1 : Word h) (w2 : Word l) (s : Nat) (h1 : s ≤ 64) :
    h / 2 ^ s = hiW (val h l / 2 ^ s) ∧ bits .or .u64 (l / 2 ^ s) (IntKind.u64.wrap (h * 2 ^ (64 - s))) = loW (val h l / 2 ^ s) := by
  obtain ⟨a, rfl⟩ := Int.eq_ofNat_of_zero_le w1.1
  obtain ⟨b, rfl⟩ := Int.eq_ofNat_of_zero_le w2.1
  have w22 := w2.2
  have hv : val (a : Int) (b : Int) = a * 18446744073709551616 + b := by unfold val; omega
  have p2 : 2 ^ (64 - s) * 2 ^ s = 18446744073709551616 := by rw [← Nat.pow_add, show 64 - s + s = 64 by omega]
  have s0 : 0 < 2 ^ s := Nat.pow_pos (by omega)
  have e : (a * 18446744073709551616 + b) / 2 ^ s = a * 2 ^ (64 - s) + b / 2 ^ s := by
    rw [← p2, ← Nat.mul_assoc, Nat.add_comm, Nat.add_mul_div_right _ _ s0, Nat.add_comm]
  have l5 : b / 2 ^ s < 2 ^ (64 - s) := by rw [Nat.div_lt_iff_lt_mul s0, p2]; omega
  have c1 : ((a : Int) / 2 ^ s) = ((a / 2 ^ s : Nat) : Int) := by rw [pow_cast, ← Int.natCast_ediv]
  have c2 : IntKind.u64.wrap ((a : Int) * 2 ^ (64 - s)) = ((a * 2 ^ (64 - s) % 18446744073709551616 : Nat) : Int) := by rw [pow_cast, ← Int.natCast_mul, IntKind.wrap_u64]; omega
  have c3 : ((b : Int) / 2 ^ s) = ((b / 2 ^ s : Nat) : Int) := by rw [pow_cast, ← Int.natCast_ediv]
  have l3 : b / 2 ^ s < 18446744073709551616 := Nat.lt_of_le_of_lt (Nat.div_le_self _ _) (by omega)
  constructor
  · rw [c1, hv]
    unfold hiW
    rw [Nat.div_div_eq_div_mul, Nat.mul_comm (2 ^ s), ← Nat.div_div_eq_div_mul, show (a * 18446744073709551616 + b) / 18446744073709551616 = a by omega]
  · have o := shl_or a (b / 2 ^ s) (64 - s) (by omega) l5
    rw [c2, c3, bits_or_u64_nat _ _ l3 (Nat.mod_lt _ (by omega)), Nat.or_comm, o, ← e, hv]
    rfl

/-- A shift down by s, from 64 on: the words. -/
theorem shr_words64 {h l : Int} (w1 : Word h) (w2 : Word l) (s : Nat) (h1 : 64 ≤ s) :
    0 = hiW (val h l / 2 ^ s) ∧ h / 2 ^ (s - 64) = loW (val h l / 2 ^ s) := by
  obtain ⟨a, rfl⟩ := Int.eq_ofNat_of_zero_le w1.1
  obtain ⟨b, rfl⟩ := Int.eq_ofNat_of_zero_le w2.1
  have w12 := w1.2
  have w22 := w2.2
  have hv : val (a : Int) (b : Int) = a * 18446744073709551616 + b := by unfold val; omega
  have p : 2 ^ s = 18446744073709551616 * 2 ^ (s - 64) := by
    rw [show (18446744073709551616 : Nat) = 2 ^ 64 by decide, ← Nat.pow_add, show 64 + (s - 64) = s by omega]
  have e : (a * 18446744073709551616 + b) / 2 ^ s = a / 2 ^ (s - 64) := by
    rw [p, ← Nat.div_div_eq_div_mul, show (a * 18446744073709551616 + b) / 18446744073709551616 = a by omega]
  have l3 : a / 2 ^ (s - 64) < 18446744073709551616 := Nat.lt_of_le_of_lt (Nat.div_le_self _ _) (by omega)
  have c1 : ((a : Int) / 2 ^ (s - 64)) = ((a / 2 ^ (s - 64) : Nat) : Int) := by rw [pow_cast, ← Int.natCast_ediv]
  rw [hv, e, c1]
  unfold hiW loW
  generalize a / 2 ^ (s - 64) = x at *
  constructor <;> omega

/-- A shift down by s, from 128 on: nothing is left. -/
theorem shr_none {v : Nat} (hv : v < 340282366920938463463374607431768211456) (s : Nat) (h1 : 128 ≤ s) : v / 2 ^ s = 0 ∧ v % 2 ^ s = v := by
  have p : 2 ^ 128 ≤ 2 ^ s := Nat.pow_le_pow_right (by omega) h1
  have q : v < 2 ^ s := Nat.lt_of_lt_of_le hv p
  exact ⟨Nat.div_eq_of_lt q, Nat.mod_eq_of_lt q⟩

/-- One place more: up, down, and what falls out. -/
theorem shl_step (v i : Nat) : v * 2 ^ i % 340282366920938463463374607431768211456 * 2 ^ 1 % 340282366920938463463374607431768211456 = v * 2 ^ (i + 1) % 340282366920938463463374607431768211456 := by
  rw [Nat.mod_mul_mod, Nat.mul_assoc, ← Nat.pow_add]
theorem shr_step (v i : Nat) : v / 2 ^ i / 2 ^ 1 = v / 2 ^ (i + 1) := by rw [Nat.div_div_eq_div_mul, ← Nat.pow_add]
theorem cut_step (v i : Nat) : (v % 2 ^ (i + 1) = 0) ↔ (v % 2 ^ i = 0 ∧ v / 2 ^ i % 2 = 0) := by
  rw [Nat.mod_pow_succ]
  have p : 0 < 2 ^ i := Nat.pow_pos (by omega)
  constructor
  · intro h
    have a : v % 2 ^ i = 0 := by omega
    refine ⟨a, ?_⟩
    have b : 2 ^ i * (v / 2 ^ i % 2) = 0 := by omega
    rcases Nat.mul_eq_zero.mp b with c | c <;> omega
  · rintro ⟨a, b⟩; rw [a, b]; simp
theorem lo_bit {v : Nat} : bits .and .u64 (loW v) 1 = ((v % 2 : Nat) : Int) := by
  have h := bits_and_u64_nat (v % 18446744073709551616) 1 (by omega) (by omega)
  rw [Nat.and_one_is_mod] at h
  have e : v % 18446744073709551616 % 2 = v % 2 := by omega
  rw [e] at h
  exact h

/-- A number shifted up and down by every distance; whether anything is cut. -/
def shl (v : Nat) (n : Int) : Nat := v * 2 ^ n.toNat % 340282366920938463463374607431768211456
def shr (v : Nat) (n : Int) : Nat := v / 2 ^ n.toNat
def cutB (v : Nat) (n : Int) : Bool := decide (v % 2 ^ n.toNat ≠ 0)

theorem shl_lt (v : Nat) (n : Int) : shl v n < 340282366920938463463374607431768211456 := Nat.mod_lt _ (by omega)
theorem shr_lt {v : Nat} (hv : v < 340282366920938463463374607431768211456) (n : Int) : shr v n < 340282366920938463463374607431768211456 := Nat.lt_of_le_of_lt (Nat.div_le_self _ _) hv

theorem shl_exit {v k : Nat} {n : Int} (h0 : (k : Int) ≤ n ∨ k = 0) (hx : n ≤ k ∨ 128 ≤ k) : v * 2 ^ k % 340282366920938463463374607431768211456 = shl v n := by
  unfold shl
  by_cases c : n.toNat = k
  · rw [c]
  · rw [shl_none v k (by omega), shl_none v n.toNat (by omega)]
theorem shr_exit {v k : Nat} (hv : v < 340282366920938463463374607431768211456) {n : Int} (h0 : (k : Int) ≤ n ∨ k = 0) (hx : n ≤ k ∨ 128 ≤ k) : v / 2 ^ k = shr v n ∧ decide (v % 2 ^ k ≠ 0) = cutB v n := by
  unfold shr cutB
  by_cases c : n.toNat = k
  · rw [c]; exact ⟨rfl, rfl⟩
  · rw [(shr_none hv k (by omega)).1, (shr_none hv k (by omega)).2, (shr_none hv n.toNat (by omega)).1, (shr_none hv n.toNat (by omega)).2]; exact ⟨rfl, rfl⟩

/-- What the memory of the document's shifts holds: a box with the number, and the place of the answer. -/
structure LInv (N : Nat) (w wr : World) (h l : Int) : Prop where
  box0 : wr.cell? ⟨N, 0, none⟩ = some (.int .u64 h)
  box1 : wr.cell? ⟨N, 1, none⟩ = some (.int .u64 l)
  fz0 : ∀ o, wr.frozen? ⟨N, o, none⟩ = false
  res0 : wr.cell? ⟨N + 1, 0, none⟩ = some (.int .u64 0)
  res1 : wr.cell? ⟨N + 1, 1, none⟩ = some (.int .u64 0)
  fz1 : ∀ o, wr.frozen? ⟨N + 1, o, none⟩ = false
  below : Below N w wr
  size : N + 2 ≤ wr.heap.size

theorem LInv.init (w : World) (h l : Int) : LInv w.heap.size w ((w.alloc (.cells #[.int .u64 h, .int .u64 l] 24)).alloc (.cells #[.int .u64 0, .int .u64 0] 24)) h l := by
  refine ⟨by simp, by simp, ?_, by simp, by simp, ?_, ((Below.refl _ _).alloc (Nat.le_refl _) _).alloc (by simp) _, by simp⟩
  · intro o; rw [frozen?_alloc_cells]; exact World.frozen?_alloc_new _ _ _ _
  · intro o; exact World.frozen?_alloc_at _ _ _ _ (by simp)

theorem LInv.step {N : Nat} {w wr : World} {h l : Int} (I : LInv N w wr h l) (h' l' : Int) : LInv N w ((wr.setCell ⟨N, 0, none⟩ (.int .u64 h')).setCell ⟨N, 1, none⟩ (.int .u64 l')) h' l' := by
  refine ⟨?_, ?_, ?_, ?_, ?_, ?_, ?_, ?_⟩
  · rw [World.cell?_setCell_other _ _ _ _ (by simp)]
    exact World.cell?_setCell_same _ _ _ I.box0
  · exact World.cell?_setCell_same _ _ _ ((World.cell?_setCell_other _ _ _ _ (by simp)).trans I.box1)
  · intro o; simp only [World.frozen?_setCell]; exact I.fz0 o
  · rw [World.cell?_setCell_other _ _ _ _ (by simp), World.cell?_setCell_other _ _ _ _ (by simp)]; exact I.res0
  · rw [World.cell?_setCell_other _ _ _ _ (by simp), World.cell?_setCell_other _ _ _ _ (by simp)]; exact I.res1
  · intro o; simp only [World.frozen?_setCell]; exact I.fz1 o
  · exact (I.below.setCell (Nat.le_refl _) _).setCell (Nat.le_refl _) _
  · simp only [World.size_setCell]; exact I.size

end Go.Proofs.YtmbhmiidelcieaaDoor
