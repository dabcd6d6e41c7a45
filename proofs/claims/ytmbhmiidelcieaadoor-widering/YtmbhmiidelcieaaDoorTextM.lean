/-
  What the memory of wide.Text holds while it lays digits; the number and its digits: no walk in this text.
-/
import Derived.Test.YtmbhmiidelcieaaDoorDiv3
import Derived.Laws.BytesArg
namespace Go.Proofs.YtmbhmiidelcieaaDoor
open Go.RowKit

theorem divw_eq {h l b : Int} (hb : 0 < b) : h / b * 18446744073709551616 + dvQ (h % b) l b = (h * 18446744073709551616 + l) / b ∧ dvR (h % b) l b = (h * 18446744073709551616 + l) % b := by
  have e := Int.mul_ediv_add_emod h b
  have f : h * 18446744073709551616 + l = (h % b * 18446744073709551616 + l) + b * (h / b * 18446744073709551616) := by
    rw [← Int.mul_assoc]; omega
  unfold dvQ dvR
  constructor
  · rw [f, Int.add_mul_ediv_left _ _ (by omega), Int.add_comm]
  · rw [f, Int.add_mul_emod_self_left]

theorem divw_words {h l b : Int} (h1 : Word h) (h2 : Word l) (h3 : Word b) (hb : 0 < b) : Word (h / b) ∧ Word (dvQ (h % b) l b) := by
  have m1 := Int.emod_nonneg h (b := b) (by omega)
  have m2 := Int.emod_lt_of_pos h hb
  exact ⟨⟨Int.ediv_nonneg h1.1 (by omega), Int.lt_of_le_of_lt (Int.ediv_le_self _ h1.1) h1.2⟩, dvQ_word ⟨m1, Int.lt_trans m2 h3.2⟩ h2 m2⟩

/-- What the memory holds when the k lowest digits of V are laid, and the number h, l is left. N: the first new block. -/
structure TInv (N : Nat) (w wr : World) (V k : Nat) (h l : Int) : Prop where
  box0 : wr.cell? ⟨N, 0, none⟩ = some (.int .u64 h)
  box1 : wr.cell? ⟨N, 1, none⟩ = some (.int .u64 l)
  fz0 : ∀ o, wr.frozen? ⟨N, o, none⟩ = false
  fz1 : ∀ o, wr.frozen? ⟨N + 1, o, none⟩ = false
  cells : ∀ j, j < 39 → (wr.cell? ⟨N + 1, j, none⟩).isSome = true
  digs : ∀ j, j < k → wr.cell? ⟨N + 1, 38 - j, none⟩ = some (.int .u8 ((48 + V / 10 ^ j % 10 : Nat) : Int))
  below : Below N w wr
  size : N + 2 ≤ wr.heap.size

theorem TInv.step {N : Nat} {w wr wa : World} {V k o : Nat} {h l h' l' d : Int} (I : TInv N w wr V k h l) (hb : Below wr.heap.size wr wa) (hk : k < 39) (ho : o = 38 - k) (hd : d = ((48 + V / 10 ^ k % 10 : Nat) : Int)) :
    TInv N w (((wa.setCell ⟨N, 0, none⟩ (.int .u64 h')).setCell ⟨N, 1, none⟩ (.int .u64 l')).setCell ⟨N + 1, o, none⟩ (.int .u8 d)) V (k + 1) h' l' := by
  have hs := I.size
  have c : ∀ b o, b < wr.heap.size → wa.cell? ⟨b, o, none⟩ = wr.cell? ⟨b, o, none⟩ := fun b o hh => hb.cell (p := ⟨b, o, none⟩) hh
  have f : ∀ b o, b < wr.heap.size → wa.frozen? ⟨b, o, none⟩ = wr.frozen? ⟨b, o, none⟩ := fun b o hh => hb.frozen (p := ⟨b, o, none⟩) hh
  have a0 : wa.cell? ⟨N, 0, none⟩ = some (.int .u64 h) := (c _ _ (by omega)).trans I.box0
  have a1 : wa.cell? ⟨N, 1, none⟩ = some (.int .u64 l) := (c _ _ (by omega)).trans I.box1
  have other : ∀ j, j ≠ o → (((wa.setCell ⟨N, 0, none⟩ (.int .u64 h')).setCell ⟨N, 1, none⟩ (.int .u64 l')).setCell ⟨N + 1, o, none⟩ (.int .u8 d)).cell? ⟨N + 1, j, none⟩ = wr.cell? ⟨N + 1, j, none⟩ := by
    intro j hj
    rw [World.cell?_setCell_other _ _ _ _ (by rintro ⟨⟩; exact hj rfl), World.cell?_setCell_other _ _ _ _ (by simp), World.cell?_setCell_other _ _ _ _ (by simp), c _ _ (by omega)]
  have same : (((wa.setCell ⟨N, 0, none⟩ (.int .u64 h')).setCell ⟨N, 1, none⟩ (.int .u64 l')).setCell ⟨N + 1, o, none⟩ (.int .u8 d)).cell? ⟨N + 1, o, none⟩ = some (.int .u8 d) := by
    apply World.cell?_setCell_same'
    rw [World.cell?_setCell_other _ _ _ _ (by simp), World.cell?_setCell_other _ _ _ _ (by simp), c _ _ (by omega)]
    exact I.cells o (by omega)
  refine ⟨?_, ?_, ?_, ?_, ?_, ?_, ?_, ?_⟩
  · rw [World.cell?_setCell_other _ _ _ _ (by simp), World.cell?_setCell_other _ _ _ _ (by simp)]
    exact World.cell?_setCell_same _ _ _ a0
  · rw [World.cell?_setCell_other _ _ _ _ (by simp)]
    exact World.cell?_setCell_same _ _ _ ((World.cell?_setCell_other _ _ _ _ (by simp)).trans a1)
  · intro o'; simp only [World.frozen?_setCell]; rw [f _ _ (by omega)]; exact I.fz0 o'
  · intro o'; simp only [World.frozen?_setCell]; rw [f _ _ (by omega)]; exact I.fz1 o'
  · intro j hj
    by_cases e : j = o
    · subst e; rw [same]; rfl
    · rw [other j e]; exact I.cells j hj
  · intro j hj
    by_cases e : j = k
    · subst e; rw [← ho, same, hd]
    · rw [other _ (by omega)]; exact I.digs j (by omega)
  · exact (((I.below.trans (hb.mono (by omega))).setCell (Nat.le_refl _) _).setCell (Nat.le_refl _) _).setCell (Nat.le_succ _) _
  · have := hb.size; simp only [World.size_setCell]; omega

theorem TInv.init {w : World} (V : Nat) (h l : Int) (c : Array Value) (t : TypeId) (hc : c.size = 39) :
    TInv w.heap.size w ((w.alloc (.cells #[.int .u64 h, .int .u64 l] 24)).alloc (.cells c t)) V 0 h l := by
  refine ⟨by simp, by simp, ?_, ?_, ?_, fun j hj => by omega, ((Below.refl _ _).alloc (Nat.le_refl _) _).alloc (by simp) _, by simp⟩
  · intro o; rw [frozen?_alloc_cells]; exact World.frozen?_alloc_new _ _ _ _
  · intro o; exact World.frozen?_alloc_at _ _ _ _ (by simp)
  · intro j hj
    have e := World.cell?_alloc2_new (w := w) (.cells #[.int .u64 h, .int .u64 l] 24) c t j
    rw [e, Array.getElem?_eq_getElem (by omega)]; rfl

/-- The decimal digits of a number, as a text. -/
def txt (V : Nat) : ByteArray := ⟨(Lib.decDigits V).toArray⟩

/-- The bytes of the digits from place k down to place 0. -/
def nums (V k : Nat) : List Int := (List.range (k + 1)).map fun i => ((48 + V / 10 ^ (k - i) % 10 : Nat) : Int)

theorem nums_len (V k : Nat) : (nums V k).length = k + 1 := by simp [nums]

theorem nums_at (V k i : Nat) (hi : i < k + 1) : (nums V k).getD i 0 = ((48 + V / 10 ^ (k - i) % 10 : Nat) : Int) := by
  unfold nums
  rw [List.getD_eq_getElem?_getD, List.getElem?_map, List.getElem?_range hi]
  rfl

theorem count_digits {V k : Nat} (h0 : V / 10 ^ (k + 1) = 0) (h1 : k = 0 ∨ V / 10 ^ k ≠ 0) : Lib.nDigits V = k + 1 := by
  have hp : 0 < 10 ^ (k + 1) := Nat.pow_pos (by omega)
  have l : V < 10 ^ (k + 1) := (Nat.div_eq_zero_iff_lt hp).mp h0
  rcases h1 with rfl | h1
  · exact Lib.nDigits_small (by simpa using l)
  · refine Lib.nDigits_unique k V ?_ l
    by_cases c : V < 10 ^ k
    · exact absurd (Nat.div_eq_of_lt c) h1
    · omega

theorem nums_txt {V k : Nat} (h : Lib.nDigits V = k + 1) : strOfNums (nums V k) = txt V := by
  unfold strOfNums txt nums
  rw [Lib.decDigits_eq, h, List.map_map]
  rfl

theorem pow_div (V k : Nat) : V / 10 ^ k / 10 = V / 10 ^ (k + 1) := by rw [Nat.div_div_eq_div_mul, Nat.pow_succ]

/-- A number of two words has at most 39 digits. -/
theorem few_digits {V k : Nat} (hV : V < 340282366920938463463374607431768211456) (h : V / 10 ^ k ≠ 0) : k < 39 := by
  by_cases c : k < 39
  · exact c
  · exfalso
    apply h
    apply Nat.div_eq_of_lt
    have : 10 ^ 39 ≤ 10 ^ k := Nat.pow_le_pow_right (by omega) (by omega)
    omega

end Go.Proofs.YtmbhmiidelcieaaDoor
