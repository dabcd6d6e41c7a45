/-
  Plain facts on texts of digits and the numbers that they are: no walk in this text.
-/
import Derived.Test.YtmbhmiidelcieaaDoorShM
import Derived.Test.YtmbhmiidelcieaaDoorTextM
namespace Go.Proofs.YtmbhmiidelcieaaDoor
open Go.RowKit

/-- The byte at a place, 0 behind the end. -/
def byteAt (s : ByteArray) (k : Nat) : Nat := (s.data.toList.getD k 0).toNat
theorem byteAt_eq (s : ByteArray) (k : Nat) (h : k < s.size) : byteAt s k = (s[k]'h).toNat := by
  unfold byteAt
  have : k < s.data.toList.length := by simpa using h
  rw [List.getD_eq_getElem?_getD, List.getElem?_eq_getElem this]
  rfl
theorem byteAt_lt (s : ByteArray) (k : Nat) : byteAt s k < 256 := UInt8.toNat_lt _

/-- The number of the first k bytes. -/
def num : ByteArray → Nat → Nat
  | _, 0 => 0
  | s, k + 1 => num s k * 10 + (byteAt s k - 48)

theorem num_mono (s : ByteArray) : ∀ {k n : Nat}, k ≤ n → num s k ≤ num s n
  | k, 0, h => by
    have e : k = 0 := by omega
    rw [e]; exact Nat.le_refl _
  | k, n + 1, h => by
    by_cases e : k = n + 1
    · rw [e]; exact Nat.le_refl _
    · have a := num_mono s (show k ≤ n by omega)
      have b : num s (n + 1) = num s n * 10 + (byteAt s n - 48) := rfl
      omega

/-- The first k bytes are digits. -/
def digitsTo (s : ByteArray) (k : Nat) : Prop := ∀ j, j < k → 48 ≤ byteAt s j ∧ byteAt s j ≤ 57

/-- The text is a number's: digits, one at least, no needless nought ahead. -/
def isNum (s : ByteArray) : Prop := 0 < s.size ∧ digitsTo s s.size ∧ (byteAt s 0 = 48 → s.size = 1)

noncomputable def isNumB (s : ByteArray) : Bool := @decide (isNum s) (Classical.propDecidable _)
theorem isNumB_true {s : ByteArray} (h : isNum s) : true = isNumB s := (@decide_eq_true _ (Classical.propDecidable _) h).symm
theorem isNumB_false {s : ByteArray} (h : ¬ isNum s) : false = isNumB s := (@decide_eq_false _ (Classical.propDecidable _) h).symm
theorem isNum_of {s : ByteArray} (h : isNumB s = true) : isNum s := @of_decide_eq_true _ (Classical.propDecidable _) h
theorem not_isNum_of {s : ByteArray} (h : isNumB s = false) : ¬ isNum s := @of_decide_eq_false _ (Classical.propDecidable _) h

theorem toList_data (s : ByteArray) : s.toList = s.data.toList := by
  have go : ∀ (n i : Nat) (r : List UInt8), n = s.size - i → ByteArray.toList.loop s i r = r.reverse ++ s.data.toList.drop i := by
    intro n
    induction n with
    | zero =>
      intro i r h
      rw [ByteArray.toList.loop, if_neg (by omega), List.drop_eq_nil_of_le (by simpa using (show s.size ≤ i by omega))]
      simp
    | succ n ih =>
      intro i r h
      have hi : i < s.size := by omega
      have hl : i < s.data.toList.length := by simpa using hi
      rw [ByteArray.toList.loop, if_pos hi, ih (i + 1) _ (by omega), List.drop_eq_getElem_cons hl, List.reverse_cons, List.append_assoc]
      congr 1
      simp only [List.singleton_append, List.cons.injEq, and_true]
      simp [ByteArray.get!, hi]
  show ByteArray.toList.loop s 0 [] = _
  simpa using go s.size 0 [] (by omega)

theorem digitsTo_succ {s : ByteArray} {k : Nat} (h : digitsTo s k) (a : 48 ≤ byteAt s k) (b : byteAt s k ≤ 57) : digitsTo s (k + 1) := by
  intro j hj
  by_cases e : j = k
  · subst e; exact ⟨a, b⟩
  · exact h j (by omega)

/-! ### The text of a number -/
theorem txt_size (V : Nat) : (txt V).size = Lib.nDigits V := by
  show (Lib.decDigits V).toArray.size = _
  rw [List.size_toArray, Lib.decDigits_length]
theorem txt_at {V k : Nat} (h : k < Lib.nDigits V) : byteAt (txt V) k = 48 + V / 10 ^ (Lib.nDigits V - 1 - k) % 10 := by
  unfold byteAt txt
  rw [List.toList_toArray, Lib.decDigits_eq, List.getD_eq_getElem?_getD, List.getElem?_map, List.getElem?_range h]
  simp only [Option.map_some, Option.getD_some, Lib.dg]
  rw [UInt8.toNat_ofNat']
  omega
theorem txt_num (V : Nat) : ∀ k, k ≤ Lib.nDigits V → num (txt V) k = V / 10 ^ (Lib.nDigits V - k)
  | 0, _ => by
    have := Lib.lt_pow_nDigits V
    rw [Nat.sub_zero, Nat.div_eq_of_lt this]; rfl
  | k + 1, h => by
    show num (txt V) k * 10 + (byteAt (txt V) k - 48) = _
    rw [txt_num V k (by omega), txt_at (by omega)]
    obtain ⟨d, hd⟩ : ∃ d, Lib.nDigits V - (k + 1) = d := ⟨_, rfl⟩
    rw [show Lib.nDigits V - k = d + 1 by omega, show Lib.nDigits V - 1 - k = d by omega, hd, ← pow_div]
    omega
theorem txt_digits (V : Nat) : digitsTo (txt V) (Lib.nDigits V) := by
  intro j hj
  rw [txt_at hj]
  omega
theorem nd_first {V : Nat} (h : Lib.nDigits V ≠ 1) : 10 ^ (Lib.nDigits V - 1) ≤ V := by
  induction V using Nat.strongRecOn with
  | ind V ih =>
    have a := Lib.nDigits_pos V
    by_cases c : V < 10 ^ (Lib.nDigits V - 1)
    · exfalso
      by_cases z : V < 10
      · exact h (Lib.nDigits_small z)
      · have b := Lib.nDigits_big z
        by_cases q : 10 ^ (Lib.nDigits (V / 10) - 1) ≤ V / 10 ∨ Lib.nDigits (V / 10) = 1
        · rcases q with q | q
          · have p : 10 ^ (Lib.nDigits V - 1) = 10 ^ (Lib.nDigits (V / 10) - 1) * 10 := by
              rw [← Nat.pow_succ]; congr 1; have := Lib.nDigits_pos (V / 10); omega
            omega
          · rw [b, q] at c; omega
        · exact q (Or.inl (ih (V / 10) (by omega) (fun e => q (Or.inr e))))
    · omega

theorem txt_isNum (V : Nat) : isNum (txt V) := by
  have p := Lib.nDigits_pos V
  refine ⟨by rw [txt_size]; omega, by rw [txt_size]; exact txt_digits V, ?_⟩
  rw [txt_size, txt_at (by omega)]
  intro e
  by_cases c : Lib.nDigits V = 1
  · exact c
  · exfalso
    have a := nd_first c
    have l := Lib.lt_pow_nDigits V
    have pp : 0 < 10 ^ (Lib.nDigits V - 1) := Nat.pow_pos (by omega)
    have q : V / 10 ^ (Lib.nDigits V - 1) < 10 := by
      rw [Nat.div_lt_iff_lt_mul pp, Nat.mul_comm, ← Nat.pow_succ, show (Lib.nDigits V - 1).succ = Lib.nDigits V by omega]; exact l
    have r : 1 ≤ V / 10 ^ (Lib.nDigits V - 1) := (Nat.le_div_iff_mul_le pp).mpr (by omega)
    rw [Nat.sub_zero] at e
    omega

theorem txt_whole (V : Nat) : num (txt V) (txt V).size = V := by
  rw [txt_size, txt_num V _ (Nat.le_refl _), Nat.sub_self, Nat.pow_zero, Nat.div_one]

/-! ### A digit more -/
theorem read_step {h l : Int} (h1 : Word h) (h2 : Word l) {d : Nat} (hd : d ≤ 9) :
    (val h l * 10 + d < 340282366920938463463374607431768211456 → m3Top h l 10 = 0 ∧ sOv (m3Mid h l 10) (mLo l 10) 0 (d : Int) = false ∧ sHi (m3Mid h l 10) (mLo l 10) 0 (d : Int) = hiW (val h l * 10 + d) ∧ sLo (mLo l 10) (d : Int) = loW (val h l * 10 + d)) ∧
    (340282366920938463463374607431768211456 ≤ val h l * 10 + d → (m3Top h l 10 == 0) = false ∨ ((m3Top h l 10 == 0) = true ∧ sOv (m3Mid h l 10) (mLo l 10) 0 (d : Int) = true)) := by
  have dm : ∀ x : Int, x = x / 18446744073709551616 * 18446744073709551616 + x % 18446744073709551616 ∧ 0 ≤ x % 18446744073709551616 ∧ x % 18446744073709551616 < 18446744073709551616 := fun x => by omega
  have hv := val_int h1 h2
  have w1 := h1.1; have w2 := h1.2; have w3 := h2.1; have w4 := h2.2
  generalize val h l = V at *
  unfold m3Top m3Mid mHi mLo sOv sHi sLo a3C a3Lo
  simp only [Int.add_zero]
  have A := dm (l * 10)
  have B := dm (h * 10)
  generalize l * 10 / 18446744073709551616 = a1 at *
  generalize l * 10 % 18446744073709551616 = a0 at *
  generalize h * 10 / 18446744073709551616 = b1 at *
  generalize h * 10 % 18446744073709551616 = b0 at *
  have C := dm (b0 + a1)
  have E := dm (a0 + d)
  generalize (b0 + a1) / 18446744073709551616 = c1 at *
  generalize (b0 + a1) % 18446744073709551616 = c0 at *
  generalize (a0 + (d : Int)) / 18446744073709551616 = e1 at *
  generalize (a0 + (d : Int)) % 18446744073709551616 = e0 at *
  have F := dm (c0 + e1)
  generalize (c0 + e1) / 18446744073709551616 = f1 at *
  generalize (c0 + e1) % 18446744073709551616 = f0 at *
  have G : ((V * 10 + d : Nat) : Int) = (b1 + c1 + f1) * 340282366920938463463374607431768211456 + f0 * 18446744073709551616 + e0 := by omega
  have n1 : 0 ≤ b1 + c1 := by omega
  have n2 : 0 ≤ f1 := by omega
  obtain ⟨-, F0, F1⟩ := F
  obtain ⟨-, E0, E1⟩ := E
  clear A B C dm hv
  generalize V * 10 + d = X at *
  unfold hiW loW
  constructor
  · intro hlt
    have z : b1 + c1 + f1 = 0 := by omega
    refine ⟨by omega, ?_, by omega, by omega⟩
    simp only [bne_eq_false_iff_eq]
    omega
  · intro hge
    have z : 0 < b1 + c1 + f1 := by omega
    by_cases c : b1 + c1 = 0
    · refine Or.inr ⟨by simpa using c, ?_⟩
      simp only [bne_iff_ne]
      omega
    · exact Or.inl (by simpa using c)

end Go.Proofs.YtmbhmiidelcieaaDoor
