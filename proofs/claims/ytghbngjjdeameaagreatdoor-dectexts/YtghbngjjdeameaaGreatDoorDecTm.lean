/-
  A decimal number's text as a row of bytes; what is taken out of a text; of a number's text that is the number. No walk in this text.
-/
import Derived.Lib.Strings
import Derived.Lib.IndexMore
import Derived.Lib.AtoiAllCases
import Derived.Lib.ItoaNum
namespace Go.Proofs.YtghbngjjdeameaaGreatDoor

/-- The text of a number with digits. -/
def txL (s : List UInt8) (p : Int) (c : Bool) : List UInt8 := 48 :: 46 :: (s ++ 101 :: (Lib.itoa p ++ if c then [43] else []))
/-- What is taken out of a text: digits, point, and whether more is behind. -/
def tkP (l : List UInt8) : List UInt8 := Lib.trimPrefix l [48, 46]
def tkR (l : List UInt8) : List UInt8 := Lib.trimSuffix (tkP l) [43]
def tkC (l : List UInt8) : Bool := Lib.hasSuffix (tkP l) [43]
def tkD (l : List UInt8) : List UInt8 := (Lib.cut (tkR l) [101]).1
def tkE (l : List UInt8) : List UInt8 := (Lib.cut (tkR l) [101]).2.1

/-- A byte of decimal digits, or the sign. -/
theorem dec_bytes (u : Nat) : ∀ b ∈ Lib.decDigits u, 48 ≤ b.toNat ∧ b.toNat ≤ 57 := by
  induction u using Nat.strongRecOn with
  | _ u ih =>
    rw [Lib.decDigits]
    split
    · intro b hb
      obtain rfl := List.mem_singleton.1 hb
      rw [UInt8.toNat_ofNat']
      omega
    · intro b hb
      rcases List.mem_append.1 hb with hb | hb
      · exact ih (u / 10) (by omega) b hb
      · obtain rfl := List.mem_singleton.1 hb
        rw [UInt8.toNat_ofNat']
        omega
theorem dec_ne (u : Nat) : Lib.decDigits u ≠ [] := by
  rw [Lib.decDigits]
  split
  · simp
  · simp
theorem itoa_bytes (p : Int) : ∀ b ∈ Lib.itoa p, b.toNat = 45 ∨ (48 ≤ b.toNat ∧ b.toNat ≤ 57) := by
  intro b hb
  unfold Lib.itoa at hb
  split at hb
  · rcases List.mem_cons.1 hb with rfl | hb
    · exact Or.inl rfl
    · exact Or.inr (dec_bytes _ b hb)
  · exact Or.inr (dec_bytes _ b hb)
theorem itoa_ne (p : Int) : Lib.itoa p ≠ [] := by
  unfold Lib.itoa
  split
  · simp
  · exact dec_ne _

theorem parse_dec (u : Nat) : u < 1844674407370955161 → ∀ r, Lib.parseUint10 0 (Lib.decDigits u ++ r) = Lib.parseUint10 u r := by
  induction u using Nat.strongRecOn with
  | _ u ih =>
    intro hu r
    rw [Lib.decDigits]
    split
    · rename_i h
      have e : (UInt8.ofNat (48 + u)).toNat = 48 + u := by rw [UInt8.toNat_ofNat']; omega
      simp only [List.singleton_append, Lib.parseUint10, e]
      rw [if_pos (by omega), if_neg (by omega), if_neg (by omega)]
      congr 1
      omega
    · rename_i h
      have e : (UInt8.ofNat (48 + u % 10)).toNat = 48 + u % 10 := by rw [UInt8.toNat_ofNat']; omega
      rw [List.append_assoc, ih (u / 10) (by omega) (by omega)]
      simp only [List.singleton_append, Lib.parseUint10, e]
      rw [if_pos (by omega), if_neg (by omega), if_neg (by omega)]
      congr 1
      omega
theorem mag_dec (u : Nat) (h : u < 1844674407370955161) : Lib.parseMag (Lib.decDigits u) = .ok u := by
  unfold Lib.parseMag
  rw [if_neg (dec_ne u)]
  have := parse_dec u h []
  rw [List.append_nil] at this
  rw [this]
  rfl
theorem atoi_itoa {p : Int} (h0 : -1099511627776 ≤ p) (h1 : p ≤ 1099511627776) : Lib.atoiAll (Lib.itoa p) = .ok p := by
  unfold Lib.itoa
  split
  · rename_i h
    rw [Lib.atoiAll_minus, mag_dec _ (by omega)]
    show (if 9223372036854775808 < p.natAbs then Lib.NumEnd.range else .ok (-(p.natAbs : Int))) = _
    rw [if_neg (by omega)]
    congr 1
    omega
  · rename_i h
    cases q : Lib.decDigits p.toNat with
    | nil => exact absurd q (dec_ne _)
    | cons c r =>
      have hb := dec_bytes p.toNat c (by rw [q]; exact List.mem_cons_self)
      rw [Lib.atoiAll_plain c r (by omega) (by omega), ← q, mag_dec _ (by omega)]
      show (if 9223372036854775808 ≤ p.toNat then Lib.NumEnd.range else .ok (p.toNat : Int)) = _
      rw [if_neg (by omega)]
      congr 1
      omega

theorem suf_last (l : List UInt8) (b : UInt8) : Lib.hasSuffix (l ++ [b]) [43] = (43 == b) := by
  unfold Lib.hasSuffix List.isSuffixOf
  simp [List.isPrefixOf]
theorem index_at : ∀ (s r : List UInt8), (∀ b ∈ s, b ≠ 101) → Lib.index (s ++ 101 :: r) [101] = s.length
  | [], r, _ => by
    rw [List.nil_append, Lib.index]
    rw [if_pos (by simp)]
    rfl
  | b :: s, r, h => by
    have ih := index_at s r (fun x hx => h x (List.mem_cons_of_mem _ hx))
    have hb : b ≠ 101 := h b List.mem_cons_self
    rw [List.cons_append, Lib.index, if_neg (by simp; exact fun z => hb z.symm), ih]
    rw [if_neg (by simp)]
    simp
theorem cut_at {s r : List UInt8} (h : ∀ b ∈ s, b ≠ 101) : Lib.cut (s ++ 101 :: r) [101] = (s, r, true) := by
  unfold Lib.cut
  rw [index_at s r h, if_pos (by omega)]
  simp [List.drop_append]

theorem tkP_tx (s : List UInt8) (p : Int) (c : Bool) : tkP (txL s p c) = s ++ 101 :: (Lib.itoa p ++ if c then [43] else []) := by
  unfold tkP txL Lib.trimPrefix Lib.hasPrefix
  rw [if_pos (by simp)]
  rfl
theorem tkC_tx (s : List UInt8) (p : Int) (c : Bool) : tkC (txL s p c) = c := by
  unfold tkC
  rw [tkP_tx]
  cases c
  · obtain ⟨l, b, e⟩ : ∃ l b, Lib.itoa p = l ++ [b] := by
      refine ⟨(Lib.itoa p).dropLast, (Lib.itoa p).getLast (itoa_ne p), ?_⟩
      exact (List.dropLast_concat_getLast _).symm
    have hb := itoa_bytes p b (by rw [e]; simp)
    have e2 : s ++ 101 :: (Lib.itoa p ++ if false = true then [43] else []) = (s ++ 101 :: l) ++ [b] := by rw [e]; simp
    rw [e2, suf_last]
    have : (43 : UInt8).toNat = 43 := rfl
    exact beq_eq_false_iff_ne.mpr fun z => by rw [← z] at hb; omega
  · have e2 : s ++ 101 :: (Lib.itoa p ++ if true = true then [43] else []) = (s ++ 101 :: Lib.itoa p) ++ [43] := by simp
    rw [e2, suf_last]
    rfl
theorem tkR_tx (s : List UInt8) (p : Int) (c : Bool) : tkR (txL s p c) = s ++ 101 :: Lib.itoa p := by
  have hc := tkC_tx s p c
  unfold tkC at hc
  unfold tkR Lib.trimSuffix
  rw [hc, tkP_tx]
  cases c
  · rw [if_neg (by simp)]
    simp
  · rw [if_pos rfl]
    have e2 : s ++ 101 :: (Lib.itoa p ++ if true = true then [43] else []) = (s ++ 101 :: Lib.itoa p) ++ [43] := by simp
    rw [e2, List.take_append_of_le_length (by simp)]
    rw [List.take_of_length_le (by simp)]
theorem digits_ne {s : List UInt8} (h : ∀ b ∈ s, 48 ≤ b.toNat ∧ b.toNat ≤ 57) : ∀ b ∈ s, b ≠ 101 := fun b hb z => by
  have := h b hb
  rw [z] at this
  have e : (101 : UInt8).toNat = 101 := rfl
  omega
theorem tkD_tx {s : List UInt8} {p : Int} {c : Bool} (h : ∀ b ∈ s, 48 ≤ b.toNat ∧ b.toNat ≤ 57) : tkD (txL s p c) = s := by
  unfold tkD
  rw [tkR_tx, cut_at (digits_ne h)]
theorem tkE_tx {s : List UInt8} {p : Int} {c : Bool} (h : ∀ b ∈ s, 48 ≤ b.toNat ∧ b.toNat ≤ 57) : tkE (txL s p c) = Lib.itoa p := by
  unfold tkE
  rw [tkR_tx, cut_at (digits_ne h)]

theorem tkP_len (l : List UInt8) : (tkP l).length ≤ l.length := by
  unfold tkP Lib.trimPrefix
  split
  · simp
  · exact Nat.le_refl _
theorem tkR_len (l : List UInt8) : (tkR l).length ≤ l.length := by
  have := tkP_len l
  unfold tkR Lib.trimSuffix
  split
  · simp; omega
  · exact this
theorem tkD_len (l : List UInt8) : (tkD l).length ≤ l.length := by
  have := tkR_len l
  unfold tkD Lib.cut
  split
  · simp; omega
  · exact this
theorem tkE_len (l : List UInt8) : (tkE l).length ≤ l.length := by
  have := tkR_len l
  unfold tkE Lib.cut
  split
  · simp; omega
  · simp

end Go.Proofs.YtghbngjjdeameaaGreatDoor
