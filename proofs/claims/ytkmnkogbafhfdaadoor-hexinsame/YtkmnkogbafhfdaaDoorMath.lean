/-
  Plain arithmetic of words of 64 bits and of numbers of two words: no program in sight.
-/
namespace Go.Proofs.YtkmnkogbafhfdaaDoor

/-- A word. -/
def Word (x : Int) : Prop := 0 ≤ x ∧ x < 18446744073709551616

/-- Sum of two words and a carry: the low word, the carry out. -/
def a3Lo (x y c : Int) : Int := (x + y + c) % 18446744073709551616
def a3C (x y c : Int) : Int := (x + y + c) / 18446744073709551616
/-- Difference of two words and a borrow. -/
def s3Lo (x y b : Int) : Int := (x - y - b) % 18446744073709551616
def s3B (x y b : Int) : Int := if x < y + b then 1 else 0

theorem a3Lo_word (x y c : Int) : Word (a3Lo x y c) := by unfold Word a3Lo; omega
theorem s3Lo_word (x y c : Int) : Word (s3Lo x y c) := by unfold Word s3Lo; omega
theorem a3C_01 {x y c : Int} (hx : Word x) (hy : Word y) (hc0 : 0 ≤ c) (hc : c ≤ 1) : 0 ≤ a3C x y c ∧ a3C x y c ≤ 1 := by
  unfold Word at hx hy; unfold a3C; omega
theorem s3B_01 (x y c : Int) : 0 ≤ s3B x y c ∧ s3B x y c ≤ 1 := by
  unfold s3B; split <;> omega

/-- Sum and difference of two numbers of two words. -/
def sHi (ah al bh bl : Int) : Int := a3Lo ah bh (a3C al bl 0)
def sLo (al bl : Int) : Int := a3Lo al bl 0
def sOv (ah al bh bl : Int) : Bool := a3C ah bh (a3C al bl 0) != 0
def dHi (ah al bh bl : Int) : Int := s3Lo ah bh (s3B al bl 0)
def dLo (al bl : Int) : Int := s3Lo al bl 0
def dUn (ah al bh bl : Int) : Bool := s3B ah bh (s3B al bl 0) != 0
/-- The order of two numbers of two words. -/
def cmp (ah al bh bl : Int) : Int := if ah < bh then -1 else if bh < ah then 1 else if al < bl then -1 else if bl < al then 1 else 0

theorem sHi_word (ah al bh bl : Int) : Word (sHi ah al bh bl) := a3Lo_word _ _ _
theorem sLo_word (al bl : Int) : Word (sLo al bl) := a3Lo_word _ _ _
theorem dHi_word (ah al bh bl : Int) : Word (dHi ah al bh bl) := s3Lo_word _ _ _
theorem dLo_word (al bl : Int) : Word (dLo al bl) := s3Lo_word _ _ _

theorem cmp_lt {ah al bh bl : Int} (h : ah < bh) : cmp ah al bh bl = -1 := by unfold cmp; rw [if_pos h]
theorem cmp_gt {ah al bh bl : Int} (h : bh < ah) : cmp ah al bh bl = 1 := by unfold cmp; rw [if_neg (by omega), if_pos h]
theorem cmp_elt {ah al bl : Int} (h : al < bl) : cmp ah al ah bl = -1 := by unfold cmp; rw [if_neg (by omega), if_neg (by omega), if_pos h]
theorem cmp_egt {ah al bl : Int} (h : bl < al) : cmp ah al ah bl = 1 := by unfold cmp; rw [if_neg (by omega), if_neg (by omega), if_neg (by omega), if_pos h]
theorem cmp_ee (ah al : Int) : cmp ah al ah al = 0 := by unfold cmp; rw [if_neg (by omega), if_neg (by omega), if_neg (by omega), if_neg (by omega)]
theorem s3B_ne (x y b : Int) : (s3B x y b != 0) = decide (x < y + b) := by unfold s3B; split <;> simp_all
theorem dUn_cmp (ah al bh bl : Int) : dUn ah al bh bl = decide (cmp ah al bh bl < 0) := by
  unfold dUn
  rw [s3B_ne, Bool.eq_iff_iff, decide_eq_true_iff, decide_eq_true_iff]
  unfold s3B cmp
  split <;> split <;> (try split) <;> (try split) <;> (try split) <;> omega

/-- The document's sum, word by word, is the sum. -/
theorem sLo_wrap (al bl : Int) : sLo al bl = (al + bl) % 18446744073709551616 := by unfold sLo a3Lo; omega
theorem add_no {al bl : Int} (ha : Word al) (hb : Word bl) (h : al + bl < 18446744073709551616) : a3C al bl 0 = 0 := by
  unfold Word at *; unfold a3C; omega
theorem add_yes {al bl : Int} (ha : Word al) (hb : Word bl) (h : 18446744073709551616 ≤ al + bl) : a3C al bl 0 = 1 := by
  unfold Word at *; unfold a3C; omega

/-- The product of two words: its two words. -/
def mHi (x y : Int) : Int := x * y / 18446744073709551616
def mLo (x y : Int) : Int := x * y % 18446744073709551616
/-- The product of a number of two words and a word: its three words. -/
def m3Top (h l b : Int) : Int := mHi h b + a3C (mLo h b) (mHi l b) 0
def m3Mid (h l b : Int) : Int := a3Lo (mLo h b) (mHi l b) 0
theorem mul_lt_sq {x y : Int} (hx : Word x) (hy : Word y) : 0 ≤ x * y ∧ x * y ≤ 18446744073709551615 * 18446744073709551615 := by
  unfold Word at *
  exact ⟨Int.mul_nonneg hx.1 hy.1, Int.mul_le_mul (by omega) (by omega) hy.1 (by omega)⟩
theorem mHi_word {x y : Int} (hx : Word x) (hy : Word y) : 0 ≤ mHi x y ∧ mHi x y ≤ 18446744073709551614 := by
  have h := mul_lt_sq hx hy
  unfold mHi
  generalize x * y = p at *
  omega
theorem mHi_isWord {x y : Int} (hx : Word x) (hy : Word y) : Word (mHi x y) := by
  have h := mHi_word hx hy
  unfold Word; omega
theorem mLo_word (x y : Int) : Word (mLo x y) := by unfold Word mLo; omega
theorem m3Mid_word (h l b : Int) : Word (m3Mid h l b) := a3Lo_word _ _ _
theorem m3Top_word {h l b : Int} (hh : Word h) (hl : Word l) (hb : Word b) : Word (m3Top h l b) := by
  have h1 := mHi_word hh hb
  have h2 := a3C_01 (mLo_word h b) (mHi_isWord hl hb) (Int.le_refl 0) (by omega : (0 : Int) ≤ 1)
  unfold Word m3Top; omega

end Go.Proofs.YtkmnkogbafhfdaaDoor
