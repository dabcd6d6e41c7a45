/-
  What calls of wide.Lead (for all numbers of two words) and of the statements' own 'sure' answer: sure is true.
-/
import Derived.Test.YtmbhmiidelcieaaDoorText
import Derived.Test.YtmbhmiidelcieaaDoorMul
namespace Go.Proofs.YtmbhmiidelcieaaDoor
open Go.RowKit

/-- How many noughts stand ahead. -/
def ldz (h l : Int) : Int := if h = 0 then 128 - blen l else 64 - blen h

set_option maxHeartbeats 400000 in
theorem wlead_any (h l : Int) (h1 : Word h) (h2 : Word l) (w : World) :
    Calls Tryd.prog 11 #[.agg #[.int .u64 h, .int .u64 l]] w fun e w' => e = .returned (.int .i64 (ldz h l)) ∧ Below w.heap.size w w' := by
  have b1 := blen_01 l h2.1 h2.2
  by_cases c : h = 0
  · have c' : (h == 0) = true := by simpa using c
    have hL : ldz h l = 64 + (64 - blen l) := by unfold ldz; rw [if_pos c]; omega
    clear c
    go_enter Tryd.func11, Tryd.ntmps11
    go_wp2_with (go_at_call 28; refine (lead64_any l h2 _).mono ?_; rintro e w' ⟨rfl, rfl⟩)
    go_ret
    exact ⟨by rw [hL]; rfl, (Below.refl _ _).alloc (Nat.le_refl _) _⟩
  · have c' : (h == 0) = false := by simpa using c
    have hL : ldz h l = 64 - blen h := by unfold ldz; rw [if_neg c]
    go_enter Tryd.func11, Tryd.ntmps11
    go_wp2_with (go_at_call 28; refine (lead64_any h h1 _).mono ?_; rintro e w' ⟨rfl, rfl⟩)
    go_ret
    exact ⟨by rw [hL]; rfl, (Below.refl _ _).alloc (Nat.le_refl _) _⟩

theorem word_of {x : Int} (h0 : 0 ≤ x) (h1 : x < 18446744073709551616) : Word x := ⟨h0, h1⟩
theorem mHi_36 : mHi 9223372036854775808 6 = 3 := by decide
theorem mLo_36 : mLo 9223372036854775808 6 = 0 := by decide
theorem ldz_1 : ldz 0 1 = 127 := by decide
theorem txt_64 : txt 18446744073709551616 = ⟨#[49, 56, 52, 52, 54, 55, 52, 52, 48, 55, 51, 55, 48, 57, 53, 53, 49, 54, 49, 54]⟩ := by
  unfold txt
  congr 1
  simp [Lib.decDigits]

set_option maxHeartbeats 1000000 in
theorem sure_any (w : World) : Calls Tryd.prog 15 #[] w fun e w' => e = .returned (.bool true) ∧ Below w.heap.size w w' := by
  have e1 := mHi_36
  have e2 := mLo_36
  have e3 := ldz_1
  have e4 := txt_64
  go_enter Tryd.func15, Tryd.ntmps15
  go_wp2_with (first
    | (go_at_call 30; refine (wmul_any 9223372036854775808 6 (word_of (by omega) (by omega)) (word_of (by omega) (by omega)) _).mono ?_; rintro e wa ⟨rfl, hba⟩; obtain ⟨hca, hfa⟩ := bcell hba)
    | (go_at_call 21; refine (wtext_any 1 0 18446744073709551616 (by omega) (word_of (by omega) (by omega)) (word_of (by omega) (by omega)) _).mono ?_; rintro e wb ⟨rfl, hbb⟩; obtain ⟨hcb, hfb⟩ := bcell hbb)
    | (go_at_call 11; refine (wlead_any 0 1 (word_of (by omega) (by omega)) (word_of (by omega) (by omega)) _).mono ?_; rintro e wc ⟨rfl, hbc⟩; obtain ⟨hcc, hfc⟩ := bcell hbc))
  go_ret
  have s1 := hba.size
  have s2 := hbb.size
  exact ⟨rfl, ((hba.trans (hbb.mono s1)).alloc (by omega) _).trans (hbc.mono (by simp; omega))⟩

end Go.Proofs.YtmbhmiidelcieaaDoor
