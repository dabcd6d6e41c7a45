/-
  Widths: their bounds, what lies nearest within, the lowest bits: mathematics.
-/
import Derived.Test.YtoabdoognadijaaDoorItM
import Derived.Laws.Bits64b
import Derived.WalkKit
namespace Go.Proofs.YtoabdoognadijaaDoor
open Go.RowKit

/-- w is a width; M is its greatest unsigned number, H and L its greatest and its least signed one. -/
def Wd (w M H L : Int) : Prop := (w = 8 ∧ M = 255 ∧ H = 127 ∧ L = -128) ∨ (w = 16 ∧ M = 65535 ∧ H = 32767 ∧ L = -32768) ∨ (w = 32 ∧ M = 4294967295 ∧ H = 2147483647 ∧ L = -2147483648) ∨ (w = 64 ∧ M = 18446744073709551615 ∧ H = 9223372036854775807 ∧ L = -9223372036854775808)
/-- w is none. -/
def Wn (w : Int) : Prop := w ≠ 8 ∧ w ≠ 16 ∧ w ≠ 32 ∧ w ≠ 64
theorem wd_cases (w : Int) : (∃ M H L, Wd w M H L) ∨ Wn w := by
  by_cases a : w = 8
  · exact Or.inl ⟨_, _, _, Or.inl ⟨a, rfl, rfl, rfl⟩⟩
  · by_cases b : w = 16
    · exact Or.inl ⟨_, _, _, Or.inr (Or.inl ⟨b, rfl, rfl, rfl⟩)⟩
    · by_cases c : w = 32
      · exact Or.inl ⟨_, _, _, Or.inr (Or.inr (Or.inl ⟨c, rfl, rfl, rfl⟩))⟩
      · by_cases d : w = 64
        · exact Or.inl ⟨_, _, _, Or.inr (Or.inr (Or.inr ⟨d, rfl, rfl, rfl⟩))⟩
        · exact Or.inr ⟨a, b, c, d⟩
theorem Wd.low {w M H L : Int} (h : Wd w M H L) : L = -H - 1 := by unfold Wd at h; omega
theorem Wd.most {w M H L : Int} (h : Wd w M H L) : M = 2 * H + 1 := by unfold Wd at h; omega
theorem Wd.ge {w M H L : Int} (h : Wd w M H L) : 127 ≤ H := by unfold Wd at h; omega
theorem Wd.le {w M H L : Int} (h : Wd w M H L) : H ≤ 9223372036854775807 := by unfold Wd at h; omega
/-- The nearest number from L to H. -/
def nrW (L H v : Int) : Int := if v < L then L else if H < v then H else v
theorem nrW_low {L H v : Int} (h : v < L) : nrW L H v = L := by unfold nrW; rw [if_pos h]
theorem nrW_high {L H v : Int} (h1 : ¬ v < L) (h2 : H < v) : nrW L H v = H := by unfold nrW; rw [if_neg h1, if_pos h2]
theorem nrW_in {L H v : Int} (h1 : ¬ v < L) (h2 : ¬ H < v) : nrW L H v = v := by unfold nrW; rw [if_neg h1, if_neg h2]
theorem nrW_bounds {L H : Int} (h : L ≤ H) (v : Int) : L ≤ nrW L H v ∧ nrW L H v ≤ H := by unfold nrW; split <;> (try split) <;> omega
/-- The number of the lowest bits, as signed. -/
def sgW (M H u : Int) : Int := if H < u then u - M - 1 else u
/-- What Unsigned answers, of what Parse answered. -/
def uwX (M : Int) (x : Nat) : Int := if M < (x : Int) then M else (x : Int)
def uwE (M : Int) (x e : Nat) : Nat := if M < (x : Int) then 4 else e
/-- What Signed answers, of what Parse answered. -/
def swE (L H v : Int) (e : Nat) : Nat := if nrW L H v = v then e else 4
/-- What Tell answers, of what Format answered: the text, the error's number. -/
def tlS (Q : Bool) (E : Nat) (S : ByteArray) : ByteArray := if E = 0 ∧ Q = true then S else ⟨#[]⟩
def tlE (Q : Bool) (E : Nat) : Nat := if E ≠ 0 then E else if Q = true then 0 else 4
theorem tl_err {Q : Bool} {E : Nat} (h : E ≠ 0) (S : ByteArray) : tlS Q E S = ⟨#[]⟩ ∧ tlE Q E = E := by
  unfold tlS tlE; exact ⟨if_neg (fun q => h q.1), if_pos h⟩
theorem tl_in (S : ByteArray) : tlS true 0 S = S ∧ tlE true 0 = 0 := by
  unfold tlS tlE; exact ⟨if_pos ⟨rfl, rfl⟩, by rw [if_neg (by decide), if_pos rfl]⟩
theorem tl_out (S : ByteArray) : tlS false 0 S = ⟨#[]⟩ ∧ tlE false 0 = 4 := by
  unfold tlS tlE; exact ⟨if_neg (fun q => by cases q.2), by rw [if_neg (by decide), if_neg (by decide)]⟩
theorem uw_out {M : Int} {x : Nat} (h : M < (x : Int)) (e : Nat) : uwX M x = M ∧ uwE M x e = 4 := by
  unfold uwX uwE; exact ⟨if_pos h, if_pos h⟩
theorem uw_in {M : Int} {x : Nat} (h : ¬ M < (x : Int)) (e : Nat) : uwX M x = (x : Int) ∧ uwE M x e = e := by
  unfold uwX uwE; exact ⟨if_neg h, if_neg h⟩
theorem sw_in {L H v : Int} (h : nrW L H v = v) (e : Nat) : swE L H v e = e := by unfold swE; rw [if_pos h]
theorem sw_out {L H v : Int} (h : ¬ nrW L H v = v) (e : Nat) : swE L H v e = 4 := by unfold swE; rw [if_neg h]
theorem mask_wd {w M H L : Int} (h : Wd w M H L) (v : Nat) (hv : v < 18446744073709551616) : bits BinOp.and IntKind.u64 (v : Int) M = (v : Int) % (M + 1) := by
  rcases h with ⟨_, rfl, _⟩ | ⟨_, rfl, _⟩ | ⟨_, rfl, _⟩ | ⟨_, rfl, _⟩
  · have := bits_and_u64_nat v 255 hv (by decide)
    rw [show v &&& 255 = v % 256 from Nat.and_two_pow_sub_one_eq_mod v 8] at this
    simpa using this
  · have := bits_and_u64_nat v 65535 hv (by decide)
    rw [show v &&& 65535 = v % 65536 from Nat.and_two_pow_sub_one_eq_mod v 16] at this
    simpa using this
  · have := bits_and_u64_nat v 4294967295 hv (by decide)
    rw [show v &&& 4294967295 = v % 4294967296 from Nat.and_two_pow_sub_one_eq_mod v 32] at this
    simpa using this
  · have := bits_and_u64_nat v 18446744073709551615 hv (by decide)
    rw [show v &&& 18446744073709551615 = v % 18446744073709551616 from Nat.and_two_pow_sub_one_eq_mod v 64] at this
    simpa using this
theorem high_8 (v : Nat) : IntKind.i64.wrap (IntKind.u64.wrap ((v : Int) * 72057594037927936)) / 72057594037927936 = sgW 255 127 ((v : Int) % (255 + 1)) := by
  rw [IntKind.wrap_u64, IntKind.wrap_i64]
  unfold sgW
  split <;> omega
theorem high_16 (v : Nat) : IntKind.i64.wrap (IntKind.u64.wrap ((v : Int) * 281474976710656)) / 281474976710656 = sgW 65535 32767 ((v : Int) % (65535 + 1)) := by
  rw [IntKind.wrap_u64, IntKind.wrap_i64]
  unfold sgW
  split <;> omega
theorem high_32 (v : Nat) : IntKind.i64.wrap (IntKind.u64.wrap ((v : Int) * 4294967296)) / 4294967296 = sgW 4294967295 2147483647 ((v : Int) % (4294967295 + 1)) := by
  rw [IntKind.wrap_u64, IntKind.wrap_i64]
  unfold sgW
  split <;> omega
theorem high_64 (v : Nat) : IntKind.i64.wrap (IntKind.u64.wrap (v : Int)) = sgW 18446744073709551615 9223372036854775807 ((v : Int) % (18446744073709551615 + 1)) := by
  rw [IntKind.wrap_u64, IntKind.wrap_i64]
  unfold sgW
  split <;> omega
end Go.Proofs.YtoabdoognadijaaDoor
