/-
  The value of a text's digits, piece by piece; Digits of 0.
-/
import Derived.Test.YtbmcegoebhbglabDoorNatTp
namespace Go.Proofs.YtbmcegoebhbglabDoor
open Go.RowKit

theorem sv_split (b : Nat) (g : Nat → Nat) (k : Nat) : ∀ n, sv b g (k + n) = sv b g k * b ^ n + sv b (fun j => g (k + j)) n
  | 0 => by simp [sv]
  | n + 1 => by
    show sv b g (k + n) * b + g (k + n) = sv b g k * b ^ (n + 1) + (sv b (fun j => g (k + j)) n * b + g (k + n))
    rw [sv_split b g k n, Nat.pow_succ, Nat.add_mul, Nat.mul_assoc]
    omega
theorem sv_mono {b : Nat} (hb : 1 ≤ b) (g : Nat → Nat) {k n : Nat} (h : k ≤ n) : sv b g k ≤ sv b g n := by
  obtain ⟨j, rfl⟩ := Nat.exists_eq_add_of_le h
  rw [sv_split]
  have := Nat.mul_le_mul_left (sv b g k) (Nat.pow_pos (n := j) hb)
  omega
theorem sv_noughts {b : Nat} {g : Nat → Nat} : ∀ {m : Nat}, (∀ i, i < m → g i = 0) → sv b g m = 0
  | 0, _ => rfl
  | m + 1, h => by
    show sv b g m * b + g m = 0
    rw [sv_noughts (fun i hi => h i (by omega)), h m (by omega), Nat.zero_mul]

theorem cut_size (s : ByteArray) (k : Nat) : (s.extract k s.size).size = s.size - k := by simp
theorem cut_get (s : ByteArray) (k i : Nat) (h : i < (s.extract k s.size).size) (h' : k + i < s.size) : (s.extract k s.size)[i]'h = s[k + i]'h' := by
  simp [ByteArray.getElem_extract]

set_option maxRecDepth 100000 in
set_option maxHeartbeats 1000000 in
theorem digits_zero {w : World} {ao : Option Addr} {c b' o : Nat} {f : Nat → Nat} (S : Sl w ao 0 c b' o f) (b : Nat) (h1 : 2 ≤ b) (h2 : b ≤ 36) :
    Calls Tryd.prog 8 #[.slice ao 0 c, .int .i64 (b : Int)] w fun e w' => e = .returned (.tuple #[.string ⟨#[48]⟩, .nilIface]) ∧ Below w.heap.size w w' := by
  have V1 := valid_any S
  rw [verr_ok (by omega) (Or.inl rfl)] at V1
  unfold errV at V1
  go_enter Tryd.func8, Tryd.ntmps8
  go_wp2_with fail
  refine V1.mono ?_
  rintro e wa ⟨rfl, hba⟩
  go_wp2_with fail
  refine (isBase_yes b h1 h2 _).mono ?_
  rintro e wb ⟨rfl, rfl⟩
  go_wp2
  refine bodyPost_ret (v := .tuple #[.string ⟨#[48]⟩, .nilIface]) (by simp [results, Tryd.results8, go_sem]) rfl ⟨rfl, hba⟩

end Go.Proofs.YtbmcegoebhbglabDoor
