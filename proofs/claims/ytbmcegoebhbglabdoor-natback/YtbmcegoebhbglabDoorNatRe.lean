/-
  What the call of nat.smallValue answers for few digits of a base.
-/
import Derived.Test.YtbmcegoebhbglabDoorNatRd
namespace Go.Proofs.YtbmcegoebhbglabDoor
open Go.RowKit

/-- The value of the first k digits of a text. -/
def sv (b : Nat) (g : Nat → Nat) : Nat → Nat
  | 0 => 0
  | k + 1 => sv b g k * b + g k
theorem sv_lt {b : Nat} {g : Nat → Nat} {n : Nat} (h : ∀ k, k < n → g k < b) : ∀ k, k ≤ n → sv b g k < b ^ k
  | 0, _ => by simp [sv]
  | k + 1, hk => by
    have a := sv_lt h k (by omega)
    have c := h k (by omega)
    show sv b g k * b + g k < b ^ (k + 1)
    rw [Nat.pow_succ]
    have := Nat.mul_le_mul_right b (show sv b g k + 1 ≤ b ^ k from a)
    rw [Nat.add_mul] at this
    omega

set_option maxRecDepth 100000 in
set_option maxHeartbeats 1000000 in
theorem small_ok (s : ByteArray) (hs : s.size ≤ 64) (b : Nat) (g : Nat → Nat) (hg : ∀ k (h : k < s.size), dv (s[k]'h).toNat = g k) (hd : ∀ k, k < s.size → g k < b) (hb : b ≤ 36) (hp : b ^ s.size < B) (w : World) :
    Calls Tryd.prog 37 #[.string s, .int .i64 (b : Int)] w fun e w' => e = .returned (.tuple #[.int .u64 ((b ^ s.size : Nat) : Int), .int .u64 ((sv b g s.size : Nat) : Int)]) ∧ w' = w := by
  have HP : Hid (b ^ s.size < B ∧ ∀ k, k < s.size → g k < b) := ⟨hp, hd⟩
  have HG : Hid (∀ k (h : k < s.size), dv (s[k]'h).toNat = g k) := hg
  clear hp hd hg
  obtain ⟨P, hP⟩ : ∃ P, P = b ^ s.size := ⟨_, rfl⟩
  obtain ⟨Q, hQ⟩ : ∃ Q, Q = sv b g s.size := ⟨_, rfl⟩
  rw [← hP, ← hQ]
  have HE : Hid (P = b ^ s.size ∧ Q = sv b g s.size) := ⟨hP, hQ⟩
  clear hP hQ
  go_enter Tryd.func37, Tryd.ntmps37
  go_wp2
  go_loop [6, 7, 11] (fun z y i => ∃ k Z Y : Nat, k ≤ s.size ∧ z = .int .u64 (Z : Int) ∧ y = .int .u64 (Y : Int) ∧ i = .int .i64 k ∧ Hid (Z = b ^ k ∧ Y = sv b g k)) (fun _ _ i => s.size - (intOf i).toNat)
  case atStart => exact ⟨0, 1, 0, Nat.zero_le _, rfl, rfl, rfl, ⟨rfl, rfl⟩⟩
  case round =>
    obtain ⟨k, Z, Y, hk, rfl, rfl, rfl, HZ⟩ := hrel
    by_cases hlt : k < s.size
    · have DG := digit_any (s[k]'hlt).toNat (UInt8.toNat_lt _) w
      rw [HG.out k hlt] at DG
      have b1 : 0 < b := by have := HP.out.2 k hlt; omega
      have hle : b ^ (k + 1) ≤ b ^ s.size := Nat.pow_le_pow_right b1 (by omega)
      have q1 : Z * b = b ^ (k + 1) := by rw [HZ.out.1, Nat.pow_succ]
      have q2 : Y * b + g k = sv b g (k + 1) := by rw [HZ.out.2]; rfl
      have q3 := sv_lt (n := s.size) HP.out.2 (k + 1) (by omega)
      have q4 := HP.out.1
      have q5 := HP.out.2 k hlt
      have HN : Hid (Z * b = b ^ (k + 1) ∧ Y * b + g k = sv b g (k + 1)) := ⟨q1, q2⟩
      have m1 : (Z : Int) * (b : Int) = ((Z * b : Nat) : Int) := by rw [Int.natCast_mul]
      have m2 : (Y : Int) * (b : Int) = ((Y * b : Nat) : Int) := by rw [Int.natCast_mul]
      have r1 : Z * b < 18446744073709551616 := by unfold B at q4; omega
      have r2 : Y * b + g k < 18446744073709551616 := by unfold B at q4; omega
      clear q1 q2 q3 q4 hle
      generalize Z * b = Z' at *
      generalize Y * b = Y' at *
      generalize g k = d at *
      go_wp2_with fail
      refine DG.mono ?_
      rintro e w ⟨rfl, rfl⟩
      go_wp2
      go_round
      case rel => exact ⟨k + 1, Z', Y' + d, by omega, by go_num, by go_num, by go_num, HN.out⟩
      case measure => simp [intOf]; omega
    · obtain rfl : k = s.size := by omega
      have e1 : Z = P := by rw [HZ.out.1, HE.out.1]
      have e2 : Y = Q := by rw [HZ.out.2, HE.out.2]
      subst e1 e2
      go_wp2
      refine bodyPost_ret (v := .tuple #[.int .u64 (Z : Int), .int .u64 (Y : Int)]) (by simp [results, Tryd.results37, go_sem]) rfl ⟨rfl, rfl⟩

end Go.Proofs.YtbmcegoebhbglabDoor
