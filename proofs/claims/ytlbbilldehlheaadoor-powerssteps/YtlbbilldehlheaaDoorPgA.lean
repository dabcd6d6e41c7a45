/-
  What the calls of powers.within, lengthOf, wordPower, Digits, Bits, Ten and Five answer.
-/
import Derived.Test.YtlbbilldehlheaaDoorPwP
namespace Go.Proofs.YtlbbilldehlheaaDoor
open Go.RowKit

theorem within_yes (n a b : Int) (h1 : a ≤ n) (h2 : n ≤ b) (w : World) : Calls Tryd.prog 20 #[.int .i64 n, .int .i64 a, .int .i64 b] w fun e w' => e = .returned (.bool true) ∧ w' = w := by
  go_enter Tryd.func20, Tryd.ntmps20
  go_wp2
  go_ret
  exact ⟨rfl, rfl⟩
theorem within_no (n a b : Int) (h : n < a ∨ b < n) (w : World) : Calls Tryd.prog 20 #[.int .i64 n, .int .i64 a, .int .i64 b] w fun e w' => e = .returned (.bool false) ∧ w' = w := by
  by_cases c : a ≤ n
  · have c2 : ¬ n ≤ b := by omega
    go_enter Tryd.func20, Tryd.ntmps20
    go_wp2
    go_ret
    exact ⟨rfl, rfl⟩
  · go_enter Tryd.func20, Tryd.ntmps20
    go_wp2
    go_ret
    exact ⟨rfl, rfl⟩

set_option maxHeartbeats 1000000 in
theorem lenD_yes (n : Int) (h1 : -1100 ≤ n) (h2 : n ≤ 1100) (w : World) : Calls Tryd.prog 29 #[.int .i64 n, .int .i64 1292913986] w fun e w' => e = .returned (.tuple #[.int .i64 (n * 1292913986 / 4294967296 + 1), .nilIface]) ∧ w' = w := by
  have W := fun x => within_yes n (-1100) 1100 h1 h2 x
  go_enter Tryd.func29, Tryd.ntmps29
  go_wp2_with fail
  refine (W _).mono ?_
  rintro e w ⟨rfl, rfl⟩
  go_wp2
  refine bodyPost_ret (v := .tuple #[.int .i64 (n * 1292913986 / 4294967296 + 1), .nilIface]) (by simp [results, Tryd.results29, go_sem]) rfl ⟨rfl, rfl⟩
set_option maxHeartbeats 1000000 in
theorem lenB_yes (n : Int) (h1 : -1100 ≤ n) (h2 : n ≤ 1100) (w : World) : Calls Tryd.prog 29 #[.int .i64 n, .int .i64 14267572527] w fun e w' => e = .returned (.tuple #[.int .i64 (n * 14267572527 / 4294967296 + 1), .nilIface]) ∧ w' = w := by
  have W := fun x => within_yes n (-1100) 1100 h1 h2 x
  go_enter Tryd.func29, Tryd.ntmps29
  go_wp2_with fail
  refine (W _).mono ?_
  rintro e w ⟨rfl, rfl⟩
  go_wp2
  refine bodyPost_ret (v := .tuple #[.int .i64 (n * 14267572527 / 4294967296 + 1), .nilIface]) (by simp [results, Tryd.results29, go_sem]) rfl ⟨rfl, rfl⟩
theorem len_no (n l : Int) (h : n < -1100 ∨ 1100 < n) (w : World) : Calls Tryd.prog 29 #[.int .i64 n, .int .i64 l] w fun e w' => e = .returned (.tuple #[.int .i64 0, errV 1]) ∧ w' = w := by
  have W := fun x => within_no n (-1100) 1100 h x
  go_enter Tryd.func29, Tryd.ntmps29
  go_wp2_with fail
  refine (W _).mono ?_
  rintro e w ⟨rfl, rfl⟩
  go_wp2
  refine bodyPost_ret (v := .tuple #[.int .i64 0, errV 1]) (by simp [results, Tryd.results29, go_sem]; rfl) rfl ⟨rfl, rfl⟩
/-- How many digits a power has ahead of its point, by a logarithm; the error's number. -/
def lgD (n : Int) : Int := if n < -1100 ∨ 1100 < n then 0 else n * 1292913986 / 4294967296 + 1
def lgB (n : Int) : Int := if n < -1100 ∨ 1100 < n then 0 else n * 14267572527 / 4294967296 + 1
def lgE (n : Int) : Nat := if n < -1100 ∨ 1100 < n then 1 else 0
theorem digits_call (n : Int) (w : World) : Calls Tryd.prog 10 #[.int .i64 n] w fun e w' => e = .returned (.tuple #[.int .i64 (lgD n), errV (lgE n)]) ∧ w' = w := by
  unfold lgD lgE
  by_cases c : n < -1100 ∨ 1100 < n
  · rw [if_pos c, if_pos c]
    have L := fun x => len_no n 1292913986 c x
    generalize errV 1 = er at *
    go_enter Tryd.func10, Tryd.ntmps10
    go_wp2_with fail
    refine (L _).mono ?_
    rintro e w ⟨rfl, rfl⟩
    go_wp2
    refine bodyPost_ret (v := .tuple #[.int .i64 0, er]) (by simp [results, Tryd.results10, go_sem]) rfl ⟨rfl, rfl⟩
  · rw [if_neg c, if_neg c]
    have L := fun x => lenD_yes n (by omega) (by omega) x
    generalize n * 1292913986 / 4294967296 + 1 = r at *
    go_enter Tryd.func10, Tryd.ntmps10
    go_wp2_with fail
    refine (L _).mono ?_
    rintro e w ⟨rfl, rfl⟩
    go_wp2
    refine bodyPost_ret (v := .tuple #[.int .i64 r, .nilIface]) (by simp [results, Tryd.results10, go_sem]) rfl ⟨rfl, rfl⟩
theorem bits_call (n : Int) (w : World) : Calls Tryd.prog 12 #[.int .i64 n] w fun e w' => e = .returned (.tuple #[.int .i64 (lgB n), errV (lgE n)]) ∧ w' = w := by
  unfold lgB lgE
  by_cases c : n < -1100 ∨ 1100 < n
  · rw [if_pos c, if_pos c]
    have L := fun x => len_no n 14267572527 c x
    generalize errV 1 = er at *
    go_enter Tryd.func12, Tryd.ntmps12
    go_wp2_with fail
    refine (L _).mono ?_
    rintro e w ⟨rfl, rfl⟩
    go_wp2
    refine bodyPost_ret (v := .tuple #[.int .i64 0, er]) (by simp [results, Tryd.results12, go_sem]) rfl ⟨rfl, rfl⟩
  · rw [if_neg c, if_neg c]
    have L := fun x => lenB_yes n (by omega) (by omega) x
    generalize n * 14267572527 / 4294967296 + 1 = r at *
    go_enter Tryd.func12, Tryd.ntmps12
    go_wp2_with fail
    refine (L _).mono ?_
    rintro e w ⟨rfl, rfl⟩
    go_wp2
    refine bodyPost_ret (v := .tuple #[.int .i64 r, .nilIface]) (by simp [results, Tryd.results12, go_sem]) rfl ⟨rfl, rfl⟩

/-- A power in a word, if it is one of the first; the error's number. -/
def wpX (b : Nat) (m : Nat) (n : Int) : Nat := if n < 0 ∨ (m : Int) < n then 0 else b ^ n.toNat
def wpE (m : Nat) (n : Int) : Nat := if n < 0 ∨ (m : Int) < n then 1 else 0
set_option maxRecDepth 100000 in
set_option maxHeartbeats 1000000 in
theorem word_yes (b n m : Nat) (h0 : 0 < b) (hm : m ≤ 100) (hn : n ≤ m) (hp : b ^ m < 18446744073709551616) (w : World) :
    Calls Tryd.prog 31 #[.int .u64 (b : Int), .int .i64 (n : Int), .int .i64 (m : Int)] w fun e w' => e = .returned (.tuple #[.int .u64 ((b ^ n : Nat) : Int), .nilIface]) ∧ w' = w := by
  have HP : Hid (b ^ m < 18446744073709551616 ∧ 0 < b) := ⟨hp, h0⟩
  obtain ⟨P, hP⟩ : ∃ P, P = b ^ n := ⟨_, rfl⟩
  rw [← hP]
  have HQ : Hid (P = b ^ n) := hP
  have W := fun x => within_yes (n : Int) 0 (m : Int) (by omega) (by omega) x
  clear hp h0 hP
  go_enter Tryd.func31, Tryd.ntmps31
  go_wp2_with fail
  refine (W _).mono ?_
  rintro e w ⟨rfl, rfl⟩
  go_wp2
  go_loop [8, 15] (fun pv iv => ∃ k q : Nat, pv = .int .u64 (q : Int) ∧ iv = .int .i64 (k : Int) ∧ k ≤ n ∧ q < 18446744073709551616 ∧ Hid (q = b ^ k)) (fun _ iv => n - (intOf iv).toNat)
  case atStart => exact ⟨0, 1, rfl, rfl, Nat.zero_le _, by omega, by show 1 = b ^ 0; rw [Nat.pow_zero]⟩
  case round =>
    obtain ⟨k, q, rfl, rfl, hk, hq, HK⟩ := hrel
    by_cases c : k < n
    · have e : q * b = b ^ (k + 1) := by rw [HK.out, Nat.pow_succ]
      have lt : q * b < 18446744073709551616 := by rw [e]; exact pow_word HP.out.2 (by omega) HP.out.1
      have pm : (q : Int) * (b : Int) = ((q * b : Nat) : Int) := by rw [Int.natCast_mul]
      have HE : Hid (q * b = b ^ (k + 1)) := e
      clear e
      generalize q * b = r at *
      go_wp2
      go_round
      case rel => exact ⟨k + 1, r, by first | rfl | (rw [pm]), by go_num, by omega, lt, HE⟩
      case measure => simp [intOf]; omega
    · obtain rfl : k = n := by omega
      have HR : Hid (q = P) := HK.out.trans HQ.out.symm
      go_wp2
      refine bodyPost_ret (v := .tuple #[.int .u64 (q : Int), .nilIface]) (by simp [results, Tryd.results31, go_sem]) rfl ⟨by rw [HR.out], rfl⟩
theorem word_no (b n m : Int) (h : n < 0 ∨ m < n) (w : World) :
    Calls Tryd.prog 31 #[.int .u64 b, .int .i64 n, .int .i64 m] w fun e w' => e = .returned (.tuple #[.int .u64 0, errV 1]) ∧ w' = w := by
  have W := fun x => within_no n 0 m h x
  go_enter Tryd.func31, Tryd.ntmps31
  go_wp2_with fail
  refine (W _).mono ?_
  rintro e w ⟨rfl, rfl⟩
  go_wp2
  refine bodyPost_ret (v := .tuple #[.int .u64 0, errV 1]) (by simp [results, Tryd.results31, go_sem]; rfl) rfl ⟨rfl, rfl⟩
theorem word_any (b m : Nat) (n : Int) (h0 : 0 < b) (hm : m ≤ 100) (hp : b ^ m < 18446744073709551616) (w : World) :
    Calls Tryd.prog 31 #[.int .u64 (b : Int), .int .i64 n, .int .i64 (m : Int)] w fun e w' => e = .returned (.tuple #[.int .u64 ((wpX b m n : Nat) : Int), errV (wpE m n)]) ∧ w' = w := by
  unfold wpX wpE
  by_cases c : n < 0 ∨ (m : Int) < n
  · rw [if_pos c, if_pos c]
    exact word_no b n m c w
  · rw [if_neg c, if_neg c]
    obtain ⟨k, rfl⟩ := Int.eq_ofNat_of_zero_le (show 0 ≤ n by omega)
    rw [Int.toNat_natCast]
    exact word_yes b k m h0 hm (by omega) hp w
theorem times_any13 (b m : Nat) (n : Int) (h0 : 0 < b) (hm : m ≤ 100) (hp : b ^ m < 18446744073709551616) (w : World) :
    Calls Tryd.prog 15 #[.int .u64 (b : Int), .int .i64 n, .int .i64 (m : Int)] w fun e w' => e = .returned (.tuple #[.int .u64 ((wpX b m n : Nat) : Int), .int .i64 (wpE m n : Int)]) ∧ w' = w := by
  unfold wpX wpE
  by_cases c : n < 0 ∨ (m : Int) < n
  · rw [if_pos c, if_pos c]
    exact times_no b n m c w
  · rw [if_neg c, if_neg c]
    obtain ⟨k, rfl⟩ := Int.eq_ofNat_of_zero_le (show 0 ≤ n by omega)
    rw [Int.toNat_natCast]
    exact times_yes b k m h0 hm (by omega) hp w
theorem ten_call (n : Int) (w : World) : Calls Tryd.prog 14 #[.int .i64 n] w fun e w' => e = .returned (.tuple #[.int .u64 ((wpX 10 19 n : Nat) : Int), errV (wpE 19 n)]) ∧ w' = w := by
  have L := fun x => word_any 10 19 n (by omega) (by omega) (by decide) x
  simp only [Int.cast_ofNat_Int] at L
  generalize wpX 10 19 n = r at *
  generalize errV (wpE 19 n) = er at *
  go_enter Tryd.func14, Tryd.ntmps14
  go_wp2_with fail
  refine (L _).mono ?_
  rintro e w ⟨rfl, rfl⟩
  go_wp2
  refine bodyPost_ret (v := .tuple #[.int .u64 (r : Int), er]) (by simp [results, Tryd.results14, go_sem]) rfl ⟨rfl, rfl⟩
theorem five_call (n : Int) (w : World) : Calls Tryd.prog 16 #[.int .i64 n] w fun e w' => e = .returned (.tuple #[.int .u64 ((wpX 5 27 n : Nat) : Int), errV (wpE 27 n)]) ∧ w' = w := by
  have L := fun x => word_any 5 27 n (by omega) (by omega) (by decide) x
  simp only [Int.cast_ofNat_Int] at L
  generalize wpX 5 27 n = r at *
  generalize errV (wpE 27 n) = er at *
  go_enter Tryd.func16, Tryd.ntmps16
  go_wp2_with fail
  refine (L _).mono ?_
  rintro e w ⟨rfl, rfl⟩
  go_wp2
  refine bodyPost_ret (v := .tuple #[.int .u64 (r : Int), er]) (by simp [results, Tryd.results16, go_sem]) rfl ⟨rfl, rfl⟩

end Go.Proofs.YtlbbilldehlheaaDoor
