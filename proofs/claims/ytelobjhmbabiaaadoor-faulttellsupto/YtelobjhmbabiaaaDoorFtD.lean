/-
  The law's digits: the decimal numeral of an int.
-/
import Derived.Test.YtelobjhmbabiaaaDoorFtS
import Derived.Lib.AppendIntMem
namespace Go.Proofs.YtelobjhmbabiaaaDoor
open Go.RowKit

theorem dig_piece : ∀ i : Fin 10, (⟨#[48, 49, 50, 51, 52, 53, 54, 55, 56, 57]⟩ : ByteArray).extract i.val (i.val + 1) = ⟨#[UInt8.ofNat (48 + i.val)]⟩ := by decide +kernel
theorem dec_small {n : Nat} (h : n < 10) : Lib.decDigits n = [UInt8.ofNat (48 + n)] := by rw [Lib.decDigits, dif_pos h]
theorem dec_more {n : Nat} (h : ¬ n < 10) : Lib.decDigits n = Lib.decDigits (n / 10) ++ [UInt8.ofNat (48 + n % 10)] := by rw [Lib.decDigits, dif_neg h]
theorem mk_cons (c : UInt8) (l : List UInt8) : (⟨#[c]⟩ : ByteArray) ++ ⟨l.toArray⟩ = ⟨(c :: l).toArray⟩ := by
  apply ByteArray.ext
  simp
/-- The digits that are told so far, and what is left of the number. -/
def Dg (X x : Nat) (l : List UInt8) : Prop := (0 < x ∧ Lib.decDigits X = Lib.decDigits x ++ l) ∨ (x = 0 ∧ Lib.decDigits X = l)
theorem Dg.step {X x : Nat} {l : List UInt8} (h : Dg X x l) (hx : 0 < x) : Dg X (x / 10) (UInt8.ofNat (48 + x % 10) :: l) := by
  rcases h with ⟨_, e⟩ | ⟨e, _⟩
  · by_cases q : x < 10
    · refine Or.inr ⟨by omega, ?_⟩
      rw [e, dec_small q, Nat.mod_eq_of_lt q]
      rfl
    · refine Or.inl ⟨by omega, ?_⟩
      rw [e, dec_more q, List.append_assoc]
      rfl
  · omega
theorem Dg.len {X x : Nat} {l : List UInt8} (h : Dg X x l) : l.length ≤ (Lib.decDigits X).length := by
  rcases h with ⟨_, e⟩ | ⟨_, e⟩
  · rw [e, List.length_append]; omega
  · rw [e]; exact Nat.le_refl _
theorem dec_len {X : Nat} (h0 : 0 < X) (h : X ≤ 9223372036854775808) : (Lib.decDigits X).length ≤ 21 := by
  have := Lib.itoa_length_le (-(X : Int)) (by omega) (by omega)
  rw [Lib.itoa_neg X h0, List.length_cons] at this
  omega

set_option maxRecDepth 100000 in
theorem digits_zero (w : World) : Calls Tryd.prog 20 #[.int .i64 0] w fun e w' => e = .returned (.string ⟨#[48]⟩) ∧ w' = w := by
  go_enter Tryd.func20, Tryd.ntmps20
  go_wp2
  go_ret
  exact ⟨rfl, rfl⟩

set_option maxRecDepth 100000 in
set_option maxHeartbeats 2000000 in
theorem digits_pos (X : Nat) (h0 : 0 < X) (h1 : X ≤ 9223372036854775807) (w : World) : Calls Tryd.prog 20 #[.int .i64 ((X : Int))] w fun e w' => e = .returned (.string (itB ((X : Int)))) ∧ w' = w := by
  have z0 : (((X : Int)) == 0) = false := by simp; omega
  have z1 : ¬ (X : Int) < 0 := by omega
  have wx : IntKind.u64.wrap (X : Int) = (X : Int) := by rw [IntKind.wrap_u64]; omega
  have HX : Hid (0 < X ∧ X ≤ 9223372036854775808) := ⟨h0, by omega⟩
  have hX2 : X ≤ 9223372036854775808 := by omega
  have hp : (0 < X) = True := by simp [h0]
  clear h1
  go_enter Tryd.func20, Tryd.ntmps20
  go_wp2
  clear z0 z1 hp h0
  go_loop [4, 5] (fun xv sv => ∃ (x : Nat) (l : List UInt8), xv = .int .u64 (x : Int) ∧ sv = .string ⟨l.toArray⟩ ∧ x ≤ X ∧ Hid (Dg X x l)) (fun xv _ => (intOf xv).toNat)
  case atStart => exact ⟨X, [], rfl, rfl, Nat.le_refl _, Or.inl ⟨HX.out.1, by simp⟩⟩
  case round =>
    clear wx
    obtain ⟨x, l, rfl, rfl, hx, HD⟩ := hrel
    have HL : Hid (l.length ≤ 21) := Nat.le_trans HD.out.len (dec_len HX.out.1 HX.out.2)
    by_cases c1 : 0 < x
    · obtain ⟨r, hr⟩ : ∃ r, r = x % 10 := ⟨_, rfl⟩
      obtain ⟨q, hq⟩ : ∃ q, q = x / 10 := ⟨_, rfl⟩
      have HS : Hid (Dg X q (UInt8.ofNat (48 + r) :: l)) := by rw [hr, hq]; exact HD.out.step c1
      have d := dig_piece ⟨r, by omega⟩
      simp only at d
      have qq : ∀ W, (Op.stringOp .add ((⟨#[48, 49, 50, 51, 52, 53, 54, 55, 56, 57]⟩ : ByteArray).extract r (r + 1)) ⟨l.toArray⟩).run Tryd.prog W = .ok (.string ⟨(UInt8.ofNat (48 + r) :: l).toArray⟩) W := fun W => by
        rw [d, run_string_add_sum W _ _ (by have := HL.out; rw [show (⟨#[UInt8.ofNat (48 + r)]⟩ : ByteArray).size = 1 from rfl]; show 1 + l.toArray.size ≤ _; rw [List.size_toArray]; omega), mk_cons]
      have g1 : (x : Int) / 10 = (q : Int) := by omega
      have g2 : (x : Int) % 10 = (r : Int) := by omega
      have g4 : (0 : Int) < (x : Int) := by omega
      have u1 : (0 : Int) ≤ (r : Int) := by omega
      have u2 : (r : Int) ≤ (r : Int) + 1 := by omega
      have u3 : (r : Int) + 1 ≤ 10 := by omega
      have HQ : Hid (q < x ∧ q ≤ X) := ⟨by omega, by omega⟩
      clear d hr hq
      generalize UInt8.ofNat (48 + r) :: l = l2 at *
      go_wp2
      go_round
      case rel => exact ⟨q, l2, rfl, rfl, HQ.out.2, HS⟩
      case measure => simp [intOf]; have := HQ.out.1; omega
    · obtain rfl : x = 0 := by omega
      have hl : l = Lib.decDigits X := by
        rcases HD.out with ⟨a, _⟩ | ⟨_, b⟩
        · omega
        · exact b.symm
      have ad : ∀ W, (Op.stringOp .add ⟨#[]⟩ ⟨l.toArray⟩).run Tryd.prog W = .ok (.string (itB ((X : Int)))) W := fun W => by
        rw [run_string_add_sum W _ _ (by have := HL.out; rw [show (⟨#[]⟩ : ByteArray).size = 0 from rfl]; show _ + l.toArray.size ≤ _; rw [List.size_toArray]; omega)]
        congr 2
        unfold itB; rw [Lib.itoa_nonneg, ← hl]; apply ByteArray.ext; simp
      clear c1 hl
      go_wp2
      go_ret
      exact ⟨rfl, rfl⟩

set_option maxRecDepth 100000 in
set_option maxHeartbeats 2000000 in
theorem digits_neg (X : Nat) (h0 : 0 < X) (h1 : X ≤ 9223372036854775808) (w : World) : Calls Tryd.prog 20 #[.int .i64 (-(X : Int))] w fun e w' => e = .returned (.string (itB (-(X : Int)))) ∧ w' = w := by
  have z0 : ((-(X : Int)) == 0) = false := by simp; omega
  have z1 : (-(X : Int)) < 0 := by omega
  have wx : IntKind.u64.wrap (-IntKind.u64.wrap (-(X : Int))) = (X : Int) := by rw [IntKind.wrap_u64, IntKind.wrap_u64]; omega
  have HX : Hid (0 < X ∧ X ≤ 9223372036854775808) := ⟨h0, by omega⟩
  have hX2 : X ≤ 9223372036854775808 := by omega
  have hp : (0 < X) = True := by simp [h0]
  clear h1
  go_enter Tryd.func20, Tryd.ntmps20
  go_wp2
  clear z0 z1 hp h0
  go_loop [4, 5] (fun xv sv => ∃ (x : Nat) (l : List UInt8), xv = .int .u64 (x : Int) ∧ sv = .string ⟨l.toArray⟩ ∧ x ≤ X ∧ Hid (Dg X x l)) (fun xv _ => (intOf xv).toNat)
  case atStart => exact ⟨X, [], rfl, rfl, Nat.le_refl _, Or.inl ⟨HX.out.1, by simp⟩⟩
  case round =>
    clear wx
    obtain ⟨x, l, rfl, rfl, hx, HD⟩ := hrel
    have HL : Hid (l.length ≤ 21) := Nat.le_trans HD.out.len (dec_len HX.out.1 HX.out.2)
    by_cases c1 : 0 < x
    · obtain ⟨r, hr⟩ : ∃ r, r = x % 10 := ⟨_, rfl⟩
      obtain ⟨q, hq⟩ : ∃ q, q = x / 10 := ⟨_, rfl⟩
      have HS : Hid (Dg X q (UInt8.ofNat (48 + r) :: l)) := by rw [hr, hq]; exact HD.out.step c1
      have d := dig_piece ⟨r, by omega⟩
      simp only at d
      have qq : ∀ W, (Op.stringOp .add ((⟨#[48, 49, 50, 51, 52, 53, 54, 55, 56, 57]⟩ : ByteArray).extract r (r + 1)) ⟨l.toArray⟩).run Tryd.prog W = .ok (.string ⟨(UInt8.ofNat (48 + r) :: l).toArray⟩) W := fun W => by
        rw [d, run_string_add_sum W _ _ (by have := HL.out; rw [show (⟨#[UInt8.ofNat (48 + r)]⟩ : ByteArray).size = 1 from rfl]; show 1 + l.toArray.size ≤ _; rw [List.size_toArray]; omega), mk_cons]
      have g1 : (x : Int) / 10 = (q : Int) := by omega
      have g2 : (x : Int) % 10 = (r : Int) := by omega
      have g4 : (0 : Int) < (x : Int) := by omega
      have u1 : (0 : Int) ≤ (r : Int) := by omega
      have u2 : (r : Int) ≤ (r : Int) + 1 := by omega
      have u3 : (r : Int) + 1 ≤ 10 := by omega
      have HQ : Hid (q < x ∧ q ≤ X) := ⟨by omega, by omega⟩
      clear d hr hq
      generalize UInt8.ofNat (48 + r) :: l = l2 at *
      go_wp2
      go_round
      case rel => exact ⟨q, l2, rfl, rfl, HQ.out.2, HS⟩
      case measure => simp [intOf]; have := HQ.out.1; omega
    · obtain rfl : x = 0 := by omega
      have hl : l = Lib.decDigits X := by
        rcases HD.out with ⟨a, _⟩ | ⟨_, b⟩
        · omega
        · exact b.symm
      have ad : ∀ W, (Op.stringOp .add ⟨#[45]⟩ ⟨l.toArray⟩).run Tryd.prog W = .ok (.string (itB (-(X : Int)))) W := fun W => by
        rw [run_string_add_sum W _ _ (by have := HL.out; rw [show (⟨#[45]⟩ : ByteArray).size = 1 from rfl]; show _ + l.toArray.size ≤ _; rw [List.size_toArray]; omega)]
        congr 2
        unfold itB; rw [Lib.itoa_neg X HX.out.1, ← hl]; exact mk_cons 45 l
      clear c1 hl
      go_wp2
      go_ret
      exact ⟨rfl, rfl⟩

theorem itB_zero : itB 0 = ⟨#[48]⟩ := by decide +kernel
theorem digits_any {n : Int} (h0 : -9223372036854775808 ≤ n) (h1 : n ≤ 9223372036854775807) (w : World) : Calls Tryd.prog 20 #[.int .i64 n] w fun e w' => e = .returned (.string (itB n)) ∧ w' = w := by
  by_cases z : n = 0
  · subst z
    rw [itB_zero]
    exact digits_zero w
  · by_cases p : 0 < n
    · obtain ⟨X, rfl⟩ : ∃ X : Nat, n = (X : Int) := ⟨n.toNat, by omega⟩
      exact digits_pos X (by omega) (by omega) w
    · obtain ⟨X, rfl⟩ : ∃ X : Nat, n = -(X : Int) := ⟨(-n).toNat, by omega⟩
      exact digits_neg X (by omega) (by omega) w
end Go.Proofs.YtelobjhmbabiaaaDoor
