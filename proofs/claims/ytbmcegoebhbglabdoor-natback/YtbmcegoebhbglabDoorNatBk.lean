/-
  nat.Read of '00' and a number's digits gives the number again.
-/
import Derived.Test.YtbmcegoebhbglabDoorNatRr
namespace Go.Proofs.YtbmcegoebhbglabDoor
open Go.RowKit

theorem dv_ch {d : Nat} (h : d < 36) : dv (ch d) = d := by
  have key : ∀ d : Fin 36, dv (ch d.val) = d.val := by decide
  exact key ⟨d, h⟩
theorem ch_nought {d : Nat} (h : d < 36) (h0 : d ≠ 0) : ch d ≠ 48 := by
  unfold ch
  split <;> omega
theorem sv_digits {b X K : Nat} (hX : X < b ^ K) : ∀ j, j ≤ K → sv b (fun i => X / b ^ (K - 1 - i) % b) j = X / b ^ (K - j)
  | 0, _ => by rw [Nat.sub_zero, Nat.div_eq_of_lt hX]; rfl
  | j + 1, h => by
    show sv b (fun i => X / b ^ (K - 1 - i) % b) j * b + X / b ^ (K - 1 - j) % b = X / b ^ (K - (j + 1))
    rw [sv_digits hX j (by omega), show K - j = K - 1 - j + 1 by omega, Nat.pow_succ, ← Nat.div_div_eq_div_mul, show K - (j + 1) = K - 1 - j by omega, Nat.mul_comm]
    exact Nat.div_add_mod _ _

theorem two_size (t : ByteArray) : ((⟨#[48, 48]⟩ : ByteArray) ++ t).size = t.size + 2 := by
  rw [ByteArray.size_append]
  show 2 + t.size = _
  omega
theorem two_low (t : ByteArray) (i : Nat) (h : i < 2) : ∀ hh, (((⟨#[48, 48]⟩ : ByteArray) ++ t)[i]'hh).toNat = 48 := by
  intro hh
  rw [ByteArray.getElem_append_left (by show i < 2; exact h)]
  rcases i with _ | _ | i
  · rfl
  · rfl
  · omega
theorem two_high (t : ByteArray) (i : Nat) (h : 2 ≤ i) (h' : i - 2 < t.size) : ∀ hh, ((⟨#[48, 48]⟩ : ByteArray) ++ t)[i]'hh = t[i - 2]'h' := by
  intro hh
  rw [ByteArray.getElem_append_right (by show 2 ≤ i; exact h)]
  rfl

theorem back_ok {w : World} {b X K : Nat} (h1 : 2 ≤ b) (h2 : b ≤ 36) (hK : 1 ≤ K) (hK2 : K ≤ 10000) (hlo : b ^ (K - 1) ≤ X) (hhi : X < b ^ K) (hX : X < B ^ 128) :
    Calls Tryd.prog 11 #[.string ((⟨#[48, 48]⟩ : ByteArray) ++ rowText b X K), .int .i64 (b : Int)] w fun e w' => ∃ v, e = .returned (.tuple #[v, .nilIface]) ∧ NatV w' v X ∧ Below w.heap.size w w' := by
  have sz := two_size (rowText b X K)
  rw [rowText_size] at sz
  obtain ⟨s, hs⟩ : ∃ s, s = (⟨#[48, 48]⟩ : ByteArray) ++ rowText b X K := ⟨_, rfl⟩
  have lo : ∀ i, i < 2 → ∀ hh, (s[i]'hh).toNat = 48 := by rw [hs]; exact fun i h => two_low _ i h
  have hi : ∀ i, 2 ≤ i → i < K + 2 → ∀ hh, (s[i]'hh).toNat = ch (X / b ^ (K - 1 - (i - 2)) % b) := by
    rw [hs]
    intro i h h' hh
    rw [two_high _ i h (by rw [rowText_size]; omega)]
    exact rowText_at (by omega) h2 _
  rw [← hs] at sz ⊢
  have md : ∀ y, y % b < 36 := fun y => Nat.lt_of_lt_of_le (Nat.mod_lt _ (by omega)) h2
  have ev : sv b (fun i => if i < 2 then 0 else X / b ^ (K - 1 - (i - 2)) % b) s.size = X := by
    rw [sz, Nat.add_comm, sv_split]
    have e0 : sv b (fun i => if i < 2 then 0 else X / b ^ (K - 1 - (i - 2)) % b) 2 = 0 := sv_noughts fun i h => by rw [if_pos h]
    have e1 : (fun j => (fun i => if i < 2 then 0 else X / b ^ (K - 1 - (i - 2)) % b) (2 + j)) = fun j => X / b ^ (K - 1 - j) % b := funext fun j => by
      show (if 2 + j < 2 then 0 else X / b ^ (K - 1 - (2 + j - 2)) % b) = _
      rw [if_neg (by omega), Nat.add_sub_cancel_left]
    rw [e0, e1, sv_digits hhi K (Nat.le_refl _), Nat.sub_self, Nat.pow_zero, Nat.div_one, Nat.zero_mul, Nat.zero_add]
  have T := read_ok (w := w) s (by omega) (by omega) b h1 h2 (fun i => if i < 2 then 0 else X / b ^ (K - 1 - (i - 2)) % b) (fun k h => by
    by_cases c : k < 2
    · rw [lo k c]
      show dv 48 = if k < 2 then 0 else _
      rw [if_pos c]
      rfl
    · rw [hi k (by omega) (by omega), dv_ch (md _)]
      show _ = if k < 2 then 0 else _
      rw [if_neg c]) (fun k h => by
    show (if k < 2 then 0 else _) < b
    split
    · omega
    · exact Nat.mod_lt _ (by omega)) 2 (by omega) (fun i h => lo i h _) (fun h => by
    rw [hi 2 (by omega) (by omega)]
    refine ch_nought (md _) ?_
    rw [Nat.sub_self, Nat.sub_zero, Nat.mod_eq_of_lt]
    · have := (Nat.one_le_div_iff (Nat.pow_pos (n := K - 1) (show 0 < b by omega))).2 hlo
      omega
    · rw [Nat.div_lt_iff_lt_mul (Nat.pow_pos (by omega)), Nat.mul_comm, ← Nat.pow_succ, show (K - 1).succ = K by omega]
      exact hhi) (by rw [ev]; exact hX)
  rw [ev] at T
  exact T

theorem back_zero {w : World} {b : Nat} (h1 : 2 ≤ b) (h2 : b ≤ 36) :
    Calls Tryd.prog 11 #[.string ⟨#[48, 48, 48]⟩, .int .i64 (b : Int)] w fun e w' => ∃ v, e = .returned (.tuple #[v, .nilIface]) ∧ NatV w' v 0 ∧ Below w.heap.size w w' := by
  have k48 : ∀ k (h : k < (⟨#[48, 48, 48]⟩ : ByteArray).size), ((⟨#[48, 48, 48]⟩ : ByteArray)[k]'h).toNat = 48 := by
    intro k h
    have h' : k < 3 := h
    rcases k with _ | _ | _ | k
    · rfl
    · rfl
    · rfl
    · omega
  have ev : sv b (fun _ => 0) (⟨#[48, 48, 48]⟩ : ByteArray).size = 0 := sv_noughts fun _ _ => rfl
  have T := read_ok (w := w) ⟨#[48, 48, 48]⟩ (by decide) (by decide) b h1 h2 (fun _ => 0) (fun k h => by rw [k48 k h]; rfl) (fun _ _ => by omega) 3 (by decide) (fun i h => k48 i h) (fun h => absurd h (by decide)) (by rw [ev]; exact Bp_pos 128)
  rw [ev] at T
  exact T

end Go.Proofs.YtbmcegoebhbglabDoor
