/-
  What the calls of nat's areDigits and smallValue answer for digits of a base.
-/
import Derived.Test.YtbmcegoebhbglabDoorNatDg
namespace Go.Proofs.YtbmcegoebhbglabDoor
open Go.RowKit

theorem toListData (s : ByteArray) : s.toList = s.data.toList := by
  have go : ∀ (n i : Nat) (r : List UInt8), n = s.size - i → ByteArray.toList.loop s i r = r.reverse ++ s.data.toList.drop i := by
    intro n
    induction n with
    | zero =>
      intro i r h
      rw [ByteArray.toList.loop, if_neg (by omega), List.drop_eq_nil_of_le (by simpa using (show s.size ≤ i by omega))]
      simp
    | succ n ih =>
      intro i r h
      have hi : i < s.size := by omega
      have hl : i < s.data.toList.length := by simpa using hi
      rw [ByteArray.toList.loop, if_pos hi, ih (i + 1) _ (by omega), List.drop_eq_getElem_cons hl, List.reverse_cons, List.append_assoc]
      congr 1
      simp only [List.singleton_append, List.cons.injEq, and_true]
      simp [ByteArray.get!, hi]
  show ByteArray.toList.loop s 0 [] = _
  simpa using go s.size 0 [] (by omega)

set_option maxRecDepth 100000 in
set_option maxHeartbeats 1000000 in
theorem areDigits_ok (s : ByteArray) (hs : s.size ≤ maxLen) (h0 : 0 < s.size) (b : Nat) (hd : ∀ k (h : k < s.size), dv (s[k]'h).toNat < b) (w : World) :
    Calls Tryd.prog 36 #[.string s, .int .i64 (b : Int)] w fun e w' => e = .returned (.bool true) ∧ w' = w := by
  unfold maxLen at hs
  have HD : Hid (∀ k (h : k < s.size), dv (s[k]'h).toNat < b) := hd
  have hE : s.toList.isEmpty = false := by
    rw [toListData]
    cases q : s.data.toList with
    | nil => exact absurd (show s.size = 0 by have := congrArg List.length q; simpa using this) (by omega)
    | cons a r => rfl
  clear hd
  go_enter Tryd.func36, Tryd.ntmps36
  go_wp2
  go_loop [8] (fun i => ∃ k : Nat, k ≤ s.size ∧ i = .int .i64 k) (fun i => s.size - (intOf i).toNat)
  case atStart => exact ⟨0, Nat.zero_le _, rfl⟩
  case round =>
    obtain ⟨k, hk, rfl⟩ := hrel
    by_cases hlt : k < s.size
    · have hv := HD.out k hlt
      have DG := digit_any (s[k]'hlt).toNat (UInt8.toNat_lt _) w
      have hv' : ¬ (b : Int) ≤ (dv (s[k]'hlt).toNat : Int) := by omega
      generalize dv (s[k]'hlt).toNat = d at *
      go_wp2_with fail
      refine DG.mono ?_
      rintro e w ⟨rfl, rfl⟩
      go_wp2
      go_round
      case rel => exact ⟨k + 1, by omega, by go_num⟩
      case measure => simp [intOf]; omega
    · go_wp2
      go_ret
      exact ⟨rfl, rfl⟩

end Go.Proofs.YtbmcegoebhbglabDoor
