/-
  What the calls of strings.TrimLeft (of the byte 0), TrimRight (of one byte) and Clone, and of dec.shorten for short texts answer.
-/
import Derived.Test.YtghbngjjdeameaaGreatDoorDecA
import Derived.Lib.Strings
import Derived.Lib.BufferWrite
import Derived.Lib.UnsafeStr
import Derived.Laws.MakeOwn
namespace Go.Proofs.YtghbngjjdeameaaGreatDoor
open Go.RowKit

def textLen : Value → Nat | .string s => s.size | _ => 0
theorem ext_zero (s : ByteArray) : s.extract 0 s.size = s := by
  apply ByteArray.ext
  simp
theorem ext_size {s : ByteArray} {k : Nat} (h : k ≤ s.size) : (s.extract k s.size).size = s.size - k := by
  rw [ByteArray.size_extract]; omega
theorem ext_cut {s : ByteArray} {k : Nat} : (s.extract k s.size).extract 1 (s.extract k s.size).size = s.extract (k + 1) s.size := by
  apply ByteArray.ext
  rw [ByteArray.data_extract, ByteArray.data_extract, ByteArray.data_extract, Array.extract_extract, ByteArray.size_extract]
  congr 1
  omega
theorem ext_head {s : ByteArray} {k : Nat} (h : k < s.size) : ∀ hh, ((s.extract k s.size)[0]'hh).toNat = (s[k]'h).toNat := by
  intro hh
  rw [ByteArray.getElem_extract]
  rfl

set_option maxRecDepth 100000 in
set_option maxHeartbeats 1000000 in
theorem trimByte_any (s : ByteArray) (hs : s.size ≤ 9223372036854775807) (m : Nat) (hm : m ≤ s.size) (h1 : ∀ i, (h : i < m) → (s[i]'(by omega)).toNat = 48) (h2 : (h : m < s.size) → (s[m]'h).toNat ≠ 48) (w : World) :
    Calls Tryz.prog 53 #[.string s, .int .u8 48] w fun e w' => e = .returned (.string (s.extract m s.size)) ∧ w' = w := by
  go_enter Tryz.func53, Tryz.ntmps53
  have HH : Hid ((∀ i, (h : i < m) → (s[i]'(by omega)).toNat = 48) ∧ ((h : m < s.size) → (s[m]'h).toNat ≠ 48)) := ⟨h1, h2⟩
  clear h1 h2
  go_wp2
  go_loop [0] (fun v => ∃ k : Nat, v = .string (s.extract k s.size) ∧ k ≤ m) (fun v => textLen v)
  case atStart => exact ⟨0, by rw [ext_zero], Nat.zero_le _⟩
  case round =>
    obtain ⟨k, rfl, hk⟩ := hrel
    have sz := ext_size (s := s) (k := k) (by omega)
    have cut := ext_cut (s := s) (k := k)
    by_cases c1 : k < m
    · have e0 := ext_head (s := s) (k := k) (by omega)
      rw [HH.out.1 k c1] at e0
      have HS : Hid ((s.extract k s.size).extract 1 (s.extract k s.size).size = s.extract (k + 1) s.size ∧ (s.extract k s.size).size = s.size - k) := ⟨cut, sz⟩
      have hpos : 0 < (s.extract k s.size).size := by omega
      have hbig : (s.extract k s.size).size ≤ 9223372036854775807 := by omega
      obtain ⟨T2, hT2⟩ : ∃ T, s.extract (k + 1) s.size = T := ⟨_, rfl⟩
      obtain ⟨T, hT⟩ : ∃ T, s.extract k s.size = T := ⟨_, rfl⟩
      rw [hT2] at cut
      rw [hT] at cut e0 hpos hbig ⊢
      have HT : Hid (s.extract k s.size = T ∧ s.extract (k + 1) s.size = T2) := ⟨hT, hT2⟩
      clear sz hT hT2
      go_wp2
      go_round
      case rel => exact ⟨k + 1, by rw [HT.out.2], by omega⟩
      case measure =>
        have a := HS.out
        rw [HT.out.1, HT.out.2] at a
        show T2.size < T.size
        have b := ext_size (s := s) (k := k + 1) (by omega)
        rw [HT.out.2] at b
        omega
    · obtain rfl : k = m := by omega
      have HT : Hid (k ≤ k) := hk
      clear hk c1
      by_cases c2 : k < s.size
      · have e0 := ext_head (s := s) (k := k) c2
        have hne := HH.out.2 c2
        obtain ⟨v, hv⟩ : ∃ v, (s[k]'c2).toNat = v := ⟨_, rfl⟩
        rw [hv] at e0 hne
        have hne' : ((v : Int) == 48) = false := beq_eq_false_iff_ne.mpr (by omega)
        have hpos : 0 < (s.extract k s.size).size := by omega
        have hbig : (s.extract k s.size).size ≤ 9223372036854775807 := by omega
        obtain ⟨T, hT⟩ : ∃ T, s.extract k s.size = T := ⟨_, rfl⟩
        have HTT : Hid (s.extract k s.size = T) := hT
        rw [hT] at e0 hpos hbig ⊢
        clear sz cut hv hne hT
        go_wp2
        go_ret
        exact ⟨by rw [HTT.out]; rfl, rfl⟩
      · have hz : (s.extract k s.size).size = 0 := by omega
        obtain ⟨T, hT⟩ : ∃ T, s.extract k s.size = T := ⟨_, rfl⟩
        have HTT : Hid (s.extract k s.size = T) := hT
        rw [hT] at hz ⊢
        clear sz cut hT
        go_wp2
        go_ret
        exact ⟨by rw [HTT.out]; rfl, rfl⟩

set_option maxRecDepth 100000 in
set_option maxHeartbeats 1000000 in
theorem trimLeft_any (s : ByteArray) (hs : s.size ≤ 9223372036854775807) (m : Nat) (hm : m ≤ s.size) (h0 : 0 < s.size) (h1 : ∀ i, (h : i < m) → (s[i]'(by omega)).toNat = 48) (h2 : (h : m < s.size) → (s[m]'h).toNat ≠ 48) (w : World) :
    Calls Tryz.prog 34 #[.string s, .string ⟨#[48]⟩] w fun e w' => e = .returned (.string (s.extract m s.size)) ∧ w' = w := by
  have T := trimByte_any s hs m hm h1 h2
  have hE : s.toList.isEmpty = false := by
    rw [list_data]
    cases q : s.data.toList with
    | nil => exact absurd (show s.size = 0 by have := congrArg List.length q; simpa using this) (by omega)
    | cons a r => rfl
  clear h1 h2
  have e48 : ∀ hh, ((⟨#[48]⟩ : ByteArray)[0]'hh).toNat = 48 := fun _ => rfl
  go_enter Tryz.func34, Tryz.ntmps34
  go_wp2_with fail
  refine (T _).mono ?_
  rintro e wa ⟨rfl, rfl⟩
  go_wp2
  go_ret
  exact ⟨rfl, rfl⟩


theorem pre_size {s : ByteArray} {k : Nat} (h : k ≤ s.size) : (s.extract 0 k).size = k := by rw [ByteArray.size_extract]; omega
theorem pre_cut {s : ByteArray} {k : Nat} : (s.extract 0 (k + 1)).extract 0 k = s.extract 0 k := by
  apply ByteArray.ext
  rw [ByteArray.data_extract, ByteArray.data_extract, ByteArray.data_extract, Array.extract_extract]
  congr 1
  omega
theorem pre_get {s : ByteArray} {k i : Nat} (hk : k ≤ s.size) (h : i < k) : ∀ hh, ((s.extract 0 k)[i]'hh).toNat = (s[i]'(by omega)).toNat := by
  intro hh
  simp [ByteArray.getElem_extract]

set_option maxRecDepth 100000 in
set_option maxHeartbeats 1000000 in
theorem trimByteR (s : ByteArray) (hs : s.size ≤ 9223372036854775807) (b : Nat) (m : Nat) (hm : m ≤ s.size) (h1 : ∀ i, m ≤ i → (h : i < s.size) → (s[i]'h).toNat = b) (h2 : (h : 0 < m) → (s[m - 1]'(by omega)).toNat ≠ b) (w : World) :
    Calls Tryz.prog 77 #[.string s, .int .u8 (b : Int)] w fun e w' => e = .returned (.string (s.extract 0 m)) ∧ w' = w := by
  have HH : Hid ((∀ i, m ≤ i → (h : i < s.size) → (s[i]'h).toNat = b) ∧ ((h : 0 < m) → (s[m - 1]'(by omega)).toNat ≠ b)) := ⟨h1, h2⟩
  clear h1 h2
  go_enter Tryz.func77, Tryz.ntmps77
  go_wp2
  go_loop [0] (fun v => ∃ k : Nat, v = .string (s.extract 0 k) ∧ m ≤ k ∧ k ≤ s.size) (fun v => textLen v)
  case atStart => exact ⟨s.size, by rw [ext_zero], hm, Nat.le_refl _⟩
  case round =>
    obtain ⟨k, rfl, hmk, hk⟩ := hrel
    have sz := pre_size hk
    by_cases c1 : m < k
    · obtain ⟨j, rfl⟩ : ∃ j, k = j + 1 := ⟨k - 1, by omega⟩
      have e0 := pre_get (s := s) hk (show j < j + 1 by omega)
      rw [HH.out.1 j (by omega) (by omega)] at e0
      have cut := pre_cut (s := s) (k := j)
      have HC : Hid ((s.extract 0 j).size = j) := pre_size (by omega)
      obtain ⟨T2, hT2⟩ : ∃ T, s.extract 0 j = T := ⟨_, rfl⟩
      obtain ⟨T, hT⟩ : ∃ T, s.extract 0 (j + 1) = T := ⟨_, rfl⟩
      rw [hT2] at cut
      rw [hT] at sz cut e0 ⊢
      have HT : Hid (s.extract 0 j = T2) := hT2
      have HSZ : Hid (T.size = j + 1) := sz
      have hpos : 0 < T.size := by omega
      have hbig : T.size ≤ 9223372036854775807 := by omega
      have ix : ((T.size : Int) - 1).toNat = j := by omega
      have ix2 : (T.size : Int) - 1 = (j : Int) := by omega
      have eb : (((b : Nat) : Int) == (b : Int)) = true := beq_iff_eq.mpr rfl
      have hj : j < T.size := by omega
      have e1 := e0 hj
      have hTj : (T.size : Int) = (j : Int) + 1 := by omega
      clear hT hT2 sz
      go_wp2
      go_round
      case rel => exact ⟨j, by rw [HT.out], by omega, by omega⟩
      case measure =>
        show T2.size < T.size
        have a := HC.out
        rw [HT.out] at a
        have b := HSZ.out
        omega
    · obtain rfl : k = m := by omega
      clear c1 hmk
      by_cases c2 : 0 < k
      · have e0 := pre_get (s := s) hk (show k - 1 < k by omega)
        have hne := HH.out.2 c2
        obtain ⟨v, hv⟩ : ∃ v, (s[k - 1]'(by omega)).toNat = v := ⟨_, rfl⟩
        rw [hv] at e0 hne
        have hne' : ((v : Int) == (b : Int)) = false := beq_eq_false_iff_ne.mpr (by omega)
        obtain ⟨T, hT⟩ : ∃ T, s.extract 0 k = T := ⟨_, rfl⟩
        have HTT : Hid (s.extract 0 k = T) := hT
        rw [hT] at e0 sz ⊢
        have hpos : 0 < T.size := by omega
        have hbig : T.size ≤ 9223372036854775807 := by omega
        have ix : ((T.size : Int) - 1).toNat = k - 1 := by omega
        have hj : k - 1 < T.size := by omega
        have e1 := e0 hj
        clear hv hne hT
        go_wp2
        go_ret
        exact ⟨by rw [HTT.out]; rfl, rfl⟩
      · have hz : (s.extract 0 k).size = 0 := by omega
        obtain ⟨T, hT⟩ : ∃ T, s.extract 0 k = T := ⟨_, rfl⟩
        have HTT : Hid (s.extract 0 k = T) := hT
        rw [hT] at hz ⊢
        clear sz hT
        go_wp2
        go_ret
        exact ⟨by rw [HTT.out]; rfl, rfl⟩

end Go.Proofs.YtghbngjjdeameaaGreatDoor
