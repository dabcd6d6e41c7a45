/-
  The law FaultBack: the walk.
-/
import Derived.Test.YtelobjhmbabiaaaDoorFtW
import Derived.Test.YtelobjhmbabiaaaDoorFtS
namespace Go.Proofs.YtelobjhmbabiaaaDoor
open Go.RowKit

theorem qB_list (s : ByteArray) : (qB s).data.toList = qL s.data.toList := by simp [qB]
theorem qB_plain (s : ByteArray) (i : Nat) (h : i < (qB s).size) : 32 ≤ ((qB s)[i]'h).toNat ∧ ((qB s)[i]'h).toNat ≤ 126 := by
  have hm : (qB s)[i]'h ∈ qL s.data.toList := by
    rw [← qB_list]
    exact List.mem_iff_getElem.mpr ⟨i, by simpa using h, rfl⟩
  have := qL_plain _ _ hm
  exact ⟨UInt8.le_iff_toNat_le.mp this.1, UInt8.le_iff_toNat_le.mp this.2⟩
theorem qB_size (s : ByteArray) : (qB s).size ≤ 4 * s.size + 2 := by
  have a := size_list (qB_list s)
  have b := qIn_length_le s.data.toList
  rw [len_data] at b
  rw [a]; unfold qL; simp; omega
theorem str_same (a : ByteArray) : (a.toList == a.toList) = true := by simp

set_option maxRecDepth 100000 in
set_option maxHeartbeats 2000000 in
theorem back_law (s : ByteArray) (hs : s.size ≤ 35000000000000) (w : World) (hP : PowB w.heap.size w) :
    Calls Tryd.prog 7 #[.string s] w fun x w' => x = .returned (.bool true) ∧ Below w.heap.size w w' := by
  have Q1 := fun W => quote_any s hs W
  have U1 := fun W => dunq_yes (q := qB s) (t := s) (by have := qB_size s; omega) (hdr_of (qB_list s)) (inn_of (qB_list s)) W
  have S1 := fun W (h : PowB W.heap.size W) => sure_any W h
  have HP : Hid (PowB w.heap.size w) := hP
  have HB : Hid (∀ i (h : i < (qB s).size), 32 ≤ ((qB s)[i]'h).toNat ∧ ((qB s)[i]'h).toNat ≤ 126) := qB_plain s
  have hz : (qB s).size ≤ 9223372036854775807 := by have := qB_size s; omega
  have eS := str_same s
  clear hP
  change ∀ W, Calls Tryd.prog 10 #[.string s] W fun e w' => e = .returned (.string (qB s)) ∧ Below W.heap.size W w' at Q1
  generalize qB s = q at *
  go_enter Tryd.func7, Tryd.ntmps7
  go_wp2_with fail
  refine (Q1 _).mono ?_
  rintro x w1 ⟨rfl, b1⟩
  have B1 : Hid (Below w.heap.size w w1) := b1
  clear b1 Q1
  go_wp2
  go_loop [4] (fun i => ∃ k : Nat, k ≤ q.size ∧ i = .int .i64 k) (fun i => q.size - (intOf i).toNat)
  case atStart => exact ⟨0, Nat.zero_le _, rfl⟩
  case round =>
    obtain ⟨k, hk, rfl⟩ := hrel
    by_cases hlt : k < q.size
    · obtain ⟨v1, v2⟩ := HB.out k hlt
      have v1' : ¬ ((q[k]'hlt).toNat : Int) < 32 := by omega
      have v2' : ¬ (126 : Int) < ((q[k]'hlt).toNat : Int) := by omega
      go_wp2
      go_round
      case rel => exact ⟨k + 1, by omega, by go_num⟩
      case measure => simp [intOf]; omega
    · obtain rfl : k = q.size := by omega
      go_wp2_with fail
      refine (U1 _).mono ?_
      rintro x w2 ⟨rfl, b2⟩
      have B2 : Hid (Below w.heap.size w w2) := B1.out.trans (b2.mono B1.out.size)
      clear b2
      go_wp2_with fail
      refine (S1 _ (HP.out.step B2.out)).mono ?_
      rintro x w3 ⟨rfl, b3⟩
      have B3 : Hid (Below w.heap.size w w3) := B2.out.trans (b3.mono B2.out.size)
      clear b3
      go_wp2
      go_ret
      exact ⟨rfl, B3.out⟩
end Go.Proofs.YtelobjhmbabiaaaDoor
