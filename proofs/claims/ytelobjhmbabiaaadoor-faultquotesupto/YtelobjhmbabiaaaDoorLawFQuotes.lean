/-
  The law FaultQuotes: the walk.
-/
import Derived.Test.YtelobjhmbabiaaaDoorFtZ
import Derived.Test.YtelobjhmbabiaaaDoorFtS
import Derived.Test.YtelobjhmbabiaaaDoorErrNum
namespace Go.Proofs.YtelobjhmbabiaaaDoor
open Go.RowKit

/-- What both answer of a text that is quoted, or of one that is not. -/
theorem unq_both (q : ByteArray) (hs : q.size ≤ 35000000000000) : ∃ (T : ByteArray) (v : Value) (n : Int), (v = .nilIface ∧ n = 0 ∨ v = .iface 32 (.int .i64 3) ∧ n = 3) ∧
    (∀ W, Calls Tryd.prog 8 #[.string q] W fun e w' => e = .returned (.tuple #[.string T, v]) ∧ Below W.heap.size W w') ∧
    (∀ W, Calls Tryd.prog 9 #[.string q] W fun e w' => e = .returned (.tuple #[.string T, .int .i64 n]) ∧ Below W.heap.size W w') := by
  by_cases hd : Hdr q
  · by_cases ex : ∃ t, inn q = qIn t
    · obtain ⟨t, ht⟩ := ex
      have ht' : inn q = qIn (⟨t.toArray⟩ : ByteArray).data.toList := by rw [ht]
      exact ⟨⟨t.toArray⟩, .nilIface, 0, Or.inl ⟨rfl, rfl⟩, fun W => dunq_yes (by omega) hd ht' W, fun W => runq_in hs hd (Or.inl ⟨ht', rfl⟩) W⟩
    · have hn : ∀ t, inn q ≠ qIn t := fun t h => ex ⟨t, h⟩
      exact ⟨⟨#[]⟩, _, 3, Or.inr ⟨rfl, rfl⟩, fun W => dunq_no (by omega) hd hn W, fun W => runq_in hs hd (Or.inr ⟨hn, rfl, rfl⟩) W⟩
  · exact ⟨⟨#[]⟩, _, 3, Or.inr ⟨rfl, rfl⟩, fun W => dunq_hdr q (by omega) hd W, fun W => runq_hdr q (by omega) hd W⟩
theorem num_both {v : Value} {n : Int} (h : v = .nilIface ∧ n = 0 ∨ v = .iface 32 (.int .i64 3) ∧ n = 3) (W : World) (hg : ErrT W) :
    Calls Tryd.prog 12 #[v] W fun e w' => e = .returned (.int .i64 n) ∧ Below W.heap.size W w' := by
  rcases h with ⟨rfl, rfl⟩ | ⟨rfl, rfl⟩
  · exact num_nil W
  · exact num_errno 3 W hg

set_option maxRecDepth 100000 in
set_option maxHeartbeats 2000000 in
theorem quotes_law (s q : ByteArray) (h1 : s.size ≤ 35000000000000) (h2 : q.size ≤ 35000000000000) (w : World) (hE : ErrT w) (hP : PowB w.heap.size w) :
    Calls Tryd.prog 3 #[.string s, .string q] w fun x w' => x = .returned (.bool true) ∧ Below w.heap.size w w' := by
  obtain ⟨T, v, n, hv, U1, U2⟩ := unq_both q h2
  have NM := fun W (h : ErrT W) => num_both hv W h
  have Q1 := fun W => quote_any s h1 W
  have Q2 := fun W => rquote_any s h1 W
  have S1 := fun W (h : PowB W.heap.size W) => sure_any W h
  have HP : Hid (PowB w.heap.size w) := hP
  have HE : Hid (ErrT w) := hE
  clear hP hE hv h1 h2
  generalize (⟨(qL s.data.toList).toArray⟩ : ByteArray) = R at *
  have e1 := str_same2 R
  have e2 := str_same2 T
  go_enter Tryd.func3, Tryd.ntmps3
  go_wp2_with fail
  refine (U1 _).mono ?_
  rintro x w1 ⟨rfl, b1⟩
  have B1 : Hid (Below w.heap.size w w1) := b1
  clear b1
  go_wp2_with fail
  refine (U2 _).mono ?_
  rintro x w2 ⟨rfl, b2⟩
  have B2 : Hid (Below w.heap.size w w2) := B1.out.trans (b2.mono B1.out.size)
  clear b2
  go_wp2_with fail
  refine (Q1 _).mono ?_
  rintro x w3 ⟨rfl, b3⟩
  have B3 : Hid (Below w.heap.size w w3) := B2.out.trans (b3.mono B2.out.size)
  clear b3
  go_wp2_with fail
  refine (Q2 _).mono ?_
  rintro x w4 ⟨rfl, b4⟩
  have B4 : Hid (Below w.heap.size w w4) := B3.out.trans (b4.mono B3.out.size)
  clear b4
  go_wp2_with fail
  refine (NM _ (HE.out.below B4.out HE.out.pos)).mono ?_
  rintro x w5 ⟨rfl, b5⟩
  have B5 : Hid (Below w.heap.size w w5) := B4.out.trans (b5.mono B4.out.size)
  clear b5
  go_wp2_with fail
  refine (S1 _ (HP.out.step B5.out)).mono ?_
  rintro x w6 ⟨rfl, b6⟩
  have B6 : Hid (Below w.heap.size w w6) := B5.out.trans (b6.mono B5.out.size)
  clear b6
  go_wp2
  go_ret
  exact ⟨rfl, B6.out⟩
end Go.Proofs.YtelobjhmbabiaaaDoor
