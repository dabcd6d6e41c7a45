/-
  The law RoundValues: the value of every float as a fraction, and the place half way to the next one, or the errors.
-/
import Derived.Test.YtealnajogkeckaaDoorRnP
import Derived.Test.YtealnajogkeckaaDoorRnL
namespace Go.Proofs.YtealnajogkeckaaDoor
open Go.RowKit

set_option maxRecDepth 100000 in
set_option maxHeartbeats 2000000 in
theorem law_rvalues (b : Nat) (hb : b < 18446744073709551616) (s : Int) (w : World) (hT : Tab w) : Calls Tryd.prog 5 #[.int .u64 (b : Int), .int .i64 s] w fun x w' => x = .returned (.bool true) ∧ Below w.heap.size w w' := by
  obtain ⟨c, k, N, D, H1, H2⟩ := value_both b hb s
  obtain ⟨k', N', D', H3, H4⟩ := half_both b hb s
  have HN := fun W => num_any k W
  have HN' := fun W => num_any k' W
  have HW := fun W hW => works_any W hW
  have HT : Hid (Tab w) := hT
  generalize errV k = V at *
  generalize errV k' = V' at *
  have bb : (c == c) = true := by simp
  have T := H1 w hT
  clear hT hb H1
  go_enter Tryd.func5, Tryd.ntmps5
  go_wp2_with fail
  refine T.mono ?_
  rintro x w1 ⟨v1, v2, rfl, n1, n2, b1⟩
  have N1 : Hid (NatV w1 v1 N ∧ NatV w1 v2 D ∧ Below w.heap.size w w1) := ⟨n1, n2, b1⟩
  have T := H2 w1
  clear n1 n2 b1 H2
  go_wp2_with fail
  refine T.mono ?_
  rintro x w2 ⟨v3, v4, rfl, n3, n4, b2⟩
  have N2 : Hid (NatV w2 v1 N ∧ NatV w2 v2 D ∧ NatV w2 v3 N ∧ NatV w2 v4 D ∧ Below w.heap.size w w2) := ⟨N1.out.1.below b2, N1.out.2.1.below b2, n3, n4, N1.out.2.2.trans (b2.mono N1.out.2.2.size)⟩
  have T := H3 w2 (HT.out.next N2.out.2.2.2.2)
  clear n3 n4 b2 H3 N1
  go_wp2_with fail
  refine T.mono ?_
  rintro x w3 ⟨v5, v6, rfl, n5, n6, b3⟩
  have N3 : Hid (NatV w3 v1 N ∧ NatV w3 v2 D ∧ NatV w3 v3 N ∧ NatV w3 v4 D ∧ NatV w3 v5 N' ∧ NatV w3 v6 D' ∧ Below w.heap.size w w3) := ⟨N2.out.1.below b3, N2.out.2.1.below b3, N2.out.2.2.1.below b3, N2.out.2.2.2.1.below b3, n5, n6, N2.out.2.2.2.2.trans (b3.mono N2.out.2.2.2.2.size)⟩
  have T := H4 w3
  clear n5 n6 b3 H4 N2
  go_wp2_with fail
  refine T.mono ?_
  rintro x w4 ⟨v7, v8, rfl, n7, n8, b4⟩
  have N4 : Hid (NatV w4 v1 N ∧ NatV w4 v2 D ∧ NatV w4 v3 N ∧ NatV w4 v4 D ∧ NatV w4 v5 N' ∧ NatV w4 v6 D' ∧ NatV w4 v7 N' ∧ NatV w4 v8 D' ∧ Below w.heap.size w w4) := ⟨N3.out.1.below b4, N3.out.2.1.below b4, N3.out.2.2.1.below b4, N3.out.2.2.2.1.below b4, N3.out.2.2.2.2.1.below b4, N3.out.2.2.2.2.2.1.below b4, n7, n8, N3.out.2.2.2.2.2.2.trans (b4.mono N3.out.2.2.2.2.2.2.size)⟩
  have T := same_natv N4.out.1 N4.out.2.2.1
  clear n7 n8 b4 N3
  go_wp2_with fail
  refine T.mono ?_
  rintro x w5 ⟨rfl, b5⟩
  have N5 : Hid (NatV w5 v2 D ∧ NatV w5 v4 D ∧ NatV w5 v5 N' ∧ NatV w5 v6 D' ∧ NatV w5 v7 N' ∧ NatV w5 v8 D' ∧ Below w.heap.size w w5) := ⟨N4.out.2.1.below b5, N4.out.2.2.2.1.below b5, N4.out.2.2.2.2.1.below b5, N4.out.2.2.2.2.2.1.below b5, N4.out.2.2.2.2.2.2.1.below b5, N4.out.2.2.2.2.2.2.2.1.below b5, N4.out.2.2.2.2.2.2.2.2.trans (b5.mono N4.out.2.2.2.2.2.2.2.2.size)⟩
  have T := same_natv N5.out.1 N5.out.2.1
  clear b5 N4
  go_wp2_with fail
  refine T.mono ?_
  rintro x w6 ⟨rfl, b6⟩
  have N6 : Hid (NatV w6 v5 N' ∧ NatV w6 v6 D' ∧ NatV w6 v7 N' ∧ NatV w6 v8 D' ∧ Below w.heap.size w w6) := ⟨N5.out.2.2.1.below b6, N5.out.2.2.2.1.below b6, N5.out.2.2.2.2.1.below b6, N5.out.2.2.2.2.2.1.below b6, N5.out.2.2.2.2.2.2.trans (b6.mono N5.out.2.2.2.2.2.2.size)⟩
  clear b6 N5
  go_wp2_with fail
  refine (HN _).mono ?_
  rintro x w7 ⟨rfl, rfl⟩
  have T := same_natv N6.out.1 N6.out.2.2.1
  go_wp2_with fail
  refine T.mono ?_
  rintro x w8 ⟨rfl, b8⟩
  have N8 : Hid (NatV w8 v6 D' ∧ NatV w8 v8 D' ∧ Below w.heap.size w w8) := ⟨N6.out.2.1.below b8, N6.out.2.2.2.1.below b8, N6.out.2.2.2.2.trans (b8.mono N6.out.2.2.2.2.size)⟩
  have T := same_natv N8.out.1 N8.out.2.1
  clear b8 N6
  go_wp2_with fail
  refine T.mono ?_
  rintro x w9 ⟨rfl, b9⟩
  have B9 : Hid (Below w.heap.size w w9) := N8.out.2.2.trans (b9.mono N8.out.2.2.size)
  clear b9 N8
  go_wp2_with fail
  refine (HN' _).mono ?_
  rintro x w10 ⟨rfl, rfl⟩
  go_wp2_with fail
  refine (HW _ (HT.out.next B9.out)).mono ?_
  rintro x w11 ⟨rfl, b11⟩
  have B11 : Hid (Below w.heap.size w w11) := B9.out.trans (b11.mono B9.out.size)
  clear b11 B9
  go_wp2
  go_ret
  exact ⟨rfl, B11.out⟩
end Go.Proofs.YtealnajogkeckaaDoor
