/-
  The document's Nearest of layer 14, for every number.
-/
import Derived.Test.YtfoaeholbidngaaGreatDoorEwE
import Derived.Test.YtfoaeholbidngaaGreatDoorEx4
namespace Go.Proofs.YtfoaeholbidngaaGreatDoor
open Go.RowKit

set_option maxRecDepth 100000 in
set_option maxHeartbeats 1000000 in
theorem nearest14 {z : Int} {g n f T : Nat} {L : Int} (hz : Fz z g n f T L) {s : ByteArray} {p : Int} {c : Bool} (h : VN s p c) (w : World) : Calls Tryz.prog 44 #[dcV s p c, .int .i64 z] w fun e w' => e = .returned (.tuple #[.int .u64 (((rdA f T L (frN s (nrP p)) (frD s (nrP p)) 0 c).1 : Nat) : Int), .int .i64 (if (rdA f T L (frN s (nrP p)) (frD s (nrP p)) 0 c).2 then 4 else 0)]) ∧ Below w.heap.size w w' := by
  have T0 := fun W => rsize_z hz W
  have T1 := fun W => rvald_yes (.inr h) W
  have T2 := fun W => near14 h.pos p c W
  have hl : s.size ≤ 801 := Nat.le_trans h.len (by decide)
  have T3 := fun W => frac14 hl h.dg c (nrP_in p).1 (nrP_in p).2 W
  have T4 : ∀ {W : World} {v1 v2 : Value}, Big.NatV W v1 (frN s (nrP p)) → Big.NatV W v2 (frD s (nrP p)) → _ := fun {W v1 v2} a b => rfrac_ok hz (e := 0) c a b (frN_fits hl h.dg (nrP_in p).2) (frD_fits hl (nrP_in p).1) (Nat.ne_of_gt (Nat.mul_pos h.val (Nat.pow_pos (by decide)))) (ten_ne _) (by decide) (by decide)
  have hE := empty_false h.pos
  generalize hA : rdA f T L (frN s (nrP p)) (frD s (nrP p)) 0 c = A at *
  generalize frN s (nrP p) = X at *
  generalize frD s (nrP p) = Y at *
  generalize nrP p = p' at *
  obtain ⟨b, over⟩ := A
  clear h hz hl hA
  unfold dcV at *
  go_enter Tryz.func44, Tryz.ntmps44
  go_wp2_with fail
  refine (T0 _).mono ?_
  rintro e w1 ⟨rfl, h1⟩
  have D1 : Hid (DcB w1 w.heap.size (.string s) (.int .i64 p) (.bool c)) := by rw [h1]; exact DcB.new w _ _ _ _
  have B1 : Hid (Below w.heap.size w w1) := by rw [h1]; exact (Below.refl _ _).alloc (Nat.le_refl _) _
  clear h1 T0
  obtain ⟨_, a0, a1, a2, _, _, _⟩ := D1.out
  go_wp2_with fail
  refine (T1 _).mono ?_
  rintro e w2 ⟨rfl, h2⟩
  have D2 : Hid (DcB w2 w.heap.size (.string s) (.int .i64 p) (.bool c)) := D1.out.step h2
  have B2 : Hid (Below w.heap.size w w2) := B1.out.trans (h2.mono B1.out.size)
  clear h2 T1 D1 B1 a0 a1 a2
  obtain ⟨_, a0, a1, a2, _, _, _⟩ := D2.out
  go_wp2_with fail
  refine (T2 _).mono ?_
  rintro e w3 ⟨rfl, h3⟩
  have D3 : Hid (DcB w3 w.heap.size (.string s) (.int .i64 p) (.bool c)) := D2.out.step h3
  have B3 : Hid (Below w.heap.size w w3) := B2.out.trans (h3.mono B2.out.size)
  clear h3 T2 D2 B2 a0 a1 a2
  go_wp2_with fail
  refine (T3 _).mono ?_
  rintro e w4 ⟨v1, v2, rfl, n1, n2, h4⟩
  have D4 : Hid (DcB w4 w.heap.size (.string s) (.int .i64 p) (.bool c)) := D3.out.step h4
  have B4 : Hid (Below w.heap.size w w4) := B3.out.trans (h4.mono B3.out.size)
  have T5 := T4 n1 n2
  clear h4 T3 D3 B3 n1 n2 T4
  obtain ⟨_, a0, a1, a2, _, _, _⟩ := D4.out
  go_wp2_with fail
  refine T5.mono ?_
  rintro e w5 ⟨rfl, h5⟩
  have B5 : Hid (Below w.heap.size w w5) := B4.out.trans (h5.mono B4.out.size)
  clear h5 T5 D4 B4 a0 a1 a2
  cases over with
  | true =>
    go_wp2
    exact bodyPost_ret (v := .tuple #[.int .u64 (b : Int), .int .i64 4]) (by simp [results, Tryz.results44, go_sem]) rfl ⟨rfl, B5.out⟩
  | false =>
    go_wp2
    exact bodyPost_ret (v := .tuple #[.int .u64 (b : Int), .int .i64 0]) (by simp [results, Tryz.results44, go_sem]) rfl ⟨rfl, B5.out⟩
end Go.Proofs.YtfoaeholbidngaaGreatDoor
