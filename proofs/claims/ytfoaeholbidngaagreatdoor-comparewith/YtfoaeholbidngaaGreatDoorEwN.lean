/-
  The document's Nearest of layer 14 for every decimal and every size: with nearest14 of EwF.
-/
import Derived.Test.YtfoaeholbidngaaGreatDoorEwF
import Derived.Test.YtfoaeholbidngaaGreatDoorEx7
namespace Go.Proofs.YtfoaeholbidngaaGreatDoor
open Go.RowKit

set_option maxRecDepth 100000 in
set_option maxHeartbeats 1000000 in
theorem nearest_no {z : Int} (h : Sn z) (s : ByteArray) (p : Int) (c : Bool) (w : World) : Calls Tryz.prog 44 #[dcV s p c, .int .i64 z] w fun e w' => e = .returned (.tuple #[.int .u64 0, .int .i64 5]) ∧ Below w.heap.size w w' := by
  have T0 := fun W => rsize_no h W
  clear h
  unfold dcV
  go_enter Tryz.func44, Tryz.ntmps44
  go_wp2_with fail
  refine (T0 _).mono ?_
  rintro e w1 ⟨rfl, h1⟩
  have B1 : Hid (Below w.heap.size w w1) := by rw [h1]; exact (Below.refl _ _).alloc (Nat.le_refl _) _
  clear h1 T0
  go_wp2
  exact bodyPost_ret (v := .tuple #[.int .u64 0, .int .i64 5]) (by simp [results, Tryz.results44, go_sem]) rfl ⟨rfl, B1.out⟩
set_option maxRecDepth 100000 in
set_option maxHeartbeats 1000000 in
theorem nearest_bad {z : Int} {g n f T : Nat} {L : Int} (hz : Fz z g n f T L) {s : ByteArray} {p : Int} {c : Bool} (hs : s.size ≤ 9223372036854775807) (h : ¬ VD s p c) (w : World) : Calls Tryz.prog 44 #[dcV s p c, .int .i64 z] w fun e w' => e = .returned (.tuple #[.int .u64 0, .int .i64 1]) ∧ Below w.heap.size w w' := by
  have T0 := fun W => rsize_z hz W
  have T1 := fun W => rvald_no hs h W
  clear h hz hs
  unfold dcV at *
  go_enter Tryz.func44, Tryz.ntmps44
  go_wp2_with fail
  refine (T0 _).mono ?_
  rintro e w1 ⟨rfl, h1⟩
  have D1 : Hid (DcB w1 w.heap.size (.string s) (.int .i64 p) (.bool c)) := by rw [h1]; exact DcB.new w _ _ _ _
  have B1 : Hid (Below w.heap.size w w1) := by rw [h1]; exact (Below.refl _ _).alloc (Nat.le_refl _) _
  clear h1 T0
  obtain ⟨_, a0, a1, a2, _, _, _⟩ := D1.out
  go_wp2_with fail
  refine (T1 _).mono ?_
  rintro e w2 ⟨rfl, h2⟩
  have B2 : Hid (Below w.heap.size w w2) := B1.out.trans (h2.mono B1.out.size)
  clear h2 T1 D1 B1 a0 a1 a2
  go_wp2
  exact bodyPost_ret (v := .tuple #[.int .u64 0, .int .i64 1]) (by simp [results, Tryz.results44, go_sem]) rfl ⟨rfl, B2.out⟩
set_option maxRecDepth 100000 in
set_option maxHeartbeats 1000000 in
theorem nearest_none {z : Int} {g n f T : Nat} {L : Int} (hz : Fz z g n f T L) (w : World) : Calls Tryz.prog 44 #[dcV ⟨#[]⟩ 0 false, .int .i64 z] w fun e w' => e = .returned (.tuple #[.int .u64 0, .int .i64 0]) ∧ Below w.heap.size w w' := by
  have T0 := fun W => rsize_z hz W
  have T1 := fun W => rvald_yes (s := ⟨#[]⟩) (p := 0) (c := false) (.inl ⟨rfl, rfl, rfl⟩) W
  clear hz
  unfold dcV at *
  go_enter Tryz.func44, Tryz.ntmps44
  go_wp2_with fail
  refine (T0 _).mono ?_
  rintro e w1 ⟨rfl, h1⟩
  have D1 : Hid (DcB w1 w.heap.size (.string ⟨#[]⟩) (.int .i64 0) (.bool false)) := by rw [h1]; exact DcB.new w _ _ _ _
  have B1 : Hid (Below w.heap.size w w1) := by rw [h1]; exact (Below.refl _ _).alloc (Nat.le_refl _) _
  clear h1 T0
  obtain ⟨_, a0, a1, a2, _, _, _⟩ := D1.out
  go_wp2_with fail
  refine (T1 _).mono ?_
  rintro e w2 ⟨rfl, h2⟩
  have D2 : Hid (DcB w2 w.heap.size (.string ⟨#[]⟩) (.int .i64 0) (.bool false)) := D1.out.step h2
  have B2 : Hid (Below w.heap.size w w2) := B1.out.trans (h2.mono B1.out.size)
  clear h2 T1 D1 B1 a0 a1 a2
  obtain ⟨_, a0, a1, a2, _, _, _⟩ := D2.out
  go_wp2
  exact bodyPost_ret (v := .tuple #[.int .u64 0, .int .i64 0]) (by simp [results, Tryz.results44, go_sem]) rfl ⟨rfl, B2.out⟩
end Go.Proofs.YtfoaeholbidngaaGreatDoor
