/-
  The statement DecCompares: for all numbers a, b the call of DecCompares returns true, where errors.errorType holds the type 'error'.
-/
import Derived.Test.YtkkgancmodhghabDoorDecE
namespace Go.Proofs.YtkkgancmodhghabDoor
open Go.RowKit

/-- Both answer the same number, and an error of the same number. -/
theorem cmp_both {s : ByteArray} {p : Int} {c : Bool} {t : ByteArray} {q : Int} {d : Bool} (hs : s.size ≤ 9223372036854775807) (ht : t.size ≤ 9223372036854775807) : ∃ (n k : Int) (E : Value),
    (∀ W, Calls Tryd.prog 7 #[dcV s p c, dcV t q d] W fun e w' => e = .returned (.tuple #[.int .i64 n, E]) ∧ Below W.heap.size W w') ∧
    (∀ W, Calls Tryd.prog 8 #[dcV s p c, dcV t q d] W fun e w' => e = .returned (.tuple #[.int .i64 n, .int .i64 k]) ∧ Below W.heap.size W w') ∧
    (∀ W, ErrT W → Calls Tryd.prog 9 #[E] W fun e w' => e = .returned (.int .i64 k) ∧ Below W.heap.size W w') := by
  by_cases h1 : VD s p c
  · by_cases h2 : VD t q d
    · obtain ⟨n, a, b⟩ := cmp_same h1 h2
      exact ⟨n, 0, .nilIface, a, b, fun W _ => num_nil W⟩
    · exact ⟨0, 1, _, fun W => dcmp_bad2 ht h1 h2 W, fun W => rcmp_bad2 ht h1 h2 W, fun W h => num_errno 1 W h⟩
  · exact ⟨0, 1, _, fun W => dcmp_bad1 hs h1 W, fun W => rcmp_bad1 hs h1 W, fun W h => num_errno 1 W h⟩

set_option maxHeartbeats 4000000 in
set_option maxRecDepth 100000 in
theorem law_dcompares (s : ByteArray) (p : Int) (c : Bool) (t : ByteArray) (q : Int) (d : Bool) (hs : s.size ≤ 9223372036854775807) (ht : t.size ≤ 9223372036854775807) (w : World) (hE : ErrT w) :
    Calls Tryd.prog 3 #[dcV s p c, dcV t q d] w fun e w' => e = .returned (.bool true) ∧ Below w.heap.size w w' := by
  obtain ⟨n, k, E, F1, F2, F3⟩ := cmp_both (s := s) (p := p) (c := c) (t := t) (q := q) (d := d) hs ht
  have F4 := fun W => sure_any W
  unfold dcV at *
  go_enter Tryd.func3, Tryd.ntmps3
  go_wp2_with fail
  refine (F1 _).mono ?_
  rintro e w1 ⟨rfl, hb1⟩
  have HT1 : Hid (Two w w1 s p c t q d) := (Two.start w s p c t q d).step hb1
  clear hb1
  obtain ⟨_, _, a0, a1, a2, b0, b1, b2⟩ := HT1.out
  go_wp2_with fail
  refine (F2 _).mono ?_
  rintro e w2 ⟨rfl, hb2⟩
  have HT2 : Hid (Two w w2 s p c t q d) := HT1.out.step hb2
  clear hb2 a0 a1 a2 b0 b1 b2
  go_wp2_with fail
  refine (F3 _ (ErrT.below hE HT2.out.bel (ErrT.pos hE))).mono ?_
  rintro e w3 ⟨rfl, hb3⟩
  have HT3 : Hid (Two w w3 s p c t q d) := HT2.out.step hb3
  clear hb3
  go_wp2_with fail
  refine (F4 _).mono ?_
  rintro e w4 ⟨rfl, hb4⟩
  have HT4 : Hid (Two w w4 s p c t q d) := HT3.out.step hb4
  clear hb4
  go_wp2
  go_ret
  exact ⟨rfl, HT4.out.bel⟩

end Go.Proofs.YtkkgancmodhghabDoor
