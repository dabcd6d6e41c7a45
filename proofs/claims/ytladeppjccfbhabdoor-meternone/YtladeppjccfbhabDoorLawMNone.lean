/-
  The statement MeterNone: for every act the call of MeterNone returns true.
-/
import Derived.Test.YtladeppjccfbhabDoorMetE
namespace Go.Proofs.YtladeppjccfbhabDoor
open Go.RowKit

theorem do_nil {k n l2 p2 e2 t2 s2 : Int} (hn : n ≤ 9223372036854775807) (hl : l2 ≤ 9223372036854775807) (hp : p2 ≤ 9223372036854775807) (he : e2 ≤ 9223372036854775807) (ht : t2 ≤ 9223372036854775807) (hs : s2 ≤ 9223372036854775807) (w : World) :
    Calls Tryd.prog 5 #[.pointer none, tV 0 0 0 0 0, aV k n l2 p2 e2 t2 s2] w fun x w' => (∃ v, x = .returned v) ∧ Below w.heap.size w w' := by
  refine (do_of (m := .pointer none) (b := w.heap.size + 3) TI.zero hn hl hp he ht hs w (by omega) (by omega) (by omega) (fun W _ _ _ _ _ => Below w.heap.size w W) (Below.refl _ _) (fun W W' _ _ _ _ _ a b => a.trans b)
    (fun W h => (take_none n W).mono ?_) (fun W h => (give_none n W).mono ?_) (fun j W h => (Road_none j W).mono ?_) (fun W h => (add_none l2 p2 e2 t2 s2 W).mono ?_) (fun W h => (reset_none W).mono ?_)).mono ?_
  · rintro x w' ⟨rfl, rfl⟩
    exact ⟨rfl, But.refl _ _, h⟩
  · rintro x w' ⟨rfl, rfl⟩
    exact ⟨rfl, But.refl _ _, h⟩
  · rintro x w' ⟨rfl, rfl⟩
    exact ⟨rfl, But.refl _ _, h⟩
  · rintro x w' ⟨rfl, b⟩
    exact ⟨rfl, But.of b, h.trans (b.mono h.size)⟩
  · rintro x w' ⟨rfl, b⟩
    exact ⟨⟨_, rfl⟩, But.of b, h.trans (b.mono h.size)⟩
  · rintro x w' ⟨l', p', e', t', s', rfl, _, _, z⟩
    exact ⟨⟨_, rfl⟩, z⟩

theorem AC.step {W W' : World} {q : Nat} {k n l p e t s : Int} (h : AC W q k n l p e t s) (hb : Below W.heap.size W W') : AC W' q k n l p e t s :=
  h.but (b := q + 1) (But.of hb) (by omega)

set_option maxRecDepth 100000 in
set_option maxHeartbeats 1000000 in
theorem law_mnone {k n l p e t s : Int} (hn : n ≤ 9223372036854775807) (hl : l ≤ 9223372036854775807) (hp : p ≤ 9223372036854775807) (he : e ≤ 9223372036854775807) (ht : t ≤ 9223372036854775807) (hs : s ≤ 9223372036854775807) (w : World) :
    Calls Tryd.prog 3 #[aV k n l p e t s] w fun x w' => x = .returned (.bool true) ∧ Below w.heap.size w w' := by
  have F1 := fun W => do_nil (k := k) hn hl hp he ht hs W
  clear hn hl hp he ht hs
  have A0 : Hid (AC (w.alloc (.cells #[.int .i64 k, .int .i64 n, .int .i64 l, .int .i64 p, .int .i64 e, .int .i64 t, .int .i64 s] 25)) w.heap.size k n l p e t s) := AC.new w k n l p e t s 25
  have B0 : Hid (Below w.heap.size w (w.alloc (.cells #[.int .i64 k, .int .i64 n, .int .i64 l, .int .i64 p, .int .i64 e, .int .i64 t, .int .i64 s] 25))) := (Below.refl _ _).alloc (Nat.le_refl _) _
  unfold aV tV at *
  go_enter Tryd.func3, Tryd.ntmps3
  go_wp2_with fail
  refine (F1 _).mono ?_
  rintro x w1 ⟨⟨_, rfl⟩, b⟩
  have A1 : Hid (AC w1 w.heap.size k n l p e t s) := A0.out.step b
  have B1 : Hid (Below w.heap.size w w1) := B0.out.trans (b.mono B0.out.size)
  clear b
  go_wp2_with fail
  refine (tally_none _).mono ?_
  unfold tV
  rintro x w2 ⟨rfl, b⟩
  have A2 : Hid (AC w2 w.heap.size k n l p e t s) := A1.out.step b
  have B2 : Hid (Below w.heap.size w w2) := B1.out.trans (b.mono B1.out.size)
  clear b
  go_wp2_with fail
  refine (reset_none _).mono ?_
  unfold tV
  rintro x w3 ⟨rfl, b⟩
  have A3 : Hid (AC w3 w.heap.size k n l p e t s) := A2.out.step b
  have B3 : Hid (Below w.heap.size w w3) := B2.out.trans (b.mono B2.out.size)
  clear b
  go_wp2_with fail
  refine (live_none _).mono ?_
  rintro x w4 ⟨rfl, b⟩
  have A4 : Hid (AC w4 w.heap.size k n l p e t s) := A3.out.step b
  have B4 : Hid (Below w.heap.size w w4) := B3.out.trans (b.mono B3.out.size)
  clear b
  go_wp2_with fail
  refine (peak_none _).mono ?_
  rintro x w5 ⟨rfl, b⟩
  have A5 : Hid (AC w5 w.heap.size k n l p e t s) := A4.out.step b
  have B5 : Hid (Below w.heap.size w w5) := B4.out.trans (b.mono B4.out.size)
  clear b
  obtain ⟨_, x0, x1, x2, x3, x4, x5, x6⟩ := A5.out
  go_wp2_with fail
  refine (count_none n _).mono ?_
  rintro x w6 ⟨rfl, rfl⟩
  go_wp2_with fail
  refine (text_lit (m := .pointer none) (l := 0) (p := 0) (e := 0) (t := 0) (s := 0) (by decide) (by decide) (by decide) (by decide) (by decide) _ (tally_none _)).mono ?_
  rintro x w7 ⟨rfl, b⟩
  have B7 : Hid (Below w.heap.size w w7) := B5.out.trans (b.mono B5.out.size)
  clear b x0 x1 x2 x3 x4 x5 x6
  rw [txt_noughts]
  go_wp2_with fail
  refine (works_any _).mono ?_
  rintro x w8 ⟨rfl, b⟩
  have B8 : Hid (Below w.heap.size w w8) := B7.out.trans (b.mono B7.out.size)
  clear b
  go_wp2
  go_ret
  exact ⟨rfl, B8.out⟩

end Go.Proofs.YtladeppjccfbhabDoor
