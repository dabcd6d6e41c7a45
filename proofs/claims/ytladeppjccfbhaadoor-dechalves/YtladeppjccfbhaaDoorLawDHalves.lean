/-
  The statement DecHalves: for every number d the call of DecHalves returns true, where errors.errorType holds the type 'error'.
-/
import Derived.Test.YtladeppjccfbhaaDoorDecB
import Derived.Test.YtladeppjccfbhaaDoorDecUb
namespace Go.Proofs.YtladeppjccfbhaaDoor
open Go.RowKit

/-- A number in a box. -/
structure BoxAt (W : World) (b : Nat) (s : ByteArray) (p : Int) (c : Bool) : Prop where
  lt : b < W.heap.size
  c0 : W.cell? ⟨b, 0, none⟩ = some (.string s)
  c1 : W.cell? ⟨b, 1, none⟩ = some (.int .i64 p)
  c2 : W.cell? ⟨b, 2, none⟩ = some (.bool c)
theorem BoxAt.al {W : World} {b : Nat} {s : ByteArray} {p : Int} {c : Bool} (h : BoxAt W b s p c) (ob : Obj) : BoxAt (W.alloc ob) b s p c := by
  have k : ∀ o, (W.alloc ob).cell? ⟨b, o, none⟩ = W.cell? ⟨b, o, none⟩ := fun o => World.cell?_alloc_lt W ob ⟨b, o, none⟩ h.lt
  exact ⟨by have := h.lt; simp; omega, (k 0).trans h.c0, (k 1).trans h.c1, (k 2).trans h.c2⟩
theorem BoxAt.step {W W' : World} {b : Nat} {s : ByteArray} {p : Int} {c : Bool} (h : BoxAt W b s p c) (hb : Below W.heap.size W W') : BoxAt W' b s p c := by
  have k : ∀ o, W'.cell? ⟨b, o, none⟩ = W.cell? ⟨b, o, none⟩ := fun o => hb.cell (p := ⟨b, o, none⟩) h.lt
  exact ⟨by have := h.lt; have := hb.size; omega, (k 0).trans h.c0, (k 1).trans h.c1, (k 2).trans h.c2⟩
theorem BoxAt.new (w : World) (s : ByteArray) (p : Int) (c : Bool) : BoxAt (w.alloc (.cells #[.string s, .int .i64 p, .bool c] 23)) w.heap.size s p c :=
  ⟨by simp, by simp, by simp, by simp⟩

theorem uint_both {s : ByteArray} {p : Int} {c : Bool} (hs : s.size ≤ 9223372036854775807) : ∃ (v : Int) (b : Bool) (kk : Int) (E : Value),
    (∀ W, Calls Tryd.prog 22 #[dcV s p c] W fun e w' => e = .returned (.tuple #[.int .u64 v, .bool b, E]) ∧ Below W.heap.size W w') ∧
    (∀ W, Calls Tryd.prog 23 #[dcV s p c] W fun e w' => e = .returned (.tuple #[.int .u64 v, .bool b, .int .i64 kk]) ∧ Below W.heap.size W w') ∧
    (∀ W, ErrT W → Calls Tryd.prog 10 #[E] W fun e w' => e = .returned (.int .i64 kk) ∧ Below W.heap.size W w') := by
  by_cases h : VD s p c
  · by_cases hc : c = true → p ≤ (s.size : Int)
    · by_cases hp : p ≤ 20
      · by_cases hv : pv s p.toNat < 18446744073709551616
        · exact ⟨_, _, 0, _, fun W => duint_ok h hc hp rfl hv W, fun W => ruint_ok h hc hp rfl hv W, fun W _ => num_nil W⟩
        · exact ⟨_, _, 4, _, fun W => duint_over h hc hp rfl (by omega) W, fun W => ruint_over h hc hp rfl (by omega) W, fun W h => num_errno 4 W h⟩
      · exact ⟨_, _, 4, _, fun W => duint_far h hc (by omega) W, fun W => ruint_far h hc (by omega) W, fun W h => num_errno 4 W h⟩
    · cases c with
      | true => exact ⟨_, _, 1, _, fun W => duint_cut h (by omega) W, fun W => ruint_cut h (by omega) W, fun W h => num_errno 1 W h⟩
      | false => exact absurd (fun q => by cases q) hc
  · exact ⟨_, _, 1, _, fun W => duint_bad hs h W, fun W => ruint_bad hs h W, fun W h => num_errno 1 W h⟩

set_option maxHeartbeats 4000000 in
set_option maxRecDepth 100000 in
theorem law_dhalves (s : ByteArray) (p : Int) (c : Bool) (hs : s.size ≤ 9223372036854775807) (w : World) (hE : ErrT w) :
    Calls Tryd.prog 5 #[dcV s p c] w fun e w' => e = .returned (.bool true) ∧ Below w.heap.size w w' := by
  obtain ⟨sa, pa, ca, ka, Ea, F1, F2, G1⟩ := halve_both (s := s) (p := p) (c := c) hs
  obtain ⟨sb, pb, cb, kb, Eb, F3, F4, G2⟩ := double_both (s := s) (p := p) (c := c) hs
  obtain ⟨vu, bu, kc, Ec, F5, F6, G3⟩ := uint_both (s := s) (p := p) (c := c) hs
  have FS := fun W => sure_any W
  unfold dcV at *
  have X0 : Hid (BoxAt (w.alloc (.cells #[.string s, .int .i64 p, .bool c] 23)) w.heap.size s p c) := BoxAt.new w s p c
  have B0 : Hid (Below w.heap.size w (w.alloc (.cells #[.string s, .int .i64 p, .bool c] 23))) := (Below.refl _ _).alloc (Nat.le_refl _) _
  go_enter Tryd.func5, Tryd.ntmps5
  go_wp2_with fail
  refine (F1 _).mono ?_
  rintro e w1 ⟨rfl, hb1⟩
  have B1 : Hid (Below w.heap.size w (w1.alloc (.cells #[.string sa, .int .i64 pa, .bool ca] 23))) := (B0.out.trans (hb1.mono B0.out.size)).alloc (Nat.le_trans B0.out.size hb1.size) _
  replace X0 : Hid (BoxAt (w1.alloc (.cells #[.string sa, .int .i64 pa, .bool ca] 23)) w.heap.size s p c) := ((X0.out.step hb1).al (.cells #[.string sa, .int .i64 pa, .bool ca] 23))
  have X1 : Hid (BoxAt (w1.alloc (.cells #[.string sa, .int .i64 pa, .bool ca] 23)) w1.heap.size sa pa ca) := BoxAt.new w1 sa pa ca
  clear hb1
  obtain ⟨_, x00, x01, x02⟩ := X0.out
  go_wp2_with fail
  refine (F2 _).mono ?_
  rintro e w2 ⟨rfl, hb2⟩
  have B2 : Hid (Below w.heap.size w (w2.alloc (.cells #[.string sa, .int .i64 pa, .bool ca] 23))) := (B1.out.trans (hb2.mono B1.out.size)).alloc (Nat.le_trans B1.out.size hb2.size) _
  replace X0 : Hid (BoxAt (w2.alloc (.cells #[.string sa, .int .i64 pa, .bool ca] 23)) w.heap.size s p c) := ((X0.out.step hb2).al (.cells #[.string sa, .int .i64 pa, .bool ca] 23))
  replace X1 : Hid (BoxAt (w2.alloc (.cells #[.string sa, .int .i64 pa, .bool ca] 23)) w1.heap.size sa pa ca) := ((X1.out.step hb2).al (.cells #[.string sa, .int .i64 pa, .bool ca] 23))
  have X2 : Hid (BoxAt (w2.alloc (.cells #[.string sa, .int .i64 pa, .bool ca] 23)) w2.heap.size sa pa ca) := BoxAt.new w2 sa pa ca
  clear hb2
  obtain ⟨_, x00, x01, x02⟩ := X0.out
  go_wp2_with fail
  refine (F3 _).mono ?_
  rintro e w3 ⟨rfl, hb3⟩
  have B3 : Hid (Below w.heap.size w (w3.alloc (.cells #[.string sb, .int .i64 pb, .bool cb] 23))) := (B2.out.trans (hb3.mono B2.out.size)).alloc (Nat.le_trans B2.out.size hb3.size) _
  replace X0 : Hid (BoxAt (w3.alloc (.cells #[.string sb, .int .i64 pb, .bool cb] 23)) w.heap.size s p c) := ((X0.out.step hb3).al (.cells #[.string sb, .int .i64 pb, .bool cb] 23))
  replace X1 : Hid (BoxAt (w3.alloc (.cells #[.string sb, .int .i64 pb, .bool cb] 23)) w1.heap.size sa pa ca) := ((X1.out.step hb3).al (.cells #[.string sb, .int .i64 pb, .bool cb] 23))
  replace X2 : Hid (BoxAt (w3.alloc (.cells #[.string sb, .int .i64 pb, .bool cb] 23)) w2.heap.size sa pa ca) := ((X2.out.step hb3).al (.cells #[.string sb, .int .i64 pb, .bool cb] 23))
  have X3 : Hid (BoxAt (w3.alloc (.cells #[.string sb, .int .i64 pb, .bool cb] 23)) w3.heap.size sb pb cb) := BoxAt.new w3 sb pb cb
  clear hb3
  obtain ⟨_, x00, x01, x02⟩ := X0.out
  go_wp2_with fail
  refine (F4 _).mono ?_
  rintro e w4 ⟨rfl, hb4⟩
  have B4 : Hid (Below w.heap.size w (w4.alloc (.cells #[.string sb, .int .i64 pb, .bool cb] 23))) := (B3.out.trans (hb4.mono B3.out.size)).alloc (Nat.le_trans B3.out.size hb4.size) _
  replace X0 : Hid (BoxAt (w4.alloc (.cells #[.string sb, .int .i64 pb, .bool cb] 23)) w.heap.size s p c) := ((X0.out.step hb4).al (.cells #[.string sb, .int .i64 pb, .bool cb] 23))
  replace X1 : Hid (BoxAt (w4.alloc (.cells #[.string sb, .int .i64 pb, .bool cb] 23)) w1.heap.size sa pa ca) := ((X1.out.step hb4).al (.cells #[.string sb, .int .i64 pb, .bool cb] 23))
  replace X2 : Hid (BoxAt (w4.alloc (.cells #[.string sb, .int .i64 pb, .bool cb] 23)) w2.heap.size sa pa ca) := ((X2.out.step hb4).al (.cells #[.string sb, .int .i64 pb, .bool cb] 23))
  replace X3 : Hid (BoxAt (w4.alloc (.cells #[.string sb, .int .i64 pb, .bool cb] 23)) w3.heap.size sb pb cb) := ((X3.out.step hb4).al (.cells #[.string sb, .int .i64 pb, .bool cb] 23))
  have X4 : Hid (BoxAt (w4.alloc (.cells #[.string sb, .int .i64 pb, .bool cb] 23)) w4.heap.size sb pb cb) := BoxAt.new w4 sb pb cb
  clear hb4
  obtain ⟨_, x00, x01, x02⟩ := X0.out
  go_wp2_with fail
  refine (F5 _).mono ?_
  rintro e w5 ⟨rfl, hb5⟩
  have B5 : Hid (Below w.heap.size w w5) := B4.out.trans (hb5.mono B4.out.size)
  replace X0 : Hid (BoxAt w5 w.heap.size s p c) := ((X0.out.step hb5))
  replace X1 : Hid (BoxAt w5 w1.heap.size sa pa ca) := ((X1.out.step hb5))
  replace X2 : Hid (BoxAt w5 w2.heap.size sa pa ca) := ((X2.out.step hb5))
  replace X3 : Hid (BoxAt w5 w3.heap.size sb pb cb) := ((X3.out.step hb5))
  replace X4 : Hid (BoxAt w5 w4.heap.size sb pb cb) := ((X4.out.step hb5))
  clear hb5
  obtain ⟨_, x00, x01, x02⟩ := X0.out
  go_wp2_with fail
  refine (F6 _).mono ?_
  rintro e w6 ⟨rfl, hb6⟩
  have B6 : Hid (Below w.heap.size w w6) := B5.out.trans (hb6.mono B5.out.size)
  replace X0 : Hid (BoxAt w6 w.heap.size s p c) := ((X0.out.step hb6))
  replace X1 : Hid (BoxAt w6 w1.heap.size sa pa ca) := ((X1.out.step hb6))
  replace X2 : Hid (BoxAt w6 w2.heap.size sa pa ca) := ((X2.out.step hb6))
  replace X3 : Hid (BoxAt w6 w3.heap.size sb pb cb) := ((X3.out.step hb6))
  replace X4 : Hid (BoxAt w6 w4.heap.size sb pb cb) := ((X4.out.step hb6))
  clear hb6
  obtain ⟨_, x10, x11, x12⟩ := X1.out
  obtain ⟨_, x20, x21, x22⟩ := X2.out
  obtain ⟨_, x30, x31, x32⟩ := X3.out
  obtain ⟨_, x40, x41, x42⟩ := X4.out
  go_wp2_with fail
  refine (G1 _ (ErrT.below hE B6.out (ErrT.pos hE))).mono ?_
  rintro e w7 ⟨rfl, hb7⟩
  clear x10 x11 x12 x20 x21 x22 x30 x31 x32 x40 x41 x42
  have B7 : Hid (Below w.heap.size w w7) := B6.out.trans (hb7.mono B6.out.size)
  replace X1 : Hid (BoxAt w7 w1.heap.size sa pa ca) := X1.out.step hb7
  replace X2 : Hid (BoxAt w7 w2.heap.size sa pa ca) := X2.out.step hb7
  replace X3 : Hid (BoxAt w7 w3.heap.size sb pb cb) := X3.out.step hb7
  replace X4 : Hid (BoxAt w7 w4.heap.size sb pb cb) := X4.out.step hb7
  obtain ⟨_, x10, x11, x12⟩ := X1.out
  obtain ⟨_, x20, x21, x22⟩ := X2.out
  obtain ⟨_, x30, x31, x32⟩ := X3.out
  obtain ⟨_, x40, x41, x42⟩ := X4.out
  clear hb7
  go_wp2_with fail
  refine (G2 _ (ErrT.below hE B7.out (ErrT.pos hE))).mono ?_
  rintro e w8 ⟨rfl, hb8⟩
  clear x10 x11 x12 x20 x21 x22 x30 x31 x32 x40 x41 x42
  have B8 : Hid (Below w.heap.size w w8) := B7.out.trans (hb8.mono B7.out.size)
  replace X1 : Hid (BoxAt w8 w1.heap.size sa pa ca) := X1.out.step hb8
  replace X2 : Hid (BoxAt w8 w2.heap.size sa pa ca) := X2.out.step hb8
  replace X3 : Hid (BoxAt w8 w3.heap.size sb pb cb) := X3.out.step hb8
  replace X4 : Hid (BoxAt w8 w4.heap.size sb pb cb) := X4.out.step hb8
  obtain ⟨_, x10, x11, x12⟩ := X1.out
  obtain ⟨_, x20, x21, x22⟩ := X2.out
  obtain ⟨_, x30, x31, x32⟩ := X3.out
  obtain ⟨_, x40, x41, x42⟩ := X4.out
  clear hb8
  go_wp2_with fail
  refine (G3 _ (ErrT.below hE B8.out (ErrT.pos hE))).mono ?_
  rintro e w9 ⟨rfl, hb9⟩
  clear x10 x11 x12 x20 x21 x22 x30 x31 x32 x40 x41 x42
  have B9 : Hid (Below w.heap.size w w9) := B8.out.trans (hb9.mono B8.out.size)
  replace X1 : Hid (BoxAt w9 w1.heap.size sa pa ca) := X1.out.step hb9
  replace X2 : Hid (BoxAt w9 w2.heap.size sa pa ca) := X2.out.step hb9
  replace X3 : Hid (BoxAt w9 w3.heap.size sb pb cb) := X3.out.step hb9
  replace X4 : Hid (BoxAt w9 w4.heap.size sb pb cb) := X4.out.step hb9
  obtain ⟨_, x10, x11, x12⟩ := X1.out
  obtain ⟨_, x20, x21, x22⟩ := X2.out
  obtain ⟨_, x30, x31, x32⟩ := X3.out
  obtain ⟨_, x40, x41, x42⟩ := X4.out
  clear hb9
  go_wp2_with fail
  refine (FS _ ).mono ?_
  rintro e w10 ⟨rfl, hb10⟩
  clear x10 x11 x12 x20 x21 x22 x30 x31 x32 x40 x41 x42
  have B10 : Hid (Below w.heap.size w w10) := B9.out.trans (hb10.mono B9.out.size)
  clear hb10
  go_wp2
  go_ret
  exact ⟨rfl, B10.out⟩

end Go.Proofs.YtladeppjccfbhaaDoor
