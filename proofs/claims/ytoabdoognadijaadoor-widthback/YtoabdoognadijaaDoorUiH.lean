/-
  num and told over a fault round a number; uints' Len and Prefix: what they answer for every input.
-/
import Derived.Test.YtoabdoognadijaaDoorUiF
import Derived.Test.YtoabdoognadijaaDoorUiL
namespace Go.Proofs.YtoabdoognadijaaDoor
open Go.RowKit Go.Extern.Stop Go.Stop Go.Extern

theorem num_nil (w : World) : Calls Tryd.prog 30 #[.nilIface] w fun e w' => e = .returned (.int .i64 0) ∧ Below w.heap.size w w' := by
  go_enter Tryd.func30, Tryd.ntmps30
  go_wp2
  go_ret
  exact ⟨rfl, by first | exact (Below.refl _ _).alloc (Nat.le_refl _) _ | exact Below.refl _ _⟩
set_option maxRecDepth 100000 in
set_option maxHeartbeats 1000000 in
theorem num_ch {ls : List Lk} {n : Int} {v : Value} {w : World} (h : Ch w ls n v) (hg : ErrT w) : Calls Tryd.prog 30 #[v] w fun e w' => e = .returned (.int .i64 n) ∧ Below w.heap.size w w' := by
  have B0 : Below w.heap.size w (w.alloc (.cells #[.int .i64 0] 64)) := (Below.refl _ _).alloc (Nat.le_refl _) _
  have A1 := AsN_ch (w := w.alloc (.cells #[.int .i64 0] 64)) h B0 (t := ⟨w.heap.size, 0, none⟩) (old := .int .i64 0) (hg.below B0 hg.pos) (by simp) (World.frozen?_alloc_new _ _ _ _)
  obtain ⟨T, y, rfl⟩ := h.iface
  have HB : Hid (Below w.heap.size w (w.alloc (.cells #[.int .i64 0] 64))) := B0
  clear hg h B0
  go_enter Tryd.func30, Tryd.ntmps30
  go_wp2_with fail
  refine A1.mono ?_
  rintro e w1 ⟨rfl, hc, hb⟩
  have HD : Hid (Below w.heap.size w w1) := HB.out.trans hb
  clear hb
  go_wp2
  go_ret
  exact ⟨rfl, HD.out⟩

set_option maxRecDepth 100000 in
set_option maxHeartbeats 1000000 in
theorem told_nil (c t : ByteArray) (w : World) : Calls Tryd.prog 14 #[.nilIface, .int .i64 0, .string c, .string t] w fun e w' => e = .returned (.bool true) ∧ Below w.heap.size w w' := by
  have N1 := fun W => num_nil W
  have C1 := fun W => call_nil W
  have T1 := fun W => text_nil W
  go_enter Tryd.func14, Tryd.ntmps14
  go_wp2_with fail
  refine (N1 _).mono ?_
  rintro e w1 ⟨rfl, b1⟩
  have B1 : Hid (Below w.heap.size w w1) := b1
  clear b1
  go_wp2_with fail
  refine (C1 _).mono ?_
  rintro e w2 ⟨rfl, b2⟩
  have B2 : Hid (Below w.heap.size w w2) := B1.out.trans (b2.mono B1.out.size)
  clear b2
  go_wp2_with fail
  refine (T1 _).mono ?_
  rintro e w3 ⟨rfl, b3⟩
  have B3 : Hid (Below w.heap.size w w3) := B2.out.trans (b3.mono B2.out.size)
  clear b3
  go_wp2
  go_ret
  exact ⟨rfl, B3.out⟩
set_option maxRecDepth 100000 in
set_option maxHeartbeats 1000000 in
theorem told_wr {c t : ByteArray} (hc : c.size ≤ 281474976710656) (ht : t.size ≤ 281474976710656) {n : Int} (hn : n ≠ 0) {v : Value} {w : World} (h : Wr w c t n v) (hg : ErrT w) :
    Calls Tryd.prog 14 #[v, .int .i64 n, .string c, .string t] w fun e w' => e = .returned (.bool true) ∧ Below w.heap.size w w' := by
  have h' : Ch w [(c, t)] n v := h
  have N1 := num_ch h' hg
  have C1 := fun W (h : Ch W [(c, t)] n v) (hg : ErrT W) => call_ch h hg (fun a b e => by cases e; exact hc)
  have T1 := fun W (h : Ch W [(c, t)] n v) (hg : ErrT W) => text_ch h hg (fun a b e => by cases e; exact ht)
  change ∀ W, Ch W [(c, t)] n v → ErrT W → Calls _ _ _ _ (fun e w' => e = .returned (.tuple #[.string c, .bool true]) ∧ _) at C1
  change ∀ W, Ch W [(c, t)] n v → ErrT W → Calls _ _ _ _ (fun e w' => e = .returned (.tuple #[.string t, .bool true]) ∧ _) at T1
  have H0 : Hid (Ch w [(c, t)] n v ∧ ErrT w) := ⟨h', hg⟩
  obtain ⟨T, y, rfl⟩ := h'.iface
  have hn' : (n == 0) = false := beq_eq_false_iff_ne.mpr hn
  clear h h' hg hc ht hn
  go_enter Tryd.func14, Tryd.ntmps14
  go_wp2_with fail
  refine N1.mono ?_
  rintro e w1 ⟨rfl, b1⟩
  have B1 : Hid (Below w.heap.size w w1) := b1
  have H1 : Hid (Ch w1 [(c, t)] n (.iface T y) ∧ ErrT w1) := ⟨H0.out.1.below b1 (Nat.le_refl _), H0.out.2.below b1 H0.out.2.pos⟩
  clear b1
  go_wp2_with fail
  refine (C1 _ H1.out.1 H1.out.2).mono ?_
  rintro e w2 ⟨rfl, b2⟩
  have B2 : Hid (Below w.heap.size w w2) := B1.out.trans (b2.mono B1.out.size)
  have H2 : Hid (Ch w2 [(c, t)] n (.iface T y) ∧ ErrT w2) := ⟨H1.out.1.below b2 (Nat.le_refl _), H1.out.2.below b2 H1.out.2.pos⟩
  clear b2
  go_wp2_with fail
  refine (T1 _ H2.out.1 H2.out.2).mono ?_
  rintro e w3 ⟨rfl, b3⟩
  have B3 : Hid (Below w.heap.size w w3) := B2.out.trans (b3.mono B2.out.size)
  clear b3
  go_wp2
  go_ret
  exact ⟨rfl, B3.out⟩
theorem told_any {c t : ByteArray} (hc : c.size ≤ 281474976710656) (ht : t.size ≤ 281474976710656) {n : Int} {v : Value} {w : World} (h : ErV w n c t v) (hg : ErrT w) :
    Calls Tryd.prog 14 #[v, .int .i64 n, .string c, .string t] w fun e w' => e = .returned (.bool true) ∧ Below w.heap.size w w' := by
  rcases h with ⟨rfl, rfl⟩ | ⟨h1, h2⟩
  · exact told_nil c t w
  · exact told_wr hc ht h1 h2 hg

/-! Len. -/
/-! Prefix. -/
theorem ls_slice (s : ByteArray) {a e : Nat} (_h : a ≤ e) : (s.extract a e).data.toList = (s.data.toList.take e).drop a := by
  rw [ByteArray.data_extract, Array.toList_extract]
  rw [List.extract_eq_take_drop, List.drop_take]
def pxN (b : Nat) (l : List UInt8) : Nat := av (bgO b l) 0 ((l.take (bgL b l)).drop (bgA b l))
/-- What Prefix answers beside the length: the number, the error's number. -/
def pxX (b : Nat) (l : List UInt8) : Nat := if 0 < bgL b l then (if pxN b l < 18446744073709551616 then pxN b l else 18446744073709551615) else 0
def pxE (b : Nat) (l : List UInt8) : Nat := if 0 < bgL b l then (if pxN b l < 18446744073709551616 then 0 else 4) else 3
end Go.Proofs.YtoabdoognadijaaDoor
