/-
  Wrap and Line make a row of links one longer; tells; what must come whatever the input is: sure.
-/
import Derived.Test.YtelobjhmbabiaaaDoorFtT
namespace Go.Proofs.YtelobjhmbabiaaaDoor
open Go.RowKit Go.Extern.Stop Go.Stop Go.Extern

set_option maxRecDepth 100000 in
set_option maxHeartbeats 2000000 in
theorem wrap_ch {c t : ByteArray} (hc : c.size ≤ 281474976710656) (ht : t.size ≤ 281474976710656) {ls : List Lk} {n : Int} {v : Value} {w : World} (h : Ch w ls n v) :
    Calls Tryd.prog 27 #[.string c, .string t, v] w fun x w' => ∃ v', x = .returned v' ∧ Ch w' (.inl (c, t) :: ls) n v' ∧ Below w.heap.size w w' := by
  have C1 := fun W => clone_any c hc W
  have C2 := fun W => clone_any t ht W
  obtain ⟨T, y, rfl⟩ := h.iface
  have HC : Hid (Ch w ls n (.iface T y)) := h
  clear h hc ht
  go_enter Tryd.func27, Tryd.ntmps27
  go_wp2_with fail
  refine (C1 _).mono ?_
  rintro x w1 ⟨rfl, b1⟩
  have B1 : Hid (Below w.heap.size w w1) := b1
  clear b1
  go_wp2_with fail
  refine (C2 _).mono ?_
  rintro x w2 ⟨rfl, b2⟩
  have B2 : Hid (Below w.heap.size w w2) := B1.out.trans (b2.mono B1.out.size)
  clear b2
  go_wp2
  go_ret
  refine ⟨_, rfl, ⟨w2.heap.size, .iface T y, rfl, heap_alloc_new w2 _, ?_⟩, B2.out.alloc B2.out.size _⟩
  exact HC.out.below (B2.out.alloc B2.out.size _) (Nat.le_refl _)

set_option maxRecDepth 100000 in
set_option maxHeartbeats 2000000 in
theorem line_ch {l : Int} {ls : List Lk} {n : Int} {v : Value} {w : World} (h : Ch w ls n v) :
    Calls Tryd.prog 28 #[.int .i64 l, v] w fun x w' => ∃ v', x = .returned v' ∧ Ch w' (.inr l :: ls) n v' ∧ Below w.heap.size w w' := by
  obtain ⟨T, y, rfl⟩ := h.iface
  have HC : Hid (Ch w ls n (.iface T y)) := h
  clear h
  go_enter Tryd.func28, Tryd.ntmps28
  go_wp2
  go_ret
  refine ⟨_, rfl, ⟨w.heap.size, .iface T y, rfl, heap_alloc_new w _, ?_⟩, (Below.refl _ _).alloc (Nat.le_refl _) _⟩
  exact HC.out.below ((Below.refl _ _).alloc (Nat.le_refl _) _) (Nat.le_refl _)

theorem taFF (v : Value) (w : World) : (Instr.typeAssert (.iface 54 v) 23 54 true).run Tryd.prog w = .ok (.tuple #[v, .bool true]) w := by kernel_rfl
theorem taPF (v : Value) (w : World) : (Instr.typeAssert (.iface 55 v) 23 54 true).run Tryd.prog w = .ok (.tuple #[.pointer none, .bool false]) w := by kernel_rfl
theorem taPP (v : Value) (w : World) : (Instr.typeAssert (.iface 55 v) 23 55 true).run Tryd.prog w = .ok (.tuple #[v, .bool true]) w := by kernel_rfl
theorem taNF (v : Value) (w : World) : (Instr.typeAssert (.iface 32 v) 23 54 true).run Tryd.prog w = .ok (.tuple #[.pointer none, .bool false]) w := by kernel_rfl
theorem taNP (v : Value) (w : World) : (Instr.typeAssert (.iface 32 v) 23 55 true).run Tryd.prog w = .ok (.tuple #[.pointer none, .bool false]) w := by kernel_rfl
theorem taNN (v : Value) (w : World) : (Instr.typeAssert (.iface 32 v) 23 32 true).run Tryd.prog w = .ok (.tuple #[v, .bool true]) w := by kernel_rfl
set_option maxRecDepth 100000 in
set_option maxHeartbeats 2000000 in
theorem tells_F {v : Value} {T : ByteArray} {w : World}
    (C : Calls Tryd.prog 29 #[v] w fun x w' => x = .returned (.string T) ∧ Below w.heap.size w w') :
    Calls Tryd.prog 24 #[.iface 54 v] w fun x w' => x = .returned (.string T) ∧ Below w.heap.size w w' := by
  have q0 := taFF
  go_enter Tryd.func24, Tryd.ntmps24
  go_wp2_with fail
  refine C.mono ?_
  rintro e w1 ⟨rfl, hb1⟩
  go_wp2
  go_ret
  exact ⟨rfl, hb1⟩
set_option maxRecDepth 100000 in
set_option maxHeartbeats 2000000 in
theorem tells_P {v : Value} {T : ByteArray} {w : World}
    (C : Calls Tryd.prog 31 #[v] w fun x w' => x = .returned (.string T) ∧ Below w.heap.size w w') :
    Calls Tryd.prog 24 #[.iface 55 v] w fun x w' => x = .returned (.string T) ∧ Below w.heap.size w w' := by
  have q0 := taPF
  have q1 := taPP
  go_enter Tryd.func24, Tryd.ntmps24
  go_wp2_with fail
  refine C.mono ?_
  rintro e w1 ⟨rfl, hb1⟩
  go_wp2
  go_ret
  exact ⟨rfl, hb1⟩
set_option maxRecDepth 100000 in
set_option maxHeartbeats 2000000 in
theorem tells_N {v : Value} {T : ByteArray} {w : World}
    (C : Calls Tryd.prog 19 #[v] w fun x w' => x = .returned (.string T) ∧ Below w.heap.size w w') :
    Calls Tryd.prog 24 #[.iface 32 v] w fun x w' => x = .returned (.string T) ∧ Below w.heap.size w w' := by
  have q0 := taNF
  have q1 := taNP
  have q2 := taNN
  go_enter Tryd.func24, Tryd.ntmps24
  go_wp2_with fail
  refine C.mono ?_
  rintro e w1 ⟨rfl, hb1⟩
  go_wp2
  go_ret
  exact ⟨rfl, hb1⟩
/-- What a row of links tells, by tells. -/
theorem tells_ch {n : Int} (h0 : -9223372036854775808 ≤ n) (h1 : n ≤ 9223372036854775807) : ∀ {ls : List Lk} {v : Value} {w : World}, Ch w ls n v → Lines ls → PowB w.heap.size w → (tx ls n).size ≤ 1000000000 →
    Calls Tryd.prog 24 #[v] w fun x w' => x = .returned (.string (tx ls n)) ∧ Below w.heap.size w w'
  | [], _, w, h, _, hP, _ => by
    have h' : _ = _ := h
    subst h'
    exact tells_N (errno_text h0 h1 w hP)
  | .inl (c, t) :: ls, _, w, ⟨b, e, hv, hh, hc⟩, hl, hP, hz => by
    subst hv
    have hz' : (tx ls n).size ≤ 1000000000 := by
      unfold tx at hz
      rw [ByteArray.size_append] at hz
      omega
    exact tells_F (fault_text hh hz fun W hb => textOf_ch h0 h1 (hc.below hb (Nat.le_refl _)) hl (hP.step hb) hz')
  | .inr l :: ls, _, w, ⟨b, e, hv, hh, hc⟩, hl, hP, hz => by
    subst hv
    have hz' : (tx ls n).size ≤ 1000000000 := by
      unfold tx at hz
      rw [ByteArray.size_append] at hz
      omega
    exact tells_P (place_text hh hl.1.1 hl.1.2 hP hz fun W hb => textOf_ch h0 h1 (hc.below hb (Nat.le_refl _)) hl.2 (hP.step hb) hz')

theorem sure_tx : tx [.inl (⟨#[80, 97, 114, 115, 101]⟩, ⟨#[49, 120]⟩)] 3 = ⟨#[80, 97, 114, 115, 101, 32, 34, 49, 120, 34, 58, 32, 101, 114, 114, 111, 114, 32, 51]⟩ := by decide +kernel

set_option maxRecDepth 100000 in
set_option maxHeartbeats 2000000 in
theorem sure_any (w : World) (hP : PowB w.heap.size w) : Calls Tryd.prog 13 #[] w fun x w' => x = .returned (.bool true) ∧ Below w.heap.size w w' := by
  have W1 := wrap_ch (c := ⟨#[80, 97, 114, 115, 101]⟩) (t := ⟨#[49, 120]⟩) (by decide) (by decide) (ls := []) (n := 3) (v := .iface 32 (.int .i64 3)) (w := w) rfl
  have T1 := fun W v (h : Ch W [.inl (⟨#[80, 97, 114, 115, 101]⟩, ⟨#[49, 120]⟩)] 3 v) (hp : PowB W.heap.size W) => tells_ch (n := 3) (by decide) (by decide) h trivial hp (by rw [sure_tx]; decide)
  rw [sure_tx] at T1
  have I1 := fun W v (h : Ch W [.inl (⟨#[80, 97, 114, 115, 101]⟩, ⟨#[49, 120]⟩)] 3 v) => Is_ch (n := 3) 3 h
  have HP : Hid (PowB w.heap.size w) := hP
  clear hP
  go_enter Tryd.func13, Tryd.ntmps13
  go_wp2_with fail
  refine W1.mono ?_
  rintro x w1 ⟨v, rfl, h1, b1⟩
  obtain ⟨T, y, rfl⟩ := h1.iface
  have H1 : Hid (Ch w1 _ 3 _ ∧ Below w.heap.size w w1) := ⟨h1, b1⟩
  clear h1 b1
  go_wp2_with fail
  refine (T1 _ _ H1.out.1 (HP.out.step H1.out.2)).mono ?_
  rintro x w2 ⟨rfl, b2⟩
  have H2 : Hid (Ch w2 _ 3 _ ∧ Below w.heap.size w w2) := ⟨H1.out.1.below b2 (Nat.le_refl _), H1.out.2.trans (b2.mono H1.out.2.size)⟩
  clear b2
  go_wp2_with fail
  refine (I1 _ _ H2.out.1).mono ?_
  rintro x w3 ⟨rfl, rfl⟩
  go_wp2
  go_ret
  exact ⟨rfl, H2.out.2⟩
end Go.Proofs.YtelobjhmbabiaaaDoor
