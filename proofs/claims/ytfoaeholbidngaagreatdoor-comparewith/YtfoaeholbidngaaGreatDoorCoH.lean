/-
  The laws CompareWith, CompareNearest and CompareCounts, by what the program's calls answer.
-/
import Derived.Test.YtfoaeholbidngaaGreatDoorCrA
import Derived.Test.YtfoaeholbidngaaGreatDoorCo2
namespace Go.Proofs.YtfoaeholbidngaaGreatDoor
open Go.RowKit

/-- An error's value, by its number. -/
def erC (k : Int) : Value := if k = 0 then .nilIface else .iface 74 (.int .i64 k)
theorem num_nilC (w : World) : Calls Tryz.prog 12 #[.nilIface] w fun e w' => e = .returned (.int .i64 0) ∧ w' = w := by
  go_enter Tryz.func12, Tryz.ntmps12
  go_wp2
  go_ret
  exact ⟨rfl, rfl⟩
theorem taNC (v : Value) (w : World) : (Instr.typeAssert (.iface 74 v) 26 74 true).run Tryz.prog w = .ok (.tuple #[v, .bool true]) w := by kernel_rfl
theorem num_errnoC (k : Int) (w : World) : Calls Tryz.prog 12 #[.iface 74 (.int .i64 k)] w fun e w' => e = .returned (.int .i64 k) ∧ w' = w := by
  have ta := fun W => taNC (.int .i64 k) W
  go_enter Tryz.func12, Tryz.ntmps12
  go_wp2
  go_ret
  exact ⟨rfl, rfl⟩
theorem num_anyC (k : Int) (w : World) : Calls Tryz.prog 12 #[erC k] w fun e w' => e = .returned (.int .i64 k) ∧ w' = w := by
  unfold erC
  by_cases h : k = 0
  · rw [if_pos h, h]; exact num_nilC w
  · rw [if_neg h]; exact num_errnoC k w

/-- What a call of the program answers, in every world behind w0: without a meter; with one in which nothing lives. -/
def NoM (w0 : World) (fn : FuncId) (args : Array Value) (v : Value) : Prop := ∀ W, Below w0.heap.size w0 W → Calls Tryz.prog fn (args.push (.pointer none)) W fun o W' => o = .returned v ∧ Below W.heap.size W W'
def MeM (w0 : World) (fn : FuncId) (args : Array Value) (v : Value) (n : Int) : Prop := ∀ W b p e t s, Below w0.heap.size w0 W → w0.heap.size ≤ b → MS W b 0 p e t s → 0 ≤ p → p ≤ 1024 → 0 ≤ s → s ≤ 100 →
  Calls Tryz.prog fn (args.push (mV b)) W fun o W' => ∃ p', o = .returned v ∧ 0 ≤ p' ∧ p' ≤ 1024 ∧ MS W' b 0 p' e t (s + n) ∧ But b W W'
set_option maxRecDepth 100000 in
set_option maxHeartbeats 2000000 in
theorem law_with16 {t : ByteArray} {p : Int} {c : Bool} {b z x k y j : Int} {w : World}
    (PA : NoM w 8 #[dcV t p c, .int .u64 b, .int .i64 z] (.tuple #[.int .i64 x, erC k]))
    (RA : ∀ W, Calls Tryz.prog 9 #[dcV t p c, .int .u64 b, .int .i64 z] W fun o w' => o = .returned (.tuple #[.int .i64 x, .int .i64 k]) ∧ Below W.heap.size W w')
    (PB : NoM w 10 #[dcV t p c, .int .u64 b, .int .i64 z] (.tuple #[.int .i64 y, erC j]))
    (RB : ∀ W, Calls Tryz.prog 11 #[dcV t p c, .int .u64 b, .int .i64 z] W fun o w' => o = .returned (.tuple #[.int .i64 y, .int .i64 j]) ∧ Below W.heap.size W w')
    (WK : ∀ W, Below w.heap.size w W → Calls Tryz.prog 13 #[] W fun o w' => o = .returned (.bool true) ∧ Below W.heap.size W w') :
    Calls Tryz.prog 3 #[dcV t p c, .int .u64 b, .int .i64 z] w fun o w' => o = .returned (.bool true) ∧ Below w.heap.size w w' := by
  have NK := fun W => num_anyC k W
  have NJ := fun W => num_anyC j W
  unfold NoM dcV at *
  have H0 : Hid (DcB (w.alloc (.cells #[.string t, .int .i64 p, .bool c] 23)) w.heap.size (.string t) (.int .i64 p) (.bool c) ∧ Below w.heap.size w (w.alloc (.cells #[.string t, .int .i64 p, .bool c] 23))) := ⟨DcB.new w _ _ _ _, (Below.refl _ _).alloc (Nat.le_refl _) _⟩
  simp only [Array.push, List.concat_eq_append, List.cons_append, List.nil_append] at PA PB
  generalize erC k = ek at *
  generalize erC j = ej at *
  obtain ⟨_, a0, a1, a2, _, _, _⟩ := H0.out.1
  go_enter Tryz.func3, Tryz.ntmps3
  go_wp2_with fail
  refine (PA _ H0.out.2).mono ?_
  rintro o w1 ⟨rfl, b1⟩
  have H1 : Hid (DcB w1 w.heap.size (.string t) (.int .i64 p) (.bool c) ∧ Below w.heap.size w w1) := ⟨H0.out.1.step b1, H0.out.2.trans (b1.mono H0.out.2.size)⟩
  clear b1 H0 a0 a1 a2
  obtain ⟨_, a0, a1, a2, _, _, _⟩ := H1.out.1
  go_wp2_with fail
  refine (RA _).mono ?_
  rintro o w2 ⟨rfl, b2⟩
  have H2 : Hid (DcB w2 w.heap.size (.string t) (.int .i64 p) (.bool c) ∧ Below w.heap.size w w2) := ⟨H1.out.1.step b2, H1.out.2.trans (b2.mono H1.out.2.size)⟩
  clear b2 H1 a0 a1 a2
  obtain ⟨_, a0, a1, a2, _, _, _⟩ := H2.out.1
  go_wp2_with fail
  refine (PB _ H2.out.2).mono ?_
  rintro o w3 ⟨rfl, b3⟩
  have H3 : Hid (DcB w3 w.heap.size (.string t) (.int .i64 p) (.bool c) ∧ Below w.heap.size w w3) := ⟨H2.out.1.step b3, H2.out.2.trans (b3.mono H2.out.2.size)⟩
  clear b3 H2 a0 a1 a2
  obtain ⟨_, a0, a1, a2, _, _, _⟩ := H3.out.1
  go_wp2_with fail
  refine (RB _).mono ?_
  rintro o w4 ⟨rfl, b4⟩
  have H4 : Hid (DcB w4 w.heap.size (.string t) (.int .i64 p) (.bool c) ∧ Below w.heap.size w w4) := ⟨H3.out.1.step b4, H3.out.2.trans (b4.mono H3.out.2.size)⟩
  clear b4 H3 a0 a1 a2
  obtain ⟨_, a0, a1, a2, _, _, _⟩ := H4.out.1
  go_wp2_with fail
  refine (NK _).mono ?_
  rintro o w4 ⟨rfl, rfl⟩
  go_wp2_with fail
  refine (NJ _).mono ?_
  rintro o w4 ⟨rfl, rfl⟩
  go_wp2_with fail
  refine (WK _ H4.out.2).mono ?_
  rintro o w5 ⟨rfl, b5⟩
  have B5 : Hid (Below w.heap.size w w5) := H4.out.2.trans (b5.mono H4.out.2.size)
  clear b5
  go_wp2
  go_ret
  exact ⟨rfl, B5.out⟩
set_option maxRecDepth 100000 in
set_option maxHeartbeats 2000000 in
theorem law_near16 {t : ByteArray} {p : Int} {c : Bool} {b z x k y j : Int} {w : World}
    (PA : NoM w 14 #[dcV t p c, .int .i64 z] (.tuple #[.int .u64 x, erC k]))
    (RA : ∀ W, Calls Tryz.prog 15 #[dcV t p c, .int .i64 z] W fun o w' => o = .returned (.tuple #[.int .u64 x, .int .i64 k]) ∧ Below W.heap.size W w')
    (PB : NoM w 16 #[dcV t p c, .int .u64 b, .int .i64 z] (.tuple #[.int .u64 y, erC j]))
    (RB : ∀ W, Calls Tryz.prog 17 #[dcV t p c, .int .u64 b, .int .i64 z] W fun o w' => o = .returned (.tuple #[.int .u64 y, .int .i64 j]) ∧ Below W.heap.size W w')
    (WK : ∀ W, Below w.heap.size w W → Calls Tryz.prog 13 #[] W fun o w' => o = .returned (.bool true) ∧ Below W.heap.size W w') :
    Calls Tryz.prog 4 #[dcV t p c, .int .u64 b, .int .i64 z] w fun o w' => o = .returned (.bool true) ∧ Below w.heap.size w w' := by
  have NK := fun W => num_anyC k W
  have NJ := fun W => num_anyC j W
  unfold NoM dcV at *
  have H0 : Hid (DcB (w.alloc (.cells #[.string t, .int .i64 p, .bool c] 23)) w.heap.size (.string t) (.int .i64 p) (.bool c) ∧ Below w.heap.size w (w.alloc (.cells #[.string t, .int .i64 p, .bool c] 23))) := ⟨DcB.new w _ _ _ _, (Below.refl _ _).alloc (Nat.le_refl _) _⟩
  simp only [Array.push, List.concat_eq_append, List.cons_append, List.nil_append] at PA PB
  generalize erC k = ek at *
  generalize erC j = ej at *
  obtain ⟨_, a0, a1, a2, _, _, _⟩ := H0.out.1
  go_enter Tryz.func4, Tryz.ntmps4
  go_wp2_with fail
  refine (PA _ H0.out.2).mono ?_
  rintro o w1 ⟨rfl, b1⟩
  have H1 : Hid (DcB w1 w.heap.size (.string t) (.int .i64 p) (.bool c) ∧ Below w.heap.size w w1) := ⟨H0.out.1.step b1, H0.out.2.trans (b1.mono H0.out.2.size)⟩
  clear b1 H0 a0 a1 a2
  obtain ⟨_, a0, a1, a2, _, _, _⟩ := H1.out.1
  go_wp2_with fail
  refine (RA _).mono ?_
  rintro o w2 ⟨rfl, b2⟩
  have H2 : Hid (DcB w2 w.heap.size (.string t) (.int .i64 p) (.bool c) ∧ Below w.heap.size w w2) := ⟨H1.out.1.step b2, H1.out.2.trans (b2.mono H1.out.2.size)⟩
  clear b2 H1 a0 a1 a2
  obtain ⟨_, a0, a1, a2, _, _, _⟩ := H2.out.1
  go_wp2_with fail
  refine (PB _ H2.out.2).mono ?_
  rintro o w3 ⟨rfl, b3⟩
  have H3 : Hid (DcB w3 w.heap.size (.string t) (.int .i64 p) (.bool c) ∧ Below w.heap.size w w3) := ⟨H2.out.1.step b3, H2.out.2.trans (b3.mono H2.out.2.size)⟩
  clear b3 H2 a0 a1 a2
  obtain ⟨_, a0, a1, a2, _, _, _⟩ := H3.out.1
  go_wp2_with fail
  refine (RB _).mono ?_
  rintro o w4 ⟨rfl, b4⟩
  have H4 : Hid (DcB w4 w.heap.size (.string t) (.int .i64 p) (.bool c) ∧ Below w.heap.size w w4) := ⟨H3.out.1.step b4, H3.out.2.trans (b4.mono H3.out.2.size)⟩
  clear b4 H3 a0 a1 a2
  obtain ⟨_, a0, a1, a2, _, _, _⟩ := H4.out.1
  go_wp2_with fail
  refine (NK _).mono ?_
  rintro o w4 ⟨rfl, rfl⟩
  go_wp2_with fail
  refine (NJ _).mono ?_
  rintro o w4 ⟨rfl, rfl⟩
  go_wp2_with fail
  refine (WK _ H4.out.2).mono ?_
  rintro o w5 ⟨rfl, b5⟩
  have B5 : Hid (Below w.heap.size w w5) := H4.out.2.trans (b5.mono H4.out.2.size)
  clear b5
  go_wp2
  go_ret
  exact ⟨rfl, B5.out⟩
/-- What the laws' works asks of the program. -/
structure WkC (w0 : World) : Prop where
  wi : NoM w0 8 #[dcV ⟨#[49]⟩ 0 false, .int .u64 4591870180066957722, .int .i64 64] (.tuple #[.int .i64 (-1), .nilIface])
  n1 : MeM w0 14 #[dcV ⟨#[57, 48, 48, 55, 49, 57, 57, 50, 53, 52, 55, 52, 48, 57, 57, 51]⟩ 16 false, .int .i64 64] (.tuple #[.int .u64 4845873199050653696, .nilIface]) 1
  n2 : MeM w0 14 #[dcV ⟨#[57, 48, 48, 55, 49, 57, 57, 50, 53, 52, 55, 52, 48, 57, 57, 51]⟩ 16 true, .int .i64 64] (.tuple #[.int .u64 4845873199050653697, .nilIface]) 1
  n3 : NoM w0 14 #[dcV ⟨#[49]⟩ 400 false, .int .i64 64] (.tuple #[.int .u64 9218868437227405312, .iface 74 (.int .i64 4)])
set_option maxRecDepth 100000 in
set_option maxHeartbeats 2000000 in
theorem works16 {w0 w : World} (C : WkC w0) (hw : Below w0.heap.size w0 w) : Calls Tryz.prog 13 #[] w fun o w' => o = .returned (.bool true) ∧ Below w.heap.size w w' := by
  obtain ⟨PW, N1, N2, N3⟩ := C
  have NK := fun W => num_errnoC 4 W
  have NW := new_any w
  unfold NoM MeM dcV at *
  simp only [Array.push, List.concat_eq_append, List.cons_append, List.nil_append] at PW N1 N2 N3
  have HW : Hid (Below w0.heap.size w0 w ∧ w0.heap.size ≤ w.heap.size) := ⟨hw, hw.size⟩
  clear hw
  go_enter Tryz.func13, Tryz.ntmps13
  go_wp2_with fail
  refine NW.mono ?_
  rintro o w1 ⟨rfl, b1, m1⟩
  have H1 : Hid (MS w1 w.heap.size 0 0 0 0 0 ∧ Below w.heap.size w w1 ∧ Below w0.heap.size w0 w1) := ⟨m1, b1, HW.out.1.trans (b1.mono HW.out.2)⟩
  clear b1 m1 NW
  unfold mV at *
  go_wp2_with fail
  refine (PW _ H1.out.2.2).mono ?_
  rintro o w2 ⟨rfl, b2⟩
  have H2 : Hid (MS w2 w.heap.size 0 0 0 0 0 ∧ Below w.heap.size w w2 ∧ Below w0.heap.size w0 w2) := ⟨H1.out.1.step b2, H1.out.2.1.trans (b2.mono H1.out.2.1.size), H1.out.2.2.trans (b2.mono H1.out.2.2.size)⟩
  clear b2 H1 PW
  go_wp2_with fail
  refine (N1 _ _ _ _ _ _ H2.out.2.2 HW.out.2 H2.out.1 (by decide) (by decide) (by decide) (by decide)).mono ?_
  rintro o w3 ⟨p3, rfl, q30, q31, m3, b3⟩
  have H3 : Hid (MS w3 w.heap.size 0 p3 0 0 1 ∧ Below w.heap.size w w3 ∧ Below w0.heap.size w0 w3) := ⟨m3, H2.out.2.1.trans (b3.bel (Nat.le_refl _) H2.out.2.1.size), H2.out.2.2.trans (b3.bel HW.out.2 H2.out.2.2.size)⟩
  clear b3 m3 H2 N1
  go_wp2_with fail
  refine (N2 _ _ _ _ _ _ H3.out.2.2 HW.out.2 H3.out.1 q30 q31 (by decide) (by decide)).mono ?_
  rintro o w4 ⟨p4, rfl, q40, q41, m4, b4⟩
  have H4 : Hid (MS w4 w.heap.size 0 p4 0 0 2 ∧ Below w.heap.size w w4 ∧ Below w0.heap.size w0 w4) := ⟨m4, H3.out.2.1.trans (b4.bel (Nat.le_refl _) H3.out.2.1.size), H3.out.2.2.trans (b4.bel HW.out.2 H3.out.2.2.size)⟩
  clear b4 m4 H3 N2 q30 q31
  go_wp2_with fail
  refine (N3 _ H4.out.2.2).mono ?_
  rintro o w5 ⟨rfl, b5⟩
  have H5 : Hid (MS w5 w.heap.size 0 p4 0 0 2 ∧ Below w.heap.size w w5) := ⟨H4.out.1.step b5, H4.out.2.1.trans (b5.mono H4.out.2.1.size)⟩
  clear b5 H4 N3
  have CN := count_at 3 w5 H5.out.1
  have LV := live_at w5 H5.out.1
  rw [show cntI 0 0 2 3 = 2 from rfl] at CN
  unfold mV at CN LV
  go_wp2_with fail
  refine (NK _).mono ?_
  rintro o w5 ⟨rfl, rfl⟩
  go_wp2_with fail
  refine CN.mono ?_
  rintro o w5 ⟨rfl, rfl⟩
  go_wp2_with fail
  refine LV.mono ?_
  rintro o w6 ⟨rfl, b6⟩
  have B6 : Hid (Below w.heap.size w w6) := H5.out.2.trans (b6.mono H5.out.2.size)
  clear b6
  go_wp2
  go_ret
  exact ⟨rfl, B6.out⟩
end Go.Proofs.YtfoaeholbidngaaGreatDoor
