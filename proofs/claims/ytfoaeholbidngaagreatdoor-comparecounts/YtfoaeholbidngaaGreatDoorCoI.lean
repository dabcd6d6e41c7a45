/-
  The law CompareCounts, by what the program's calls answer.
-/
import Derived.Test.YtfoaeholbidngaaGreatDoorCoH
namespace Go.Proofs.YtfoaeholbidngaaGreatDoor
open Go.RowKit

/-- How often the road is counted. -/
def cnN (k : Int) : Int := if k = 0 ∨ k = 4 then 1 else 0
theorem DcB.but {W W' : World} {K b : Nat} {x y z : Value} (h : DcB W K x y z) (hb : But b W W') (n : K ≠ b) : DcB W' K x y z := by
  have k := fun o => hb.cell (p := ⟨K, o, none⟩) h.lt n
  have j := fun o => hb.frozen (p := ⟨K, o, none⟩) h.lt n
  exact ⟨Nat.lt_of_lt_of_le h.lt hb.size, (k 0).trans h.a0, (k 1).trans h.a1, (k 2).trans h.a2, (j 0).trans h.f0, (j 1).trans h.f1, (j 2).trans h.f2⟩
set_option maxRecDepth 100000 in
set_option maxHeartbeats 2000000 in
theorem counts_zz {t : ByteArray} {p : Int} {c : Bool} {b z x y : Int} {vw vh : Value} {w : World}
    (PN : MeM w 14 #[dcV t p c, .int .i64 z] (.tuple #[.int .u64 x, .nilIface]) 1)
    (PS : MeM w 16 #[dcV t p c, .int .u64 b, .int .i64 z] (.tuple #[.int .u64 y, .nilIface]) 1)
    (PW : MeM w 8 #[dcV t p c, .int .u64 b, .int .i64 z] vw 0)
    (PH : MeM w 10 #[dcV t p c, .int .u64 b, .int .i64 z] vh 0)
    (WK : ∀ W, Below w.heap.size w W → Calls Tryz.prog 13 #[] W fun o w' => o = .returned (.bool true) ∧ Below W.heap.size W w') :
    Calls Tryz.prog 5 #[dcV t p c, .int .u64 b, .int .i64 z] w fun o w' => o = .returned (.bool true) ∧ Below w.heap.size w w' := by
  have NW := new_any (w.alloc (.cells #[.string t, .int .i64 p, .bool c] 23))
  unfold MeM dcV at *
  simp only [Array.push, List.concat_eq_append, List.cons_append, List.nil_append, Int.add_zero] at PN PS PW PH
  have H0 : Hid (DcB (w.alloc (.cells #[.string t, .int .i64 p, .bool c] 23)) w.heap.size (.string t) (.int .i64 p) (.bool c) ∧ Below w.heap.size w (w.alloc (.cells #[.string t, .int .i64 p, .bool c] 23))) := ⟨DcB.new w _ _ _ _, (Below.refl _ _).alloc (Nat.le_refl _) _⟩
  have sb : ((w.alloc (.cells #[.string t, .int .i64 p, .bool c] 23))).heap.size = w.heap.size + 1 := by simp
  rw [sb] at NW
  clear sb
  go_enter Tryz.func5, Tryz.ntmps5
  go_wp2_with fail
  refine NW.mono ?_
  rintro o w1 ⟨rfl, b1, m1⟩
  have H1 : Hid (DcB w1 w.heap.size (.string t) (.int .i64 p) (.bool c) ∧ Below w.heap.size w w1 ∧ MS w1 (w.heap.size + 1) 0 0 0 0 0) := ⟨H0.out.1.step (by simpa using b1), H0.out.2.trans (b1.mono (by omega)), m1⟩
  clear b1 m1 NW H0
  unfold mV at *
  obtain ⟨_, a0, a1, a2, _, _, _⟩ := H1.out.1
  go_wp2_with fail
  refine (PN _ _ _ _ _ _ H1.out.2.1 (Nat.le_succ _) H1.out.2.2 (by decide) (by decide) (by decide) (by decide)).mono ?_
  rintro o w2 ⟨p2, rfl, q20, q21, m2, b2⟩
  have H2 : Hid (DcB w2 w.heap.size (.string t) (.int .i64 p) (.bool c) ∧ Below w.heap.size w w2 ∧ MS w2 (w.heap.size + 1) 0 p2 0 0 1) := ⟨H1.out.1.but b2 (by omega), H1.out.2.1.trans (b2.bel (Nat.le_succ _) H1.out.2.1.size), m2⟩
  clear b2 m2 H1 PN a0 a1 a2
  obtain ⟨_, a0, a1, a2, _, _, _⟩ := H2.out.1
  have C3 := count_at 3 w2 H2.out.2.2
  have C1 := count_at 1 w2 H2.out.2.2
  have C2 := count_at 2 w2 H2.out.2.2
  have LV := live_at w2 H2.out.2.2
  rw [show cntI 0 0 1 3 = 1 from rfl] at C3
  rw [show cntI 0 0 1 1 = 0 from rfl] at C1
  rw [show cntI 0 0 1 2 = 0 from rfl] at C2
  have p21 : ¬ 1024 < p2 := by omega
  unfold mV at *
  go_wp2_with fail
  refine C3.mono ?_
  rintro o w2 ⟨rfl, rfl⟩
  go_wp2_with fail
  refine LV.mono ?_
  rintro o w3 ⟨rfl, b3⟩
  have H3 : Hid (DcB w3 w.heap.size (.string t) (.int .i64 p) (.bool c) ∧ Below w.heap.size w w3 ∧ MS w3 (w.heap.size + 1) 0 p2 0 0 1) := ⟨H2.out.1.step b3, H2.out.2.1.trans (b3.mono H2.out.2.1.size), H2.out.2.2.step b3⟩
  clear b3 H2 C3 C1 C2 LV a0 a1 a2
  have PK := peak_at w3 H3.out.2.2
  unfold mV at PK
  go_wp2_with fail
  refine PK.mono ?_
  rintro o w4 ⟨rfl, b4⟩
  have H4 : Hid (DcB w4 w.heap.size (.string t) (.int .i64 p) (.bool c) ∧ Below w.heap.size w w4 ∧ MS w4 (w.heap.size + 1) 0 p2 0 0 1) := ⟨H3.out.1.step b4, H3.out.2.1.trans (b4.mono H3.out.2.1.size), H3.out.2.2.step b4⟩
  clear b4 H3 PK
  have C1 := count_at 1 w4 H4.out.2.2
  have C2 := count_at 2 w4 H4.out.2.2
  rw [show cntI 0 0 1 1 = 0 from rfl] at C1
  rw [show cntI 0 0 1 2 = 0 from rfl] at C2
  unfold mV at C1 C2
  obtain ⟨_, a0, a1, a2, _, _, _⟩ := H4.out.1
  go_wp2_with fail
  refine C1.mono ?_
  rintro o w4 ⟨rfl, rfl⟩
  go_wp2_with fail
  refine C2.mono ?_
  rintro o w4 ⟨rfl, rfl⟩
  clear C1 C2
  go_wp2_with fail
  refine (PS _ _ _ _ _ _ H4.out.2.1 (Nat.le_succ _) H4.out.2.2 q20 q21 (by decide) (by decide)).mono ?_
  rintro o w5 ⟨p5, rfl, q50, q51, m5, b5⟩
  have H5 : Hid (DcB w5 w.heap.size (.string t) (.int .i64 p) (.bool c) ∧ Below w.heap.size w w5 ∧ MS w5 (w.heap.size + 1) 0 p5 0 0 2) := ⟨H4.out.1.but b5 (by omega), H4.out.2.1.trans (b5.bel (Nat.le_succ _) H4.out.2.1.size), m5⟩
  clear b5 m5 H4 PS a0 a1 a2 q20 q21 p21
  obtain ⟨_, a0, a1, a2, _, _, _⟩ := H5.out.1
  go_wp2_with fail
  refine (PW _ _ _ _ _ _ H5.out.2.1 (Nat.le_succ _) H5.out.2.2 q50 q51 (by decide) (by decide)).mono ?_
  rintro o w6 ⟨p6, rfl, q60, q61, m6, b6⟩
  have H6 : Hid (DcB w6 w.heap.size (.string t) (.int .i64 p) (.bool c) ∧ Below w.heap.size w w6 ∧ MS w6 (w.heap.size + 1) 0 p6 0 0 2) := ⟨H5.out.1.but b6 (by omega), H5.out.2.1.trans (b6.bel (Nat.le_succ _) H5.out.2.1.size), m6⟩
  clear b6 m6 H5 PW a0 a1 a2 q50 q51
  obtain ⟨_, a0, a1, a2, _, _, _⟩ := H6.out.1
  go_wp2_with fail
  refine (PH _ _ _ _ _ _ H6.out.2.1 (Nat.le_succ _) H6.out.2.2 q60 q61 (by decide) (by decide)).mono ?_
  rintro o w7 ⟨p7, rfl, q70, q71, m7, b7⟩
  have H7 : Hid (Below w.heap.size w w7 ∧ MS w7 (w.heap.size + 1) 0 p7 0 0 2) := ⟨H6.out.2.1.trans (b7.bel (Nat.le_succ _) H6.out.2.1.size), m7⟩
  clear b7 m7 H6 PH a0 a1 a2 q60 q61
  have C3 := count_at 3 w7 H7.out.2
  have LV := live_at w7 H7.out.2
  rw [show cntI 0 0 2 3 = 2 from rfl] at C3
  unfold mV at C3 LV
  go_wp2_with fail
  refine C3.mono ?_
  rintro o w7 ⟨rfl, rfl⟩
  go_wp2_with fail
  refine LV.mono ?_
  rintro o w8 ⟨rfl, b8⟩
  have H8 : Hid (Below w.heap.size w w8 ∧ MS w8 (w.heap.size + 1) 0 p7 0 0 2) := ⟨H7.out.1.trans (b8.mono H7.out.1.size), H7.out.2.step b8⟩
  clear b8 H7 C3 LV
  have PK := peak_at w8 H8.out.2
  unfold mV at PK
  go_wp2_with fail
  refine PK.mono ?_
  rintro o w9 ⟨rfl, b9⟩
  have H9 : Hid (Below w.heap.size w w9) := H8.out.1.trans (b9.mono H8.out.1.size)
  clear b9 H8 PK
  go_wp2_with fail
  all_goals first | (exfalso; omega) | skip
  refine (WK _ H9.out).mono ?_
  rintro o wa ⟨rfl, ba⟩
  have Ba : Hid (Below w.heap.size w wa) := H9.out.trans (ba.mono H9.out.size)
  clear ba
  go_wp2
  go_ret
  exact ⟨rfl, Ba.out⟩
set_option maxRecDepth 100000 in
set_option maxHeartbeats 2000000 in
theorem counts_zf {t : ByteArray} {p : Int} {c : Bool} {b z x y : Int} {vw vh : Value} {w : World}
    (PN : MeM w 14 #[dcV t p c, .int .i64 z] (.tuple #[.int .u64 x, .nilIface]) 1)
    (PS : MeM w 16 #[dcV t p c, .int .u64 b, .int .i64 z] (.tuple #[.int .u64 y, .iface 74 (.int .i64 4)]) 1)
    (PW : MeM w 8 #[dcV t p c, .int .u64 b, .int .i64 z] vw 0)
    (PH : MeM w 10 #[dcV t p c, .int .u64 b, .int .i64 z] vh 0)
    (WK : ∀ W, Below w.heap.size w W → Calls Tryz.prog 13 #[] W fun o w' => o = .returned (.bool true) ∧ Below W.heap.size W w') :
    Calls Tryz.prog 5 #[dcV t p c, .int .u64 b, .int .i64 z] w fun o w' => o = .returned (.bool true) ∧ Below w.heap.size w w' := by
  have NJ := fun W => num_errnoC 4 W
  have NW := new_any (w.alloc (.cells #[.string t, .int .i64 p, .bool c] 23))
  unfold MeM dcV at *
  simp only [Array.push, List.concat_eq_append, List.cons_append, List.nil_append, Int.add_zero] at PN PS PW PH
  have H0 : Hid (DcB (w.alloc (.cells #[.string t, .int .i64 p, .bool c] 23)) w.heap.size (.string t) (.int .i64 p) (.bool c) ∧ Below w.heap.size w (w.alloc (.cells #[.string t, .int .i64 p, .bool c] 23))) := ⟨DcB.new w _ _ _ _, (Below.refl _ _).alloc (Nat.le_refl _) _⟩
  have sb : ((w.alloc (.cells #[.string t, .int .i64 p, .bool c] 23))).heap.size = w.heap.size + 1 := by simp
  rw [sb] at NW
  clear sb
  go_enter Tryz.func5, Tryz.ntmps5
  go_wp2_with fail
  refine NW.mono ?_
  rintro o w1 ⟨rfl, b1, m1⟩
  have H1 : Hid (DcB w1 w.heap.size (.string t) (.int .i64 p) (.bool c) ∧ Below w.heap.size w w1 ∧ MS w1 (w.heap.size + 1) 0 0 0 0 0) := ⟨H0.out.1.step (by simpa using b1), H0.out.2.trans (b1.mono (by omega)), m1⟩
  clear b1 m1 NW H0
  unfold mV at *
  obtain ⟨_, a0, a1, a2, _, _, _⟩ := H1.out.1
  go_wp2_with fail
  refine (PN _ _ _ _ _ _ H1.out.2.1 (Nat.le_succ _) H1.out.2.2 (by decide) (by decide) (by decide) (by decide)).mono ?_
  rintro o w2 ⟨p2, rfl, q20, q21, m2, b2⟩
  have H2 : Hid (DcB w2 w.heap.size (.string t) (.int .i64 p) (.bool c) ∧ Below w.heap.size w w2 ∧ MS w2 (w.heap.size + 1) 0 p2 0 0 1) := ⟨H1.out.1.but b2 (by omega), H1.out.2.1.trans (b2.bel (Nat.le_succ _) H1.out.2.1.size), m2⟩
  clear b2 m2 H1 PN a0 a1 a2
  obtain ⟨_, a0, a1, a2, _, _, _⟩ := H2.out.1
  have C3 := count_at 3 w2 H2.out.2.2
  have C1 := count_at 1 w2 H2.out.2.2
  have C2 := count_at 2 w2 H2.out.2.2
  have LV := live_at w2 H2.out.2.2
  rw [show cntI 0 0 1 3 = 1 from rfl] at C3
  rw [show cntI 0 0 1 1 = 0 from rfl] at C1
  rw [show cntI 0 0 1 2 = 0 from rfl] at C2
  have p21 : ¬ 1024 < p2 := by omega
  unfold mV at *
  go_wp2_with fail
  refine C3.mono ?_
  rintro o w2 ⟨rfl, rfl⟩
  go_wp2_with fail
  refine LV.mono ?_
  rintro o w3 ⟨rfl, b3⟩
  have H3 : Hid (DcB w3 w.heap.size (.string t) (.int .i64 p) (.bool c) ∧ Below w.heap.size w w3 ∧ MS w3 (w.heap.size + 1) 0 p2 0 0 1) := ⟨H2.out.1.step b3, H2.out.2.1.trans (b3.mono H2.out.2.1.size), H2.out.2.2.step b3⟩
  clear b3 H2 C3 C1 C2 LV a0 a1 a2
  have PK := peak_at w3 H3.out.2.2
  unfold mV at PK
  go_wp2_with fail
  refine PK.mono ?_
  rintro o w4 ⟨rfl, b4⟩
  have H4 : Hid (DcB w4 w.heap.size (.string t) (.int .i64 p) (.bool c) ∧ Below w.heap.size w w4 ∧ MS w4 (w.heap.size + 1) 0 p2 0 0 1) := ⟨H3.out.1.step b4, H3.out.2.1.trans (b4.mono H3.out.2.1.size), H3.out.2.2.step b4⟩
  clear b4 H3 PK
  have C1 := count_at 1 w4 H4.out.2.2
  have C2 := count_at 2 w4 H4.out.2.2
  rw [show cntI 0 0 1 1 = 0 from rfl] at C1
  rw [show cntI 0 0 1 2 = 0 from rfl] at C2
  unfold mV at C1 C2
  obtain ⟨_, a0, a1, a2, _, _, _⟩ := H4.out.1
  go_wp2_with fail
  refine C1.mono ?_
  rintro o w4 ⟨rfl, rfl⟩
  go_wp2_with fail
  refine C2.mono ?_
  rintro o w4 ⟨rfl, rfl⟩
  clear C1 C2
  go_wp2_with fail
  refine (PS _ _ _ _ _ _ H4.out.2.1 (Nat.le_succ _) H4.out.2.2 q20 q21 (by decide) (by decide)).mono ?_
  rintro o w5 ⟨p5, rfl, q50, q51, m5, b5⟩
  have H5 : Hid (DcB w5 w.heap.size (.string t) (.int .i64 p) (.bool c) ∧ Below w.heap.size w w5 ∧ MS w5 (w.heap.size + 1) 0 p5 0 0 2) := ⟨H4.out.1.but b5 (by omega), H4.out.2.1.trans (b5.bel (Nat.le_succ _) H4.out.2.1.size), m5⟩
  clear b5 m5 H4 PS a0 a1 a2 q20 q21 p21
  obtain ⟨_, a0, a1, a2, _, _, _⟩ := H5.out.1
  go_wp2_with fail
  refine (NJ _).mono ?_
  rintro o w5 ⟨rfl, rfl⟩
  go_wp2_with fail
  refine (PW _ _ _ _ _ _ H5.out.2.1 (Nat.le_succ _) H5.out.2.2 q50 q51 (by decide) (by decide)).mono ?_
  rintro o w6 ⟨p6, rfl, q60, q61, m6, b6⟩
  have H6 : Hid (DcB w6 w.heap.size (.string t) (.int .i64 p) (.bool c) ∧ Below w.heap.size w w6 ∧ MS w6 (w.heap.size + 1) 0 p6 0 0 2) := ⟨H5.out.1.but b6 (by omega), H5.out.2.1.trans (b6.bel (Nat.le_succ _) H5.out.2.1.size), m6⟩
  clear b6 m6 H5 PW a0 a1 a2 q50 q51
  obtain ⟨_, a0, a1, a2, _, _, _⟩ := H6.out.1
  go_wp2_with fail
  refine (PH _ _ _ _ _ _ H6.out.2.1 (Nat.le_succ _) H6.out.2.2 q60 q61 (by decide) (by decide)).mono ?_
  rintro o w7 ⟨p7, rfl, q70, q71, m7, b7⟩
  have H7 : Hid (Below w.heap.size w w7 ∧ MS w7 (w.heap.size + 1) 0 p7 0 0 2) := ⟨H6.out.2.1.trans (b7.bel (Nat.le_succ _) H6.out.2.1.size), m7⟩
  clear b7 m7 H6 PH a0 a1 a2 q60 q61
  have C3 := count_at 3 w7 H7.out.2
  have LV := live_at w7 H7.out.2
  rw [show cntI 0 0 2 3 = 2 from rfl] at C3
  unfold mV at C3 LV
  go_wp2_with fail
  refine C3.mono ?_
  rintro o w7 ⟨rfl, rfl⟩
  go_wp2_with fail
  refine LV.mono ?_
  rintro o w8 ⟨rfl, b8⟩
  have H8 : Hid (Below w.heap.size w w8 ∧ MS w8 (w.heap.size + 1) 0 p7 0 0 2) := ⟨H7.out.1.trans (b8.mono H7.out.1.size), H7.out.2.step b8⟩
  clear b8 H7 C3 LV
  have PK := peak_at w8 H8.out.2
  unfold mV at PK
  go_wp2_with fail
  refine PK.mono ?_
  rintro o w9 ⟨rfl, b9⟩
  have H9 : Hid (Below w.heap.size w w9) := H8.out.1.trans (b9.mono H8.out.1.size)
  clear b9 H8 PK
  go_wp2_with fail
  all_goals first | (exfalso; omega) | skip
  refine (WK _ H9.out).mono ?_
  rintro o wa ⟨rfl, ba⟩
  have Ba : Hid (Below w.heap.size w wa) := H9.out.trans (ba.mono H9.out.size)
  clear ba
  go_wp2
  go_ret
  exact ⟨rfl, Ba.out⟩
set_option maxRecDepth 100000 in
set_option maxHeartbeats 2000000 in
theorem counts_zo {t : ByteArray} {p : Int} {c : Bool} {b z x y j : Int} (j4 : (j == 4) = false) {vw vh : Value} {w : World}
    (PN : MeM w 14 #[dcV t p c, .int .i64 z] (.tuple #[.int .u64 x, .nilIface]) 1)
    (PS : MeM w 16 #[dcV t p c, .int .u64 b, .int .i64 z] (.tuple #[.int .u64 y, .iface 74 (.int .i64 j)]) 0)
    (PW : MeM w 8 #[dcV t p c, .int .u64 b, .int .i64 z] vw 0)
    (PH : MeM w 10 #[dcV t p c, .int .u64 b, .int .i64 z] vh 0)
    (WK : ∀ W, Below w.heap.size w W → Calls Tryz.prog 13 #[] W fun o w' => o = .returned (.bool true) ∧ Below W.heap.size W w') :
    Calls Tryz.prog 5 #[dcV t p c, .int .u64 b, .int .i64 z] w fun o w' => o = .returned (.bool true) ∧ Below w.heap.size w w' := by
  have NJ := fun W => num_errnoC j W
  have NW := new_any (w.alloc (.cells #[.string t, .int .i64 p, .bool c] 23))
  unfold MeM dcV at *
  simp only [Array.push, List.concat_eq_append, List.cons_append, List.nil_append, Int.add_zero] at PN PS PW PH
  have H0 : Hid (DcB (w.alloc (.cells #[.string t, .int .i64 p, .bool c] 23)) w.heap.size (.string t) (.int .i64 p) (.bool c) ∧ Below w.heap.size w (w.alloc (.cells #[.string t, .int .i64 p, .bool c] 23))) := ⟨DcB.new w _ _ _ _, (Below.refl _ _).alloc (Nat.le_refl _) _⟩
  have sb : ((w.alloc (.cells #[.string t, .int .i64 p, .bool c] 23))).heap.size = w.heap.size + 1 := by simp
  rw [sb] at NW
  clear sb
  go_enter Tryz.func5, Tryz.ntmps5
  go_wp2_with fail
  refine NW.mono ?_
  rintro o w1 ⟨rfl, b1, m1⟩
  have H1 : Hid (DcB w1 w.heap.size (.string t) (.int .i64 p) (.bool c) ∧ Below w.heap.size w w1 ∧ MS w1 (w.heap.size + 1) 0 0 0 0 0) := ⟨H0.out.1.step (by simpa using b1), H0.out.2.trans (b1.mono (by omega)), m1⟩
  clear b1 m1 NW H0
  unfold mV at *
  obtain ⟨_, a0, a1, a2, _, _, _⟩ := H1.out.1
  go_wp2_with fail
  refine (PN _ _ _ _ _ _ H1.out.2.1 (Nat.le_succ _) H1.out.2.2 (by decide) (by decide) (by decide) (by decide)).mono ?_
  rintro o w2 ⟨p2, rfl, q20, q21, m2, b2⟩
  have H2 : Hid (DcB w2 w.heap.size (.string t) (.int .i64 p) (.bool c) ∧ Below w.heap.size w w2 ∧ MS w2 (w.heap.size + 1) 0 p2 0 0 1) := ⟨H1.out.1.but b2 (by omega), H1.out.2.1.trans (b2.bel (Nat.le_succ _) H1.out.2.1.size), m2⟩
  clear b2 m2 H1 PN a0 a1 a2
  obtain ⟨_, a0, a1, a2, _, _, _⟩ := H2.out.1
  have C3 := count_at 3 w2 H2.out.2.2
  have C1 := count_at 1 w2 H2.out.2.2
  have C2 := count_at 2 w2 H2.out.2.2
  have LV := live_at w2 H2.out.2.2
  rw [show cntI 0 0 1 3 = 1 from rfl] at C3
  rw [show cntI 0 0 1 1 = 0 from rfl] at C1
  rw [show cntI 0 0 1 2 = 0 from rfl] at C2
  have p21 : ¬ 1024 < p2 := by omega
  unfold mV at *
  go_wp2_with fail
  refine C3.mono ?_
  rintro o w2 ⟨rfl, rfl⟩
  go_wp2_with fail
  refine LV.mono ?_
  rintro o w3 ⟨rfl, b3⟩
  have H3 : Hid (DcB w3 w.heap.size (.string t) (.int .i64 p) (.bool c) ∧ Below w.heap.size w w3 ∧ MS w3 (w.heap.size + 1) 0 p2 0 0 1) := ⟨H2.out.1.step b3, H2.out.2.1.trans (b3.mono H2.out.2.1.size), H2.out.2.2.step b3⟩
  clear b3 H2 C3 C1 C2 LV a0 a1 a2
  have PK := peak_at w3 H3.out.2.2
  unfold mV at PK
  go_wp2_with fail
  refine PK.mono ?_
  rintro o w4 ⟨rfl, b4⟩
  have H4 : Hid (DcB w4 w.heap.size (.string t) (.int .i64 p) (.bool c) ∧ Below w.heap.size w w4 ∧ MS w4 (w.heap.size + 1) 0 p2 0 0 1) := ⟨H3.out.1.step b4, H3.out.2.1.trans (b4.mono H3.out.2.1.size), H3.out.2.2.step b4⟩
  clear b4 H3 PK
  have C1 := count_at 1 w4 H4.out.2.2
  have C2 := count_at 2 w4 H4.out.2.2
  rw [show cntI 0 0 1 1 = 0 from rfl] at C1
  rw [show cntI 0 0 1 2 = 0 from rfl] at C2
  unfold mV at C1 C2
  obtain ⟨_, a0, a1, a2, _, _, _⟩ := H4.out.1
  go_wp2_with fail
  refine C1.mono ?_
  rintro o w4 ⟨rfl, rfl⟩
  go_wp2_with fail
  refine C2.mono ?_
  rintro o w4 ⟨rfl, rfl⟩
  clear C1 C2
  go_wp2_with fail
  refine (PS _ _ _ _ _ _ H4.out.2.1 (Nat.le_succ _) H4.out.2.2 q20 q21 (by decide) (by decide)).mono ?_
  rintro o w5 ⟨p5, rfl, q50, q51, m5, b5⟩
  have H5 : Hid (DcB w5 w.heap.size (.string t) (.int .i64 p) (.bool c) ∧ Below w.heap.size w w5 ∧ MS w5 (w.heap.size + 1) 0 p5 0 0 1) := ⟨H4.out.1.but b5 (by omega), H4.out.2.1.trans (b5.bel (Nat.le_succ _) H4.out.2.1.size), m5⟩
  clear b5 m5 H4 PS a0 a1 a2 q20 q21 p21
  obtain ⟨_, a0, a1, a2, _, _, _⟩ := H5.out.1
  go_wp2_with fail
  refine (NJ _).mono ?_
  rintro o w5 ⟨rfl, rfl⟩
  go_wp2_with fail
  refine (PW _ _ _ _ _ _ H5.out.2.1 (Nat.le_succ _) H5.out.2.2 q50 q51 (by decide) (by decide)).mono ?_
  rintro o w6 ⟨p6, rfl, q60, q61, m6, b6⟩
  have H6 : Hid (DcB w6 w.heap.size (.string t) (.int .i64 p) (.bool c) ∧ Below w.heap.size w w6 ∧ MS w6 (w.heap.size + 1) 0 p6 0 0 1) := ⟨H5.out.1.but b6 (by omega), H5.out.2.1.trans (b6.bel (Nat.le_succ _) H5.out.2.1.size), m6⟩
  clear b6 m6 H5 PW a0 a1 a2 q50 q51
  obtain ⟨_, a0, a1, a2, _, _, _⟩ := H6.out.1
  go_wp2_with fail
  refine (PH _ _ _ _ _ _ H6.out.2.1 (Nat.le_succ _) H6.out.2.2 q60 q61 (by decide) (by decide)).mono ?_
  rintro o w7 ⟨p7, rfl, q70, q71, m7, b7⟩
  have H7 : Hid (Below w.heap.size w w7 ∧ MS w7 (w.heap.size + 1) 0 p7 0 0 1) := ⟨H6.out.2.1.trans (b7.bel (Nat.le_succ _) H6.out.2.1.size), m7⟩
  clear b7 m7 H6 PH a0 a1 a2 q60 q61
  have C3 := count_at 3 w7 H7.out.2
  have LV := live_at w7 H7.out.2
  rw [show cntI 0 0 1 3 = 1 from rfl] at C3
  unfold mV at C3 LV
  go_wp2_with fail
  refine C3.mono ?_
  rintro o w7 ⟨rfl, rfl⟩
  go_wp2_with fail
  refine LV.mono ?_
  rintro o w8 ⟨rfl, b8⟩
  have H8 : Hid (Below w.heap.size w w8 ∧ MS w8 (w.heap.size + 1) 0 p7 0 0 1) := ⟨H7.out.1.trans (b8.mono H7.out.1.size), H7.out.2.step b8⟩
  clear b8 H7 C3 LV
  have PK := peak_at w8 H8.out.2
  unfold mV at PK
  go_wp2_with fail
  refine PK.mono ?_
  rintro o w9 ⟨rfl, b9⟩
  have H9 : Hid (Below w.heap.size w w9) := H8.out.1.trans (b9.mono H8.out.1.size)
  clear b9 H8 PK
  go_wp2_with fail
  all_goals first | (exfalso; omega) | skip
  refine (WK _ H9.out).mono ?_
  rintro o wa ⟨rfl, ba⟩
  have Ba : Hid (Below w.heap.size w wa) := H9.out.trans (ba.mono H9.out.size)
  clear ba
  go_wp2
  go_ret
  exact ⟨rfl, Ba.out⟩
set_option maxRecDepth 100000 in
set_option maxHeartbeats 2000000 in
theorem counts_fz {t : ByteArray} {p : Int} {c : Bool} {b z x y : Int} {vw vh : Value} {w : World}
    (PN : MeM w 14 #[dcV t p c, .int .i64 z] (.tuple #[.int .u64 x, .iface 74 (.int .i64 4)]) 1)
    (PS : MeM w 16 #[dcV t p c, .int .u64 b, .int .i64 z] (.tuple #[.int .u64 y, .nilIface]) 1)
    (PW : MeM w 8 #[dcV t p c, .int .u64 b, .int .i64 z] vw 0)
    (PH : MeM w 10 #[dcV t p c, .int .u64 b, .int .i64 z] vh 0)
    (WK : ∀ W, Below w.heap.size w W → Calls Tryz.prog 13 #[] W fun o w' => o = .returned (.bool true) ∧ Below W.heap.size W w') :
    Calls Tryz.prog 5 #[dcV t p c, .int .u64 b, .int .i64 z] w fun o w' => o = .returned (.bool true) ∧ Below w.heap.size w w' := by
  have NK := fun W => num_errnoC 4 W
  have NW := new_any (w.alloc (.cells #[.string t, .int .i64 p, .bool c] 23))
  unfold MeM dcV at *
  simp only [Array.push, List.concat_eq_append, List.cons_append, List.nil_append, Int.add_zero] at PN PS PW PH
  have H0 : Hid (DcB (w.alloc (.cells #[.string t, .int .i64 p, .bool c] 23)) w.heap.size (.string t) (.int .i64 p) (.bool c) ∧ Below w.heap.size w (w.alloc (.cells #[.string t, .int .i64 p, .bool c] 23))) := ⟨DcB.new w _ _ _ _, (Below.refl _ _).alloc (Nat.le_refl _) _⟩
  have sb : ((w.alloc (.cells #[.string t, .int .i64 p, .bool c] 23))).heap.size = w.heap.size + 1 := by simp
  rw [sb] at NW
  clear sb
  go_enter Tryz.func5, Tryz.ntmps5
  go_wp2_with fail
  refine NW.mono ?_
  rintro o w1 ⟨rfl, b1, m1⟩
  have H1 : Hid (DcB w1 w.heap.size (.string t) (.int .i64 p) (.bool c) ∧ Below w.heap.size w w1 ∧ MS w1 (w.heap.size + 1) 0 0 0 0 0) := ⟨H0.out.1.step (by simpa using b1), H0.out.2.trans (b1.mono (by omega)), m1⟩
  clear b1 m1 NW H0
  unfold mV at *
  obtain ⟨_, a0, a1, a2, _, _, _⟩ := H1.out.1
  go_wp2_with fail
  refine (PN _ _ _ _ _ _ H1.out.2.1 (Nat.le_succ _) H1.out.2.2 (by decide) (by decide) (by decide) (by decide)).mono ?_
  rintro o w2 ⟨p2, rfl, q20, q21, m2, b2⟩
  have H2 : Hid (DcB w2 w.heap.size (.string t) (.int .i64 p) (.bool c) ∧ Below w.heap.size w w2 ∧ MS w2 (w.heap.size + 1) 0 p2 0 0 1) := ⟨H1.out.1.but b2 (by omega), H1.out.2.1.trans (b2.bel (Nat.le_succ _) H1.out.2.1.size), m2⟩
  clear b2 m2 H1 PN a0 a1 a2
  obtain ⟨_, a0, a1, a2, _, _, _⟩ := H2.out.1
  have C3 := count_at 3 w2 H2.out.2.2
  have C1 := count_at 1 w2 H2.out.2.2
  have C2 := count_at 2 w2 H2.out.2.2
  have LV := live_at w2 H2.out.2.2
  rw [show cntI 0 0 1 3 = 1 from rfl] at C3
  rw [show cntI 0 0 1 1 = 0 from rfl] at C1
  rw [show cntI 0 0 1 2 = 0 from rfl] at C2
  have p21 : ¬ 1024 < p2 := by omega
  unfold mV at *
  go_wp2_with fail
  refine (NK _).mono ?_
  rintro o w2 ⟨rfl, rfl⟩
  go_wp2_with fail
  refine C3.mono ?_
  rintro o w2 ⟨rfl, rfl⟩
  go_wp2_with fail
  refine LV.mono ?_
  rintro o w3 ⟨rfl, b3⟩
  have H3 : Hid (DcB w3 w.heap.size (.string t) (.int .i64 p) (.bool c) ∧ Below w.heap.size w w3 ∧ MS w3 (w.heap.size + 1) 0 p2 0 0 1) := ⟨H2.out.1.step b3, H2.out.2.1.trans (b3.mono H2.out.2.1.size), H2.out.2.2.step b3⟩
  clear b3 H2 C3 C1 C2 LV a0 a1 a2
  have PK := peak_at w3 H3.out.2.2
  unfold mV at PK
  go_wp2_with fail
  refine PK.mono ?_
  rintro o w4 ⟨rfl, b4⟩
  have H4 : Hid (DcB w4 w.heap.size (.string t) (.int .i64 p) (.bool c) ∧ Below w.heap.size w w4 ∧ MS w4 (w.heap.size + 1) 0 p2 0 0 1) := ⟨H3.out.1.step b4, H3.out.2.1.trans (b4.mono H3.out.2.1.size), H3.out.2.2.step b4⟩
  clear b4 H3 PK
  have C1 := count_at 1 w4 H4.out.2.2
  have C2 := count_at 2 w4 H4.out.2.2
  rw [show cntI 0 0 1 1 = 0 from rfl] at C1
  rw [show cntI 0 0 1 2 = 0 from rfl] at C2
  unfold mV at C1 C2
  obtain ⟨_, a0, a1, a2, _, _, _⟩ := H4.out.1
  go_wp2_with fail
  refine C1.mono ?_
  rintro o w4 ⟨rfl, rfl⟩
  go_wp2_with fail
  refine C2.mono ?_
  rintro o w4 ⟨rfl, rfl⟩
  clear C1 C2
  go_wp2_with fail
  refine (PS _ _ _ _ _ _ H4.out.2.1 (Nat.le_succ _) H4.out.2.2 q20 q21 (by decide) (by decide)).mono ?_
  rintro o w5 ⟨p5, rfl, q50, q51, m5, b5⟩
  have H5 : Hid (DcB w5 w.heap.size (.string t) (.int .i64 p) (.bool c) ∧ Below w.heap.size w w5 ∧ MS w5 (w.heap.size + 1) 0 p5 0 0 2) := ⟨H4.out.1.but b5 (by omega), H4.out.2.1.trans (b5.bel (Nat.le_succ _) H4.out.2.1.size), m5⟩
  clear b5 m5 H4 PS a0 a1 a2 q20 q21 p21
  obtain ⟨_, a0, a1, a2, _, _, _⟩ := H5.out.1
  go_wp2_with fail
  refine (PW _ _ _ _ _ _ H5.out.2.1 (Nat.le_succ _) H5.out.2.2 q50 q51 (by decide) (by decide)).mono ?_
  rintro o w6 ⟨p6, rfl, q60, q61, m6, b6⟩
  have H6 : Hid (DcB w6 w.heap.size (.string t) (.int .i64 p) (.bool c) ∧ Below w.heap.size w w6 ∧ MS w6 (w.heap.size + 1) 0 p6 0 0 2) := ⟨H5.out.1.but b6 (by omega), H5.out.2.1.trans (b6.bel (Nat.le_succ _) H5.out.2.1.size), m6⟩
  clear b6 m6 H5 PW a0 a1 a2 q50 q51
  obtain ⟨_, a0, a1, a2, _, _, _⟩ := H6.out.1
  go_wp2_with fail
  refine (PH _ _ _ _ _ _ H6.out.2.1 (Nat.le_succ _) H6.out.2.2 q60 q61 (by decide) (by decide)).mono ?_
  rintro o w7 ⟨p7, rfl, q70, q71, m7, b7⟩
  have H7 : Hid (Below w.heap.size w w7 ∧ MS w7 (w.heap.size + 1) 0 p7 0 0 2) := ⟨H6.out.2.1.trans (b7.bel (Nat.le_succ _) H6.out.2.1.size), m7⟩
  clear b7 m7 H6 PH a0 a1 a2 q60 q61
  have C3 := count_at 3 w7 H7.out.2
  have LV := live_at w7 H7.out.2
  rw [show cntI 0 0 2 3 = 2 from rfl] at C3
  unfold mV at C3 LV
  go_wp2_with fail
  refine C3.mono ?_
  rintro o w7 ⟨rfl, rfl⟩
  go_wp2_with fail
  refine LV.mono ?_
  rintro o w8 ⟨rfl, b8⟩
  have H8 : Hid (Below w.heap.size w w8 ∧ MS w8 (w.heap.size + 1) 0 p7 0 0 2) := ⟨H7.out.1.trans (b8.mono H7.out.1.size), H7.out.2.step b8⟩
  clear b8 H7 C3 LV
  have PK := peak_at w8 H8.out.2
  unfold mV at PK
  go_wp2_with fail
  refine PK.mono ?_
  rintro o w9 ⟨rfl, b9⟩
  have H9 : Hid (Below w.heap.size w w9) := H8.out.1.trans (b9.mono H8.out.1.size)
  clear b9 H8 PK
  go_wp2_with fail
  all_goals first | (exfalso; omega) | skip
  refine (WK _ H9.out).mono ?_
  rintro o wa ⟨rfl, ba⟩
  have Ba : Hid (Below w.heap.size w wa) := H9.out.trans (ba.mono H9.out.size)
  clear ba
  go_wp2
  go_ret
  exact ⟨rfl, Ba.out⟩
set_option maxRecDepth 100000 in
set_option maxHeartbeats 2000000 in
theorem counts_ff {t : ByteArray} {p : Int} {c : Bool} {b z x y : Int} {vw vh : Value} {w : World}
    (PN : MeM w 14 #[dcV t p c, .int .i64 z] (.tuple #[.int .u64 x, .iface 74 (.int .i64 4)]) 1)
    (PS : MeM w 16 #[dcV t p c, .int .u64 b, .int .i64 z] (.tuple #[.int .u64 y, .iface 74 (.int .i64 4)]) 1)
    (PW : MeM w 8 #[dcV t p c, .int .u64 b, .int .i64 z] vw 0)
    (PH : MeM w 10 #[dcV t p c, .int .u64 b, .int .i64 z] vh 0)
    (WK : ∀ W, Below w.heap.size w W → Calls Tryz.prog 13 #[] W fun o w' => o = .returned (.bool true) ∧ Below W.heap.size W w') :
    Calls Tryz.prog 5 #[dcV t p c, .int .u64 b, .int .i64 z] w fun o w' => o = .returned (.bool true) ∧ Below w.heap.size w w' := by
  have NK := fun W => num_errnoC 4 W
  have NJ := fun W => num_errnoC 4 W
  have NW := new_any (w.alloc (.cells #[.string t, .int .i64 p, .bool c] 23))
  unfold MeM dcV at *
  simp only [Array.push, List.concat_eq_append, List.cons_append, List.nil_append, Int.add_zero] at PN PS PW PH
  have H0 : Hid (DcB (w.alloc (.cells #[.string t, .int .i64 p, .bool c] 23)) w.heap.size (.string t) (.int .i64 p) (.bool c) ∧ Below w.heap.size w (w.alloc (.cells #[.string t, .int .i64 p, .bool c] 23))) := ⟨DcB.new w _ _ _ _, (Below.refl _ _).alloc (Nat.le_refl _) _⟩
  have sb : ((w.alloc (.cells #[.string t, .int .i64 p, .bool c] 23))).heap.size = w.heap.size + 1 := by simp
  rw [sb] at NW
  clear sb
  go_enter Tryz.func5, Tryz.ntmps5
  go_wp2_with fail
  refine NW.mono ?_
  rintro o w1 ⟨rfl, b1, m1⟩
  have H1 : Hid (DcB w1 w.heap.size (.string t) (.int .i64 p) (.bool c) ∧ Below w.heap.size w w1 ∧ MS w1 (w.heap.size + 1) 0 0 0 0 0) := ⟨H0.out.1.step (by simpa using b1), H0.out.2.trans (b1.mono (by omega)), m1⟩
  clear b1 m1 NW H0
  unfold mV at *
  obtain ⟨_, a0, a1, a2, _, _, _⟩ := H1.out.1
  go_wp2_with fail
  refine (PN _ _ _ _ _ _ H1.out.2.1 (Nat.le_succ _) H1.out.2.2 (by decide) (by decide) (by decide) (by decide)).mono ?_
  rintro o w2 ⟨p2, rfl, q20, q21, m2, b2⟩
  have H2 : Hid (DcB w2 w.heap.size (.string t) (.int .i64 p) (.bool c) ∧ Below w.heap.size w w2 ∧ MS w2 (w.heap.size + 1) 0 p2 0 0 1) := ⟨H1.out.1.but b2 (by omega), H1.out.2.1.trans (b2.bel (Nat.le_succ _) H1.out.2.1.size), m2⟩
  clear b2 m2 H1 PN a0 a1 a2
  obtain ⟨_, a0, a1, a2, _, _, _⟩ := H2.out.1
  have C3 := count_at 3 w2 H2.out.2.2
  have C1 := count_at 1 w2 H2.out.2.2
  have C2 := count_at 2 w2 H2.out.2.2
  have LV := live_at w2 H2.out.2.2
  rw [show cntI 0 0 1 3 = 1 from rfl] at C3
  rw [show cntI 0 0 1 1 = 0 from rfl] at C1
  rw [show cntI 0 0 1 2 = 0 from rfl] at C2
  have p21 : ¬ 1024 < p2 := by omega
  unfold mV at *
  go_wp2_with fail
  refine (NK _).mono ?_
  rintro o w2 ⟨rfl, rfl⟩
  go_wp2_with fail
  refine C3.mono ?_
  rintro o w2 ⟨rfl, rfl⟩
  go_wp2_with fail
  refine LV.mono ?_
  rintro o w3 ⟨rfl, b3⟩
  have H3 : Hid (DcB w3 w.heap.size (.string t) (.int .i64 p) (.bool c) ∧ Below w.heap.size w w3 ∧ MS w3 (w.heap.size + 1) 0 p2 0 0 1) := ⟨H2.out.1.step b3, H2.out.2.1.trans (b3.mono H2.out.2.1.size), H2.out.2.2.step b3⟩
  clear b3 H2 C3 C1 C2 LV a0 a1 a2
  have PK := peak_at w3 H3.out.2.2
  unfold mV at PK
  go_wp2_with fail
  refine PK.mono ?_
  rintro o w4 ⟨rfl, b4⟩
  have H4 : Hid (DcB w4 w.heap.size (.string t) (.int .i64 p) (.bool c) ∧ Below w.heap.size w w4 ∧ MS w4 (w.heap.size + 1) 0 p2 0 0 1) := ⟨H3.out.1.step b4, H3.out.2.1.trans (b4.mono H3.out.2.1.size), H3.out.2.2.step b4⟩
  clear b4 H3 PK
  have C1 := count_at 1 w4 H4.out.2.2
  have C2 := count_at 2 w4 H4.out.2.2
  rw [show cntI 0 0 1 1 = 0 from rfl] at C1
  rw [show cntI 0 0 1 2 = 0 from rfl] at C2
  unfold mV at C1 C2
  obtain ⟨_, a0, a1, a2, _, _, _⟩ := H4.out.1
  go_wp2_with fail
  refine C1.mono ?_
  rintro o w4 ⟨rfl, rfl⟩
  go_wp2_with fail
  refine C2.mono ?_
  rintro o w4 ⟨rfl, rfl⟩
  clear C1 C2
  go_wp2_with fail
  refine (PS _ _ _ _ _ _ H4.out.2.1 (Nat.le_succ _) H4.out.2.2 q20 q21 (by decide) (by decide)).mono ?_
  rintro o w5 ⟨p5, rfl, q50, q51, m5, b5⟩
  have H5 : Hid (DcB w5 w.heap.size (.string t) (.int .i64 p) (.bool c) ∧ Below w.heap.size w w5 ∧ MS w5 (w.heap.size + 1) 0 p5 0 0 2) := ⟨H4.out.1.but b5 (by omega), H4.out.2.1.trans (b5.bel (Nat.le_succ _) H4.out.2.1.size), m5⟩
  clear b5 m5 H4 PS a0 a1 a2 q20 q21 p21
  obtain ⟨_, a0, a1, a2, _, _, _⟩ := H5.out.1
  go_wp2_with fail
  refine (NJ _).mono ?_
  rintro o w5 ⟨rfl, rfl⟩
  go_wp2_with fail
  refine (PW _ _ _ _ _ _ H5.out.2.1 (Nat.le_succ _) H5.out.2.2 q50 q51 (by decide) (by decide)).mono ?_
  rintro o w6 ⟨p6, rfl, q60, q61, m6, b6⟩
  have H6 : Hid (DcB w6 w.heap.size (.string t) (.int .i64 p) (.bool c) ∧ Below w.heap.size w w6 ∧ MS w6 (w.heap.size + 1) 0 p6 0 0 2) := ⟨H5.out.1.but b6 (by omega), H5.out.2.1.trans (b6.bel (Nat.le_succ _) H5.out.2.1.size), m6⟩
  clear b6 m6 H5 PW a0 a1 a2 q50 q51
  obtain ⟨_, a0, a1, a2, _, _, _⟩ := H6.out.1
  go_wp2_with fail
  refine (PH _ _ _ _ _ _ H6.out.2.1 (Nat.le_succ _) H6.out.2.2 q60 q61 (by decide) (by decide)).mono ?_
  rintro o w7 ⟨p7, rfl, q70, q71, m7, b7⟩
  have H7 : Hid (Below w.heap.size w w7 ∧ MS w7 (w.heap.size + 1) 0 p7 0 0 2) := ⟨H6.out.2.1.trans (b7.bel (Nat.le_succ _) H6.out.2.1.size), m7⟩
  clear b7 m7 H6 PH a0 a1 a2 q60 q61
  have C3 := count_at 3 w7 H7.out.2
  have LV := live_at w7 H7.out.2
  rw [show cntI 0 0 2 3 = 2 from rfl] at C3
  unfold mV at C3 LV
  go_wp2_with fail
  refine C3.mono ?_
  rintro o w7 ⟨rfl, rfl⟩
  go_wp2_with fail
  refine LV.mono ?_
  rintro o w8 ⟨rfl, b8⟩
  have H8 : Hid (Below w.heap.size w w8 ∧ MS w8 (w.heap.size + 1) 0 p7 0 0 2) := ⟨H7.out.1.trans (b8.mono H7.out.1.size), H7.out.2.step b8⟩
  clear b8 H7 C3 LV
  have PK := peak_at w8 H8.out.2
  unfold mV at PK
  go_wp2_with fail
  refine PK.mono ?_
  rintro o w9 ⟨rfl, b9⟩
  have H9 : Hid (Below w.heap.size w w9) := H8.out.1.trans (b9.mono H8.out.1.size)
  clear b9 H8 PK
  go_wp2_with fail
  all_goals first | (exfalso; omega) | skip
  refine (WK _ H9.out).mono ?_
  rintro o wa ⟨rfl, ba⟩
  have Ba : Hid (Below w.heap.size w wa) := H9.out.trans (ba.mono H9.out.size)
  clear ba
  go_wp2
  go_ret
  exact ⟨rfl, Ba.out⟩
set_option maxRecDepth 100000 in
set_option maxHeartbeats 2000000 in
theorem counts_fo {t : ByteArray} {p : Int} {c : Bool} {b z x y j : Int} (j4 : (j == 4) = false) {vw vh : Value} {w : World}
    (PN : MeM w 14 #[dcV t p c, .int .i64 z] (.tuple #[.int .u64 x, .iface 74 (.int .i64 4)]) 1)
    (PS : MeM w 16 #[dcV t p c, .int .u64 b, .int .i64 z] (.tuple #[.int .u64 y, .iface 74 (.int .i64 j)]) 0)
    (PW : MeM w 8 #[dcV t p c, .int .u64 b, .int .i64 z] vw 0)
    (PH : MeM w 10 #[dcV t p c, .int .u64 b, .int .i64 z] vh 0)
    (WK : ∀ W, Below w.heap.size w W → Calls Tryz.prog 13 #[] W fun o w' => o = .returned (.bool true) ∧ Below W.heap.size W w') :
    Calls Tryz.prog 5 #[dcV t p c, .int .u64 b, .int .i64 z] w fun o w' => o = .returned (.bool true) ∧ Below w.heap.size w w' := by
  have NK := fun W => num_errnoC 4 W
  have NJ := fun W => num_errnoC j W
  have NW := new_any (w.alloc (.cells #[.string t, .int .i64 p, .bool c] 23))
  unfold MeM dcV at *
  simp only [Array.push, List.concat_eq_append, List.cons_append, List.nil_append, Int.add_zero] at PN PS PW PH
  have H0 : Hid (DcB (w.alloc (.cells #[.string t, .int .i64 p, .bool c] 23)) w.heap.size (.string t) (.int .i64 p) (.bool c) ∧ Below w.heap.size w (w.alloc (.cells #[.string t, .int .i64 p, .bool c] 23))) := ⟨DcB.new w _ _ _ _, (Below.refl _ _).alloc (Nat.le_refl _) _⟩
  have sb : ((w.alloc (.cells #[.string t, .int .i64 p, .bool c] 23))).heap.size = w.heap.size + 1 := by simp
  rw [sb] at NW
  clear sb
  go_enter Tryz.func5, Tryz.ntmps5
  go_wp2_with fail
  refine NW.mono ?_
  rintro o w1 ⟨rfl, b1, m1⟩
  have H1 : Hid (DcB w1 w.heap.size (.string t) (.int .i64 p) (.bool c) ∧ Below w.heap.size w w1 ∧ MS w1 (w.heap.size + 1) 0 0 0 0 0) := ⟨H0.out.1.step (by simpa using b1), H0.out.2.trans (b1.mono (by omega)), m1⟩
  clear b1 m1 NW H0
  unfold mV at *
  obtain ⟨_, a0, a1, a2, _, _, _⟩ := H1.out.1
  go_wp2_with fail
  refine (PN _ _ _ _ _ _ H1.out.2.1 (Nat.le_succ _) H1.out.2.2 (by decide) (by decide) (by decide) (by decide)).mono ?_
  rintro o w2 ⟨p2, rfl, q20, q21, m2, b2⟩
  have H2 : Hid (DcB w2 w.heap.size (.string t) (.int .i64 p) (.bool c) ∧ Below w.heap.size w w2 ∧ MS w2 (w.heap.size + 1) 0 p2 0 0 1) := ⟨H1.out.1.but b2 (by omega), H1.out.2.1.trans (b2.bel (Nat.le_succ _) H1.out.2.1.size), m2⟩
  clear b2 m2 H1 PN a0 a1 a2
  obtain ⟨_, a0, a1, a2, _, _, _⟩ := H2.out.1
  have C3 := count_at 3 w2 H2.out.2.2
  have C1 := count_at 1 w2 H2.out.2.2
  have C2 := count_at 2 w2 H2.out.2.2
  have LV := live_at w2 H2.out.2.2
  rw [show cntI 0 0 1 3 = 1 from rfl] at C3
  rw [show cntI 0 0 1 1 = 0 from rfl] at C1
  rw [show cntI 0 0 1 2 = 0 from rfl] at C2
  have p21 : ¬ 1024 < p2 := by omega
  unfold mV at *
  go_wp2_with fail
  refine (NK _).mono ?_
  rintro o w2 ⟨rfl, rfl⟩
  go_wp2_with fail
  refine C3.mono ?_
  rintro o w2 ⟨rfl, rfl⟩
  go_wp2_with fail
  refine LV.mono ?_
  rintro o w3 ⟨rfl, b3⟩
  have H3 : Hid (DcB w3 w.heap.size (.string t) (.int .i64 p) (.bool c) ∧ Below w.heap.size w w3 ∧ MS w3 (w.heap.size + 1) 0 p2 0 0 1) := ⟨H2.out.1.step b3, H2.out.2.1.trans (b3.mono H2.out.2.1.size), H2.out.2.2.step b3⟩
  clear b3 H2 C3 C1 C2 LV a0 a1 a2
  have PK := peak_at w3 H3.out.2.2
  unfold mV at PK
  go_wp2_with fail
  refine PK.mono ?_
  rintro o w4 ⟨rfl, b4⟩
  have H4 : Hid (DcB w4 w.heap.size (.string t) (.int .i64 p) (.bool c) ∧ Below w.heap.size w w4 ∧ MS w4 (w.heap.size + 1) 0 p2 0 0 1) := ⟨H3.out.1.step b4, H3.out.2.1.trans (b4.mono H3.out.2.1.size), H3.out.2.2.step b4⟩
  clear b4 H3 PK
  have C1 := count_at 1 w4 H4.out.2.2
  have C2 := count_at 2 w4 H4.out.2.2
  rw [show cntI 0 0 1 1 = 0 from rfl] at C1
  rw [show cntI 0 0 1 2 = 0 from rfl] at C2
  unfold mV at C1 C2
  obtain ⟨_, a0, a1, a2, _, _, _⟩ := H4.out.1
  go_wp2_with fail
  refine C1.mono ?_
  rintro o w4 ⟨rfl, rfl⟩
  go_wp2_with fail
  refine C2.mono ?_
  rintro o w4 ⟨rfl, rfl⟩
  clear C1 C2
  go_wp2_with fail
  refine (PS _ _ _ _ _ _ H4.out.2.1 (Nat.le_succ _) H4.out.2.2 q20 q21 (by decide) (by decide)).mono ?_
  rintro o w5 ⟨p5, rfl, q50, q51, m5, b5⟩
  have H5 : Hid (DcB w5 w.heap.size (.string t) (.int .i64 p) (.bool c) ∧ Below w.heap.size w w5 ∧ MS w5 (w.heap.size + 1) 0 p5 0 0 1) := ⟨H4.out.1.but b5 (by omega), H4.out.2.1.trans (b5.bel (Nat.le_succ _) H4.out.2.1.size), m5⟩
  clear b5 m5 H4 PS a0 a1 a2 q20 q21 p21
  obtain ⟨_, a0, a1, a2, _, _, _⟩ := H5.out.1
  go_wp2_with fail
  refine (NJ _).mono ?_
  rintro o w5 ⟨rfl, rfl⟩
  go_wp2_with fail
  refine (PW _ _ _ _ _ _ H5.out.2.1 (Nat.le_succ _) H5.out.2.2 q50 q51 (by decide) (by decide)).mono ?_
  rintro o w6 ⟨p6, rfl, q60, q61, m6, b6⟩
  have H6 : Hid (DcB w6 w.heap.size (.string t) (.int .i64 p) (.bool c) ∧ Below w.heap.size w w6 ∧ MS w6 (w.heap.size + 1) 0 p6 0 0 1) := ⟨H5.out.1.but b6 (by omega), H5.out.2.1.trans (b6.bel (Nat.le_succ _) H5.out.2.1.size), m6⟩
  clear b6 m6 H5 PW a0 a1 a2 q50 q51
  obtain ⟨_, a0, a1, a2, _, _, _⟩ := H6.out.1
  go_wp2_with fail
  refine (PH _ _ _ _ _ _ H6.out.2.1 (Nat.le_succ _) H6.out.2.2 q60 q61 (by decide) (by decide)).mono ?_
  rintro o w7 ⟨p7, rfl, q70, q71, m7, b7⟩
  have H7 : Hid (Below w.heap.size w w7 ∧ MS w7 (w.heap.size + 1) 0 p7 0 0 1) := ⟨H6.out.2.1.trans (b7.bel (Nat.le_succ _) H6.out.2.1.size), m7⟩
  clear b7 m7 H6 PH a0 a1 a2 q60 q61
  have C3 := count_at 3 w7 H7.out.2
  have LV := live_at w7 H7.out.2
  rw [show cntI 0 0 1 3 = 1 from rfl] at C3
  unfold mV at C3 LV
  go_wp2_with fail
  refine C3.mono ?_
  rintro o w7 ⟨rfl, rfl⟩
  go_wp2_with fail
  refine LV.mono ?_
  rintro o w8 ⟨rfl, b8⟩
  have H8 : Hid (Below w.heap.size w w8 ∧ MS w8 (w.heap.size + 1) 0 p7 0 0 1) := ⟨H7.out.1.trans (b8.mono H7.out.1.size), H7.out.2.step b8⟩
  clear b8 H7 C3 LV
  have PK := peak_at w8 H8.out.2
  unfold mV at PK
  go_wp2_with fail
  refine PK.mono ?_
  rintro o w9 ⟨rfl, b9⟩
  have H9 : Hid (Below w.heap.size w w9) := H8.out.1.trans (b9.mono H8.out.1.size)
  clear b9 H8 PK
  go_wp2_with fail
  all_goals first | (exfalso; omega) | skip
  refine (WK _ H9.out).mono ?_
  rintro o wa ⟨rfl, ba⟩
  have Ba : Hid (Below w.heap.size w wa) := H9.out.trans (ba.mono H9.out.size)
  clear ba
  go_wp2
  go_ret
  exact ⟨rfl, Ba.out⟩
set_option maxRecDepth 100000 in
set_option maxHeartbeats 2000000 in
theorem counts_oz {t : ByteArray} {p : Int} {c : Bool} {b z x y k : Int} (k4 : (k == 4) = false) {vw vh : Value} {w : World}
    (PN : MeM w 14 #[dcV t p c, .int .i64 z] (.tuple #[.int .u64 x, .iface 74 (.int .i64 k)]) 0)
    (PS : MeM w 16 #[dcV t p c, .int .u64 b, .int .i64 z] (.tuple #[.int .u64 y, .nilIface]) 1)
    (PW : MeM w 8 #[dcV t p c, .int .u64 b, .int .i64 z] vw 0)
    (PH : MeM w 10 #[dcV t p c, .int .u64 b, .int .i64 z] vh 0)
    (WK : ∀ W, Below w.heap.size w W → Calls Tryz.prog 13 #[] W fun o w' => o = .returned (.bool true) ∧ Below W.heap.size W w') :
    Calls Tryz.prog 5 #[dcV t p c, .int .u64 b, .int .i64 z] w fun o w' => o = .returned (.bool true) ∧ Below w.heap.size w w' := by
  have NK := fun W => num_errnoC k W
  have NW := new_any (w.alloc (.cells #[.string t, .int .i64 p, .bool c] 23))
  unfold MeM dcV at *
  simp only [Array.push, List.concat_eq_append, List.cons_append, List.nil_append, Int.add_zero] at PN PS PW PH
  have H0 : Hid (DcB (w.alloc (.cells #[.string t, .int .i64 p, .bool c] 23)) w.heap.size (.string t) (.int .i64 p) (.bool c) ∧ Below w.heap.size w (w.alloc (.cells #[.string t, .int .i64 p, .bool c] 23))) := ⟨DcB.new w _ _ _ _, (Below.refl _ _).alloc (Nat.le_refl _) _⟩
  have sb : ((w.alloc (.cells #[.string t, .int .i64 p, .bool c] 23))).heap.size = w.heap.size + 1 := by simp
  rw [sb] at NW
  clear sb
  go_enter Tryz.func5, Tryz.ntmps5
  go_wp2_with fail
  refine NW.mono ?_
  rintro o w1 ⟨rfl, b1, m1⟩
  have H1 : Hid (DcB w1 w.heap.size (.string t) (.int .i64 p) (.bool c) ∧ Below w.heap.size w w1 ∧ MS w1 (w.heap.size + 1) 0 0 0 0 0) := ⟨H0.out.1.step (by simpa using b1), H0.out.2.trans (b1.mono (by omega)), m1⟩
  clear b1 m1 NW H0
  unfold mV at *
  obtain ⟨_, a0, a1, a2, _, _, _⟩ := H1.out.1
  go_wp2_with fail
  refine (PN _ _ _ _ _ _ H1.out.2.1 (Nat.le_succ _) H1.out.2.2 (by decide) (by decide) (by decide) (by decide)).mono ?_
  rintro o w2 ⟨p2, rfl, q20, q21, m2, b2⟩
  have H2 : Hid (DcB w2 w.heap.size (.string t) (.int .i64 p) (.bool c) ∧ Below w.heap.size w w2 ∧ MS w2 (w.heap.size + 1) 0 p2 0 0 0) := ⟨H1.out.1.but b2 (by omega), H1.out.2.1.trans (b2.bel (Nat.le_succ _) H1.out.2.1.size), m2⟩
  clear b2 m2 H1 PN a0 a1 a2
  obtain ⟨_, a0, a1, a2, _, _, _⟩ := H2.out.1
  have C3 := count_at 3 w2 H2.out.2.2
  have C1 := count_at 1 w2 H2.out.2.2
  have C2 := count_at 2 w2 H2.out.2.2
  have LV := live_at w2 H2.out.2.2
  rw [show cntI 0 0 0 3 = 0 from rfl] at C3
  rw [show cntI 0 0 0 1 = 0 from rfl] at C1
  rw [show cntI 0 0 0 2 = 0 from rfl] at C2
  have p21 : ¬ 1024 < p2 := by omega
  unfold mV at *
  go_wp2_with fail
  refine (NK _).mono ?_
  rintro o w2 ⟨rfl, rfl⟩
  go_wp2_with fail
  refine C3.mono ?_
  rintro o w2 ⟨rfl, rfl⟩
  go_wp2_with fail
  refine LV.mono ?_
  rintro o w3 ⟨rfl, b3⟩
  have H3 : Hid (DcB w3 w.heap.size (.string t) (.int .i64 p) (.bool c) ∧ Below w.heap.size w w3 ∧ MS w3 (w.heap.size + 1) 0 p2 0 0 0) := ⟨H2.out.1.step b3, H2.out.2.1.trans (b3.mono H2.out.2.1.size), H2.out.2.2.step b3⟩
  clear b3 H2 C3 C1 C2 LV a0 a1 a2
  have PK := peak_at w3 H3.out.2.2
  unfold mV at PK
  go_wp2_with fail
  refine PK.mono ?_
  rintro o w4 ⟨rfl, b4⟩
  have H4 : Hid (DcB w4 w.heap.size (.string t) (.int .i64 p) (.bool c) ∧ Below w.heap.size w w4 ∧ MS w4 (w.heap.size + 1) 0 p2 0 0 0) := ⟨H3.out.1.step b4, H3.out.2.1.trans (b4.mono H3.out.2.1.size), H3.out.2.2.step b4⟩
  clear b4 H3 PK
  have C1 := count_at 1 w4 H4.out.2.2
  have C2 := count_at 2 w4 H4.out.2.2
  rw [show cntI 0 0 0 1 = 0 from rfl] at C1
  rw [show cntI 0 0 0 2 = 0 from rfl] at C2
  unfold mV at C1 C2
  obtain ⟨_, a0, a1, a2, _, _, _⟩ := H4.out.1
  go_wp2_with fail
  refine C1.mono ?_
  rintro o w4 ⟨rfl, rfl⟩
  go_wp2_with fail
  refine C2.mono ?_
  rintro o w4 ⟨rfl, rfl⟩
  clear C1 C2
  go_wp2_with fail
  refine (PS _ _ _ _ _ _ H4.out.2.1 (Nat.le_succ _) H4.out.2.2 q20 q21 (by decide) (by decide)).mono ?_
  rintro o w5 ⟨p5, rfl, q50, q51, m5, b5⟩
  have H5 : Hid (DcB w5 w.heap.size (.string t) (.int .i64 p) (.bool c) ∧ Below w.heap.size w w5 ∧ MS w5 (w.heap.size + 1) 0 p5 0 0 1) := ⟨H4.out.1.but b5 (by omega), H4.out.2.1.trans (b5.bel (Nat.le_succ _) H4.out.2.1.size), m5⟩
  clear b5 m5 H4 PS a0 a1 a2 q20 q21 p21
  obtain ⟨_, a0, a1, a2, _, _, _⟩ := H5.out.1
  go_wp2_with fail
  refine (PW _ _ _ _ _ _ H5.out.2.1 (Nat.le_succ _) H5.out.2.2 q50 q51 (by decide) (by decide)).mono ?_
  rintro o w6 ⟨p6, rfl, q60, q61, m6, b6⟩
  have H6 : Hid (DcB w6 w.heap.size (.string t) (.int .i64 p) (.bool c) ∧ Below w.heap.size w w6 ∧ MS w6 (w.heap.size + 1) 0 p6 0 0 1) := ⟨H5.out.1.but b6 (by omega), H5.out.2.1.trans (b6.bel (Nat.le_succ _) H5.out.2.1.size), m6⟩
  clear b6 m6 H5 PW a0 a1 a2 q50 q51
  obtain ⟨_, a0, a1, a2, _, _, _⟩ := H6.out.1
  go_wp2_with fail
  refine (PH _ _ _ _ _ _ H6.out.2.1 (Nat.le_succ _) H6.out.2.2 q60 q61 (by decide) (by decide)).mono ?_
  rintro o w7 ⟨p7, rfl, q70, q71, m7, b7⟩
  have H7 : Hid (Below w.heap.size w w7 ∧ MS w7 (w.heap.size + 1) 0 p7 0 0 1) := ⟨H6.out.2.1.trans (b7.bel (Nat.le_succ _) H6.out.2.1.size), m7⟩
  clear b7 m7 H6 PH a0 a1 a2 q60 q61
  have C3 := count_at 3 w7 H7.out.2
  have LV := live_at w7 H7.out.2
  rw [show cntI 0 0 1 3 = 1 from rfl] at C3
  unfold mV at C3 LV
  go_wp2_with fail
  refine C3.mono ?_
  rintro o w7 ⟨rfl, rfl⟩
  go_wp2_with fail
  refine LV.mono ?_
  rintro o w8 ⟨rfl, b8⟩
  have H8 : Hid (Below w.heap.size w w8 ∧ MS w8 (w.heap.size + 1) 0 p7 0 0 1) := ⟨H7.out.1.trans (b8.mono H7.out.1.size), H7.out.2.step b8⟩
  clear b8 H7 C3 LV
  have PK := peak_at w8 H8.out.2
  unfold mV at PK
  go_wp2_with fail
  refine PK.mono ?_
  rintro o w9 ⟨rfl, b9⟩
  have H9 : Hid (Below w.heap.size w w9) := H8.out.1.trans (b9.mono H8.out.1.size)
  clear b9 H8 PK
  go_wp2_with fail
  all_goals first | (exfalso; omega) | skip
  refine (WK _ H9.out).mono ?_
  rintro o wa ⟨rfl, ba⟩
  have Ba : Hid (Below w.heap.size w wa) := H9.out.trans (ba.mono H9.out.size)
  clear ba
  go_wp2
  go_ret
  exact ⟨rfl, Ba.out⟩
set_option maxRecDepth 100000 in
set_option maxHeartbeats 2000000 in
theorem counts_of {t : ByteArray} {p : Int} {c : Bool} {b z x y k : Int} (k4 : (k == 4) = false) {vw vh : Value} {w : World}
    (PN : MeM w 14 #[dcV t p c, .int .i64 z] (.tuple #[.int .u64 x, .iface 74 (.int .i64 k)]) 0)
    (PS : MeM w 16 #[dcV t p c, .int .u64 b, .int .i64 z] (.tuple #[.int .u64 y, .iface 74 (.int .i64 4)]) 1)
    (PW : MeM w 8 #[dcV t p c, .int .u64 b, .int .i64 z] vw 0)
    (PH : MeM w 10 #[dcV t p c, .int .u64 b, .int .i64 z] vh 0)
    (WK : ∀ W, Below w.heap.size w W → Calls Tryz.prog 13 #[] W fun o w' => o = .returned (.bool true) ∧ Below W.heap.size W w') :
    Calls Tryz.prog 5 #[dcV t p c, .int .u64 b, .int .i64 z] w fun o w' => o = .returned (.bool true) ∧ Below w.heap.size w w' := by
  have NK := fun W => num_errnoC k W
  have NJ := fun W => num_errnoC 4 W
  have NW := new_any (w.alloc (.cells #[.string t, .int .i64 p, .bool c] 23))
  unfold MeM dcV at *
  simp only [Array.push, List.concat_eq_append, List.cons_append, List.nil_append, Int.add_zero] at PN PS PW PH
  have H0 : Hid (DcB (w.alloc (.cells #[.string t, .int .i64 p, .bool c] 23)) w.heap.size (.string t) (.int .i64 p) (.bool c) ∧ Below w.heap.size w (w.alloc (.cells #[.string t, .int .i64 p, .bool c] 23))) := ⟨DcB.new w _ _ _ _, (Below.refl _ _).alloc (Nat.le_refl _) _⟩
  have sb : ((w.alloc (.cells #[.string t, .int .i64 p, .bool c] 23))).heap.size = w.heap.size + 1 := by simp
  rw [sb] at NW
  clear sb
  go_enter Tryz.func5, Tryz.ntmps5
  go_wp2_with fail
  refine NW.mono ?_
  rintro o w1 ⟨rfl, b1, m1⟩
  have H1 : Hid (DcB w1 w.heap.size (.string t) (.int .i64 p) (.bool c) ∧ Below w.heap.size w w1 ∧ MS w1 (w.heap.size + 1) 0 0 0 0 0) := ⟨H0.out.1.step (by simpa using b1), H0.out.2.trans (b1.mono (by omega)), m1⟩
  clear b1 m1 NW H0
  unfold mV at *
  obtain ⟨_, a0, a1, a2, _, _, _⟩ := H1.out.1
  go_wp2_with fail
  refine (PN _ _ _ _ _ _ H1.out.2.1 (Nat.le_succ _) H1.out.2.2 (by decide) (by decide) (by decide) (by decide)).mono ?_
  rintro o w2 ⟨p2, rfl, q20, q21, m2, b2⟩
  have H2 : Hid (DcB w2 w.heap.size (.string t) (.int .i64 p) (.bool c) ∧ Below w.heap.size w w2 ∧ MS w2 (w.heap.size + 1) 0 p2 0 0 0) := ⟨H1.out.1.but b2 (by omega), H1.out.2.1.trans (b2.bel (Nat.le_succ _) H1.out.2.1.size), m2⟩
  clear b2 m2 H1 PN a0 a1 a2
  obtain ⟨_, a0, a1, a2, _, _, _⟩ := H2.out.1
  have C3 := count_at 3 w2 H2.out.2.2
  have C1 := count_at 1 w2 H2.out.2.2
  have C2 := count_at 2 w2 H2.out.2.2
  have LV := live_at w2 H2.out.2.2
  rw [show cntI 0 0 0 3 = 0 from rfl] at C3
  rw [show cntI 0 0 0 1 = 0 from rfl] at C1
  rw [show cntI 0 0 0 2 = 0 from rfl] at C2
  have p21 : ¬ 1024 < p2 := by omega
  unfold mV at *
  go_wp2_with fail
  refine (NK _).mono ?_
  rintro o w2 ⟨rfl, rfl⟩
  go_wp2_with fail
  refine C3.mono ?_
  rintro o w2 ⟨rfl, rfl⟩
  go_wp2_with fail
  refine LV.mono ?_
  rintro o w3 ⟨rfl, b3⟩
  have H3 : Hid (DcB w3 w.heap.size (.string t) (.int .i64 p) (.bool c) ∧ Below w.heap.size w w3 ∧ MS w3 (w.heap.size + 1) 0 p2 0 0 0) := ⟨H2.out.1.step b3, H2.out.2.1.trans (b3.mono H2.out.2.1.size), H2.out.2.2.step b3⟩
  clear b3 H2 C3 C1 C2 LV a0 a1 a2
  have PK := peak_at w3 H3.out.2.2
  unfold mV at PK
  go_wp2_with fail
  refine PK.mono ?_
  rintro o w4 ⟨rfl, b4⟩
  have H4 : Hid (DcB w4 w.heap.size (.string t) (.int .i64 p) (.bool c) ∧ Below w.heap.size w w4 ∧ MS w4 (w.heap.size + 1) 0 p2 0 0 0) := ⟨H3.out.1.step b4, H3.out.2.1.trans (b4.mono H3.out.2.1.size), H3.out.2.2.step b4⟩
  clear b4 H3 PK
  have C1 := count_at 1 w4 H4.out.2.2
  have C2 := count_at 2 w4 H4.out.2.2
  rw [show cntI 0 0 0 1 = 0 from rfl] at C1
  rw [show cntI 0 0 0 2 = 0 from rfl] at C2
  unfold mV at C1 C2
  obtain ⟨_, a0, a1, a2, _, _, _⟩ := H4.out.1
  go_wp2_with fail
  refine C1.mono ?_
  rintro o w4 ⟨rfl, rfl⟩
  go_wp2_with fail
  refine C2.mono ?_
  rintro o w4 ⟨rfl, rfl⟩
  clear C1 C2
  go_wp2_with fail
  refine (PS _ _ _ _ _ _ H4.out.2.1 (Nat.le_succ _) H4.out.2.2 q20 q21 (by decide) (by decide)).mono ?_
  rintro o w5 ⟨p5, rfl, q50, q51, m5, b5⟩
  have H5 : Hid (DcB w5 w.heap.size (.string t) (.int .i64 p) (.bool c) ∧ Below w.heap.size w w5 ∧ MS w5 (w.heap.size + 1) 0 p5 0 0 1) := ⟨H4.out.1.but b5 (by omega), H4.out.2.1.trans (b5.bel (Nat.le_succ _) H4.out.2.1.size), m5⟩
  clear b5 m5 H4 PS a0 a1 a2 q20 q21 p21
  obtain ⟨_, a0, a1, a2, _, _, _⟩ := H5.out.1
  go_wp2_with fail
  refine (NJ _).mono ?_
  rintro o w5 ⟨rfl, rfl⟩
  go_wp2_with fail
  refine (PW _ _ _ _ _ _ H5.out.2.1 (Nat.le_succ _) H5.out.2.2 q50 q51 (by decide) (by decide)).mono ?_
  rintro o w6 ⟨p6, rfl, q60, q61, m6, b6⟩
  have H6 : Hid (DcB w6 w.heap.size (.string t) (.int .i64 p) (.bool c) ∧ Below w.heap.size w w6 ∧ MS w6 (w.heap.size + 1) 0 p6 0 0 1) := ⟨H5.out.1.but b6 (by omega), H5.out.2.1.trans (b6.bel (Nat.le_succ _) H5.out.2.1.size), m6⟩
  clear b6 m6 H5 PW a0 a1 a2 q50 q51
  obtain ⟨_, a0, a1, a2, _, _, _⟩ := H6.out.1
  go_wp2_with fail
  refine (PH _ _ _ _ _ _ H6.out.2.1 (Nat.le_succ _) H6.out.2.2 q60 q61 (by decide) (by decide)).mono ?_
  rintro o w7 ⟨p7, rfl, q70, q71, m7, b7⟩
  have H7 : Hid (Below w.heap.size w w7 ∧ MS w7 (w.heap.size + 1) 0 p7 0 0 1) := ⟨H6.out.2.1.trans (b7.bel (Nat.le_succ _) H6.out.2.1.size), m7⟩
  clear b7 m7 H6 PH a0 a1 a2 q60 q61
  have C3 := count_at 3 w7 H7.out.2
  have LV := live_at w7 H7.out.2
  rw [show cntI 0 0 1 3 = 1 from rfl] at C3
  unfold mV at C3 LV
  go_wp2_with fail
  refine C3.mono ?_
  rintro o w7 ⟨rfl, rfl⟩
  go_wp2_with fail
  refine LV.mono ?_
  rintro o w8 ⟨rfl, b8⟩
  have H8 : Hid (Below w.heap.size w w8 ∧ MS w8 (w.heap.size + 1) 0 p7 0 0 1) := ⟨H7.out.1.trans (b8.mono H7.out.1.size), H7.out.2.step b8⟩
  clear b8 H7 C3 LV
  have PK := peak_at w8 H8.out.2
  unfold mV at PK
  go_wp2_with fail
  refine PK.mono ?_
  rintro o w9 ⟨rfl, b9⟩
  have H9 : Hid (Below w.heap.size w w9) := H8.out.1.trans (b9.mono H8.out.1.size)
  clear b9 H8 PK
  go_wp2_with fail
  all_goals first | (exfalso; omega) | skip
  refine (WK _ H9.out).mono ?_
  rintro o wa ⟨rfl, ba⟩
  have Ba : Hid (Below w.heap.size w wa) := H9.out.trans (ba.mono H9.out.size)
  clear ba
  go_wp2
  go_ret
  exact ⟨rfl, Ba.out⟩
set_option maxRecDepth 100000 in
set_option maxHeartbeats 2000000 in
theorem counts_oo {t : ByteArray} {p : Int} {c : Bool} {b z x y k j : Int} (k4 : (k == 4) = false) (j4 : (j == 4) = false) {vw vh : Value} {w : World}
    (PN : MeM w 14 #[dcV t p c, .int .i64 z] (.tuple #[.int .u64 x, .iface 74 (.int .i64 k)]) 0)
    (PS : MeM w 16 #[dcV t p c, .int .u64 b, .int .i64 z] (.tuple #[.int .u64 y, .iface 74 (.int .i64 j)]) 0)
    (PW : MeM w 8 #[dcV t p c, .int .u64 b, .int .i64 z] vw 0)
    (PH : MeM w 10 #[dcV t p c, .int .u64 b, .int .i64 z] vh 0)
    (WK : ∀ W, Below w.heap.size w W → Calls Tryz.prog 13 #[] W fun o w' => o = .returned (.bool true) ∧ Below W.heap.size W w') :
    Calls Tryz.prog 5 #[dcV t p c, .int .u64 b, .int .i64 z] w fun o w' => o = .returned (.bool true) ∧ Below w.heap.size w w' := by
  have NK := fun W => num_errnoC k W
  have NJ := fun W => num_errnoC j W
  have NW := new_any (w.alloc (.cells #[.string t, .int .i64 p, .bool c] 23))
  unfold MeM dcV at *
  simp only [Array.push, List.concat_eq_append, List.cons_append, List.nil_append, Int.add_zero] at PN PS PW PH
  have H0 : Hid (DcB (w.alloc (.cells #[.string t, .int .i64 p, .bool c] 23)) w.heap.size (.string t) (.int .i64 p) (.bool c) ∧ Below w.heap.size w (w.alloc (.cells #[.string t, .int .i64 p, .bool c] 23))) := ⟨DcB.new w _ _ _ _, (Below.refl _ _).alloc (Nat.le_refl _) _⟩
  have sb : ((w.alloc (.cells #[.string t, .int .i64 p, .bool c] 23))).heap.size = w.heap.size + 1 := by simp
  rw [sb] at NW
  clear sb
  go_enter Tryz.func5, Tryz.ntmps5
  go_wp2_with fail
  refine NW.mono ?_
  rintro o w1 ⟨rfl, b1, m1⟩
  have H1 : Hid (DcB w1 w.heap.size (.string t) (.int .i64 p) (.bool c) ∧ Below w.heap.size w w1 ∧ MS w1 (w.heap.size + 1) 0 0 0 0 0) := ⟨H0.out.1.step (by simpa using b1), H0.out.2.trans (b1.mono (by omega)), m1⟩
  clear b1 m1 NW H0
  unfold mV at *
  obtain ⟨_, a0, a1, a2, _, _, _⟩ := H1.out.1
  go_wp2_with fail
  refine (PN _ _ _ _ _ _ H1.out.2.1 (Nat.le_succ _) H1.out.2.2 (by decide) (by decide) (by decide) (by decide)).mono ?_
  rintro o w2 ⟨p2, rfl, q20, q21, m2, b2⟩
  have H2 : Hid (DcB w2 w.heap.size (.string t) (.int .i64 p) (.bool c) ∧ Below w.heap.size w w2 ∧ MS w2 (w.heap.size + 1) 0 p2 0 0 0) := ⟨H1.out.1.but b2 (by omega), H1.out.2.1.trans (b2.bel (Nat.le_succ _) H1.out.2.1.size), m2⟩
  clear b2 m2 H1 PN a0 a1 a2
  obtain ⟨_, a0, a1, a2, _, _, _⟩ := H2.out.1
  have C3 := count_at 3 w2 H2.out.2.2
  have C1 := count_at 1 w2 H2.out.2.2
  have C2 := count_at 2 w2 H2.out.2.2
  have LV := live_at w2 H2.out.2.2
  rw [show cntI 0 0 0 3 = 0 from rfl] at C3
  rw [show cntI 0 0 0 1 = 0 from rfl] at C1
  rw [show cntI 0 0 0 2 = 0 from rfl] at C2
  have p21 : ¬ 1024 < p2 := by omega
  unfold mV at *
  go_wp2_with fail
  refine (NK _).mono ?_
  rintro o w2 ⟨rfl, rfl⟩
  go_wp2_with fail
  refine C3.mono ?_
  rintro o w2 ⟨rfl, rfl⟩
  go_wp2_with fail
  refine LV.mono ?_
  rintro o w3 ⟨rfl, b3⟩
  have H3 : Hid (DcB w3 w.heap.size (.string t) (.int .i64 p) (.bool c) ∧ Below w.heap.size w w3 ∧ MS w3 (w.heap.size + 1) 0 p2 0 0 0) := ⟨H2.out.1.step b3, H2.out.2.1.trans (b3.mono H2.out.2.1.size), H2.out.2.2.step b3⟩
  clear b3 H2 C3 C1 C2 LV a0 a1 a2
  have PK := peak_at w3 H3.out.2.2
  unfold mV at PK
  go_wp2_with fail
  refine PK.mono ?_
  rintro o w4 ⟨rfl, b4⟩
  have H4 : Hid (DcB w4 w.heap.size (.string t) (.int .i64 p) (.bool c) ∧ Below w.heap.size w w4 ∧ MS w4 (w.heap.size + 1) 0 p2 0 0 0) := ⟨H3.out.1.step b4, H3.out.2.1.trans (b4.mono H3.out.2.1.size), H3.out.2.2.step b4⟩
  clear b4 H3 PK
  have C1 := count_at 1 w4 H4.out.2.2
  have C2 := count_at 2 w4 H4.out.2.2
  rw [show cntI 0 0 0 1 = 0 from rfl] at C1
  rw [show cntI 0 0 0 2 = 0 from rfl] at C2
  unfold mV at C1 C2
  obtain ⟨_, a0, a1, a2, _, _, _⟩ := H4.out.1
  go_wp2_with fail
  refine C1.mono ?_
  rintro o w4 ⟨rfl, rfl⟩
  go_wp2_with fail
  refine C2.mono ?_
  rintro o w4 ⟨rfl, rfl⟩
  clear C1 C2
  go_wp2_with fail
  refine (PS _ _ _ _ _ _ H4.out.2.1 (Nat.le_succ _) H4.out.2.2 q20 q21 (by decide) (by decide)).mono ?_
  rintro o w5 ⟨p5, rfl, q50, q51, m5, b5⟩
  have H5 : Hid (DcB w5 w.heap.size (.string t) (.int .i64 p) (.bool c) ∧ Below w.heap.size w w5 ∧ MS w5 (w.heap.size + 1) 0 p5 0 0 0) := ⟨H4.out.1.but b5 (by omega), H4.out.2.1.trans (b5.bel (Nat.le_succ _) H4.out.2.1.size), m5⟩
  clear b5 m5 H4 PS a0 a1 a2 q20 q21 p21
  obtain ⟨_, a0, a1, a2, _, _, _⟩ := H5.out.1
  go_wp2_with fail
  refine (NJ _).mono ?_
  rintro o w5 ⟨rfl, rfl⟩
  go_wp2_with fail
  refine (PW _ _ _ _ _ _ H5.out.2.1 (Nat.le_succ _) H5.out.2.2 q50 q51 (by decide) (by decide)).mono ?_
  rintro o w6 ⟨p6, rfl, q60, q61, m6, b6⟩
  have H6 : Hid (DcB w6 w.heap.size (.string t) (.int .i64 p) (.bool c) ∧ Below w.heap.size w w6 ∧ MS w6 (w.heap.size + 1) 0 p6 0 0 0) := ⟨H5.out.1.but b6 (by omega), H5.out.2.1.trans (b6.bel (Nat.le_succ _) H5.out.2.1.size), m6⟩
  clear b6 m6 H5 PW a0 a1 a2 q50 q51
  obtain ⟨_, a0, a1, a2, _, _, _⟩ := H6.out.1
  go_wp2_with fail
  refine (PH _ _ _ _ _ _ H6.out.2.1 (Nat.le_succ _) H6.out.2.2 q60 q61 (by decide) (by decide)).mono ?_
  rintro o w7 ⟨p7, rfl, q70, q71, m7, b7⟩
  have H7 : Hid (Below w.heap.size w w7 ∧ MS w7 (w.heap.size + 1) 0 p7 0 0 0) := ⟨H6.out.2.1.trans (b7.bel (Nat.le_succ _) H6.out.2.1.size), m7⟩
  clear b7 m7 H6 PH a0 a1 a2 q60 q61
  have C3 := count_at 3 w7 H7.out.2
  have LV := live_at w7 H7.out.2
  rw [show cntI 0 0 0 3 = 0 from rfl] at C3
  unfold mV at C3 LV
  go_wp2_with fail
  refine C3.mono ?_
  rintro o w7 ⟨rfl, rfl⟩
  go_wp2_with fail
  refine LV.mono ?_
  rintro o w8 ⟨rfl, b8⟩
  have H8 : Hid (Below w.heap.size w w8 ∧ MS w8 (w.heap.size + 1) 0 p7 0 0 0) := ⟨H7.out.1.trans (b8.mono H7.out.1.size), H7.out.2.step b8⟩
  clear b8 H7 C3 LV
  have PK := peak_at w8 H8.out.2
  unfold mV at PK
  go_wp2_with fail
  refine PK.mono ?_
  rintro o w9 ⟨rfl, b9⟩
  have H9 : Hid (Below w.heap.size w w9) := H8.out.1.trans (b9.mono H8.out.1.size)
  clear b9 H8 PK
  go_wp2_with fail
  all_goals first | (exfalso; omega) | skip
  refine (WK _ H9.out).mono ?_
  rintro o wa ⟨rfl, ba⟩
  have Ba : Hid (Below w.heap.size w wa) := H9.out.trans (ba.mono H9.out.size)
  clear ba
  go_wp2
  go_ret
  exact ⟨rfl, Ba.out⟩
theorem law_counts16 {t : ByteArray} {p : Int} {c : Bool} {b z x y k j : Int} {vw vh : Value} {w : World}
    (PN : MeM w 14 #[dcV t p c, .int .i64 z] (.tuple #[.int .u64 x, erC k]) (cnN k))
    (PS : MeM w 16 #[dcV t p c, .int .u64 b, .int .i64 z] (.tuple #[.int .u64 y, erC j]) (cnN j))
    (PW : MeM w 8 #[dcV t p c, .int .u64 b, .int .i64 z] vw 0)
    (PH : MeM w 10 #[dcV t p c, .int .u64 b, .int .i64 z] vh 0)
    (WK : ∀ W, Below w.heap.size w W → Calls Tryz.prog 13 #[] W fun o w' => o = .returned (.bool true) ∧ Below W.heap.size W w') :
    Calls Tryz.prog 5 #[dcV t p c, .int .u64 b, .int .i64 z] w fun o w' => o = .returned (.bool true) ∧ Below w.heap.size w w' := by
  unfold erC cnN at PN PS
  by_cases k0 : k = 0
  · rw [if_pos k0, if_pos (.inl k0)] at PN
    by_cases j0 : j = 0
    · rw [if_pos j0, if_pos (.inl j0)] at PS
      exact counts_zz PN PS PW PH WK
    · rw [if_neg j0] at PS
      by_cases j4 : j = 4
      · rw [if_pos (.inr j4), j4] at PS
        exact counts_zf PN PS PW PH WK
      · rw [if_neg (fun y => y.elim j0 j4)] at PS
        have jb : (j == 4) = false := by rw [beq_eq_false_iff_ne]; exact j4
        exact counts_zo jb PN PS PW PH WK
  · rw [if_neg k0] at PN
    by_cases k4 : k = 4
    · rw [if_pos (.inr k4), k4] at PN
      by_cases j0 : j = 0
      · rw [if_pos j0, if_pos (.inl j0)] at PS
        exact counts_fz PN PS PW PH WK
      · rw [if_neg j0] at PS
        by_cases j4 : j = 4
        · rw [if_pos (.inr j4), j4] at PS
          exact counts_ff PN PS PW PH WK
        · rw [if_neg (fun y => y.elim j0 j4)] at PS
          have jb : (j == 4) = false := by rw [beq_eq_false_iff_ne]; exact j4
          exact counts_fo jb PN PS PW PH WK
    · rw [if_neg (fun y => y.elim k0 k4)] at PN
      have kb : (k == 4) = false := by rw [beq_eq_false_iff_ne]; exact k4
      by_cases j0 : j = 0
      · rw [if_pos j0, if_pos (.inl j0)] at PS
        exact counts_oz kb PN PS PW PH WK
      · rw [if_neg j0] at PS
        by_cases j4 : j = 4
        · rw [if_pos (.inr j4), j4] at PS
          exact counts_of kb PN PS PW PH WK
        · rw [if_neg (fun y => y.elim j0 j4)] at PS
          have jb : (j == 4) = false := by rw [beq_eq_false_iff_ne]; exact j4
          exact counts_oo kb jb PN PS PW PH WK
end Go.Proofs.YtfoaeholbidngaaGreatDoor
