/-
  The statement PowersSteps answers true for every exponent.
-/
import Derived.Test.YtlbbilldehlheaaDoorPgS
import Derived.Test.YtlbbilldehlheaaDoorPgC
namespace Go.Proofs.YtlbbilldehlheaaDoor
open Go.RowKit

theorem pw_oneS : Pw 1 (10 * 2 ^ 124) (-124) := (pw_in (k := 1) (d := 124) (M := 10 * 2 ^ 124) rfl (by decide) (by decide)).1
theorem of_oneS (w : World) (hT : Tab w) : Calls Tryd.prog 6 #[.int .i64 1] w fun e w' => e = .returned (.tuple #[.agg #[.int .u64 11529215046068469760, .int .u64 0, .int .i64 (-124), .bool true], .nilIface]) ∧ Below w.heap.size w w' := by
  refine (of_yes 1 (by decide) (by decide) w hT).mono ?_
  rintro e w' ⟨M, E, rfl, pw, b⟩
  obtain ⟨rfl, rfl⟩ := pw.uniq pw_oneS
  refine ⟨?_, b⟩
  unfold pwV
  rw [show hiW (10 * 2 ^ 124) = 11529215046068469760 from by decide +kernel, show loW (10 * 2 ^ 124) = 0 from by decide +kernel, show decide ((0 : Int) ≤ 1 ∧ (1 : Int) ≤ 55) = true from by decide]
theorem ten_threeS (w : World) : Calls Tryd.prog 14 #[.int .i64 3] w fun e w' => e = .returned (.tuple #[.int .u64 1000, .nilIface]) ∧ w' = w := by
  have h := ten_call 3 w
  rw [show wpX 10 19 3 = 1000 from by decide, show wpE 19 3 = 0 from by decide] at h
  exact h

set_option maxRecDepth 100000 in
set_option maxHeartbeats 1000000 in
theorem sureS (w : World) (hT : Tab w) : Calls Tryd.prog 9 #[] w fun e w' => e = .returned (.bool true) ∧ Below w.heap.size w w' := by
  have O := of_oneS w hT
  have T := fun W => ten_threeS W
  go_enter Tryd.func9, Tryd.ntmps9
  go_wp2_with fail
  refine O.mono ?_
  rintro e w1 ⟨rfl, b1⟩
  have B1 : Hid (Below w.heap.size w w1) := b1
  have X1 : Hid (FlB (w1.alloc (.cells #[.int .u64 11529215046068469760, .int .u64 0, .int .i64 (-124), .bool true] 26)) w1.heap.size _ _ _ _) := FlB.new w1 _ _ _ _ _
  clear b1 O
  go_wp2_with fail
  refine (T _).mono ?_
  rintro e w2 ⟨rfl, hw2⟩
  subst hw2
  clear T
  obtain ⟨_, a0, a1, a2, a3, _, _, _, _⟩ := X1.out
  go_wp2
  go_ret
  exact ⟨rfl, B1.out.alloc B1.out.size _⟩

theorem steps_out (x : Int) (h : x < -400 ∨ 399 < x) (w : World) (hT : Tab w) : Calls Tryd.prog 5 #[.int .i64 x] w fun e w' => e = .returned (.bool true) ∧ Below w.heap.size w w' := by
  have S := sureS w hT
  by_cases c : x < -400
  · go_enter Tryd.func5, Tryd.ntmps5
    go_wp2_with fail
    refine S.mono ?_
    rintro e w1 ⟨rfl, b1⟩
    go_wp2
    go_ret
    exact ⟨rfl, b1⟩
  · have c2 : 399 < x := by omega
    go_enter Tryd.func5, Tryd.ntmps5
    go_wp2_with fail
    refine S.mono ?_
    rintro e w1 ⟨rfl, b1⟩
    go_wp2
    go_ret
    exact ⟨rfl, b1⟩

theorem pw_existsS (x : Int) : ∃ M E, Pw x M E := by
  rcases Int.lt_or_le x 0 with c | c
  · obtain ⟨n, hn⟩ : ∃ n : Nat, x = -(n : Int) := ⟨(-x).toNat, by omega⟩
    subst hn
    exact ⟨_, _, (fraction_pw (by omega) rfl).2⟩
  · obtain ⟨n, hn⟩ : ∃ n : Nat, x = (n : Int) := ⟨x.toNat, by omega⟩
    subst hn
    exact ⟨_, _, (whole_pw rfl rfl rfl).2.2.2.2.1⟩

set_option maxRecDepth 100000 in
set_option maxHeartbeats 4000000 in
theorem steps_3n (x : Int) (h1 : -400 ≤ x) (h2 : x ≤ 399) (hc : x < 0) (w : World) (hT : Tab w) (h l g k E E2 : Int) (X2 CT : Bool) (top mh ml rh rl qh : Int) (d : Nat)
    (O1 : ∀ W, Tab W → Calls Tryd.prog 6 #[.int .i64 x] W fun e w' => e = .returned (.tuple #[.agg #[.int .u64 h, .int .u64 l, .int .i64 E, .bool false], .nilIface]) ∧ Below W.heap.size W w')
    (O2 : ∀ W, Tab W → Calls Tryd.prog 6 #[.int .i64 (x + 1)] W fun e w' => e = .returned (.tuple #[.agg #[.int .u64 g, .int .u64 k, .int .i64 E2, .bool X2], .nilIface]) ∧ Below W.heap.size W w')
    (t1 : h / 9223372036854775808 = 1) (t2 : g / 9223372036854775808 = 1) (hE : (-5000 ≤ E ∧ E ≤ 5000) ∧ E2 - E = 3)
    (MW : ∀ W, Calls Tryd.prog 17 #[.agg #[.int .u64 h, .int .u64 l], .int .u64 10] W fun e w' => e = .returned (.tuple #[.int .u64 top, .agg #[.int .u64 mh, .int .u64 ml]]) ∧ Below W.heap.size W w')
    (htop : ¬ 8 ≤ top) (ht0 : 0 ≤ top)
    (RT : ∀ W, Tab W → Calls Tryd.prog 18 #[.agg #[.int .u64 mh, .int .u64 ml], .int .i64 3] W fun e w' => e = .returned (.tuple #[.agg #[.int .u64 rh, .int .u64 rl], .bool CT]) ∧ Below W.heap.size W w')
    (hor : bits .or .u64 rh (top * 2305843009213693952) = qh)
    (SB : ∀ W, Calls Tryd.prog 19 #[.agg #[.int .u64 g, .int .u64 k], .agg #[.int .u64 qh, .int .u64 rl]] W fun e w' => e = .returned (.tuple #[.agg #[.int .u64 0, .int .u64 (d : Int)], .bool false]) ∧ Below W.heap.size W w')
    (hd : d ≤ 2)
    (BT : ∀ W, Calls Tryd.prog 12 #[.int .i64 x] W fun e w' => e = .returned (.tuple #[.int .i64 (E + 128), .nilIface]) ∧ w' = W) :
    Calls Tryd.prog 5 #[.int .i64 x] w fun e w' => e = .returned (.bool true) ∧ Below w.heap.size w w' := by
  obtain ⟨⟨hE1, hE2⟩, hE3⟩ := hE
  have HT : Hid (Tab w) := hT
  clear hT
  have c1 : ¬ x < -400 := by omega
  have c2 : ¬ 399 < x := by omega
  go_enter Tryd.func5, Tryd.ntmps5
  go_wp2_with fail
  refine (O1 _ HT.out).mono ?_
  rintro e w1 ⟨rfl, b1⟩
  have B1 : Hid (Below w.heap.size w (w1.alloc (.cells #[.int .u64 h, .int .u64 l, .int .i64 E, .bool false] 26))) := b1.alloc b1.size _
  have P1 : Hid (FlB (w1.alloc (.cells #[.int .u64 h, .int .u64 l, .int .i64 E, .bool false] 26)) w1.heap.size _ _ _ _) := FlB.new w1 _ _ _ _ _
  clear b1 O1
  go_wp2_with fail
  refine (O2 _ (HT.out.below B1.out HT.out.pos)).mono ?_
  rintro e w2 ⟨rfl, b2⟩
  have B2 : Hid (Below w.heap.size w (w2.alloc (.cells #[.int .u64 g, .int .u64 k, .int .i64 E2, .bool X2] 26))) := (B1.out.trans (b2.mono B1.out.size)).alloc (Nat.le_trans B1.out.size b2.size) _
  have P2 : Hid (FlB (w2.alloc (.cells #[.int .u64 g, .int .u64 k, .int .i64 E2, .bool X2] 26)) w1.heap.size _ _ _ _) := (P1.out.step b2).al _
  have Q2 : Hid (FlB (w2.alloc (.cells #[.int .u64 g, .int .u64 k, .int .i64 E2, .bool X2] 26)) w2.heap.size _ _ _ _) := FlB.new w2 _ _ _ _ _
  clear b2 O2 B1 P1
  generalize hv2 : w2.alloc (.cells #[.int .u64 g, .int .u64 k, .int .i64 E2, .bool X2] 26) = v2 at *
  have HV2 : Hid (w2.alloc (.cells #[.int .u64 g, .int .u64 k, .int .i64 E2, .bool X2] 26) = v2) := hv2
  obtain ⟨_, a0, a1, a2, a3, _, _, _, _⟩ := P2.out
  obtain ⟨_, q0, q1, q2, q3, _, _, _, _⟩ := Q2.out
  go_wp2_with fail
  refine (MW _).mono ?_
  rintro e w3 ⟨rfl, b3⟩
  clear hv2 a0 a1 a2 a3 q0 q1 q2 q3
  have B3 : Hid (Below w.heap.size w (w3.alloc (.cells #[.int .u64 mh, .int .u64 ml] 24))) := (B2.out.trans (b3.mono B2.out.size)).alloc (Nat.le_trans B2.out.size b3.size) _
  have P3 : Hid (FlB (w3.alloc (.cells #[.int .u64 mh, .int .u64 ml] 24)) w1.heap.size _ _ _ _) := (P2.out.step b3).al _
  have Q3 : Hid (FlB (w3.alloc (.cells #[.int .u64 mh, .int .u64 ml] 24)) w2.heap.size _ _ _ _) := (Q2.out.step b3).al _
  have L3 : Hid (TwB (w3.alloc (.cells #[.int .u64 mh, .int .u64 ml] 24)) w3.heap.size _ _) := TwB.new w3 _ _ _
  clear b3 MW B2 P2 Q2 HV2
  obtain ⟨_, a0, a1, a2, a3, _, _, _, _⟩ := P3.out
  obtain ⟨_, q0, q1, q2, q3, _, _, _, _⟩ := Q3.out
  obtain ⟨_, l0, l1, _, _⟩ := L3.out
  go_wp2_with fail
  refine (RT _ (HT.out.below B3.out HT.out.pos)).mono ?_
  rintro e w4 ⟨rfl, b4⟩
  clear a0 a1 a2 a3 q0 q1 q2 q3 l0 l1
  have M4 : Hid (TwB (w4.alloc (.cells #[.int .u64 rh, .int .u64 rl] 24)) w4.heap.size _ _) := TwB.new w4 _ _ _
  have B5 : Hid (Below w.heap.size w (w4.alloc (.cells #[.int .u64 qh, .int .u64 rl] 24))) := (B3.out.trans (b4.mono B3.out.size)).alloc (Nat.le_trans B3.out.size b4.size) _
  have P5 : Hid (FlB (w4.alloc (.cells #[.int .u64 qh, .int .u64 rl] 24)) w1.heap.size _ _ _ _) := (P3.out.step b4).al _
  have Q5 : Hid (FlB (w4.alloc (.cells #[.int .u64 qh, .int .u64 rl] 24)) w2.heap.size _ _ _ _) := (Q3.out.step b4).al _
  have M5 : Hid (TwB (w4.alloc (.cells #[.int .u64 qh, .int .u64 rl] 24)) w4.heap.size _ _) := TwB.new w4 _ _ _
  clear b4 RT B3 P3 Q3 L3
  obtain ⟨_, m0, m1, f0, f1⟩ := M4.out
  obtain ⟨_, a0, a1, a2, a3, _, _, _, _⟩ := P5.out
  obtain ⟨_, q0, q1, q2, q3, _, _, _, _⟩ := Q5.out
  obtain ⟨_, r0, r1, _, _⟩ := M5.out
  go_wp2_with fail
  refine (SB _).mono ?_
  rintro e w6 ⟨rfl, b6⟩
  clear a0 a1 a2 a3 q0 q1 q2 q3 m0 m1 f0 f1 r0 r1
  have B6 : Hid (Below w.heap.size w (w6.alloc (.cells #[.int .u64 0, .int .u64 (d : Int)] 24))) := (B5.out.trans (b6.mono B5.out.size)).alloc (Nat.le_trans B5.out.size b6.size) _
  have P6 : Hid (FlB (w6.alloc (.cells #[.int .u64 0, .int .u64 (d : Int)] 24)) w1.heap.size _ _ _ _) := (P5.out.step b6).al _
  have D6 : Hid (TwB (w6.alloc (.cells #[.int .u64 0, .int .u64 (d : Int)] 24)) w6.heap.size _ _) := TwB.new w6 _ _ _
  clear b6 SB B5 P5 Q5 M4 M5
  go_wp2_with fail
  refine (BT _).mono ?_
  rintro e w7 ⟨rfl, hw7⟩
  subst hw7
  have S := sureS _ (HT.out.below B6.out HT.out.pos)
  obtain ⟨_, a0, a1, a2, a3, _, _, _, _⟩ := P6.out
  obtain ⟨_, d0, d1, _, _⟩ := D6.out
  clear BT
  go_wp2_with fail
  refine S.mono ?_
  rintro e w8 ⟨rfl, b8⟩
  have B8 : Hid (Below w.heap.size w w8) := B6.out.trans (b8.mono B6.out.size)
  clear b8 S B6 P6 D6 a0 a1 a2 a3 d0 d1
  go_wp2
  go_ret
  exact ⟨rfl, B8.out⟩

set_option maxRecDepth 100000 in
set_option maxHeartbeats 4000000 in
theorem steps_3m (x : Int) (h1 : -400 ≤ x) (h2 : x ≤ 399) (hc : 0 ≤ x) (hc2 : x ≤ 55) (w : World) (hT : Tab w) (h l g k E E2 : Int) (X2 CT : Bool) (top mh ml rh rl qh : Int) (d : Nat)
    (O1 : ∀ W, Tab W → Calls Tryd.prog 6 #[.int .i64 x] W fun e w' => e = .returned (.tuple #[.agg #[.int .u64 h, .int .u64 l, .int .i64 E, .bool true], .nilIface]) ∧ Below W.heap.size W w')
    (O2 : ∀ W, Tab W → Calls Tryd.prog 6 #[.int .i64 (x + 1)] W fun e w' => e = .returned (.tuple #[.agg #[.int .u64 g, .int .u64 k, .int .i64 E2, .bool X2], .nilIface]) ∧ Below W.heap.size W w')
    (t1 : h / 9223372036854775808 = 1) (t2 : g / 9223372036854775808 = 1) (hE : (-5000 ≤ E ∧ E ≤ 5000) ∧ E2 - E = 3)
    (MW : ∀ W, Calls Tryd.prog 17 #[.agg #[.int .u64 h, .int .u64 l], .int .u64 10] W fun e w' => e = .returned (.tuple #[.int .u64 top, .agg #[.int .u64 mh, .int .u64 ml]]) ∧ Below W.heap.size W w')
    (htop : ¬ 8 ≤ top) (ht0 : 0 ≤ top)
    (RT : ∀ W, Tab W → Calls Tryd.prog 18 #[.agg #[.int .u64 mh, .int .u64 ml], .int .i64 3] W fun e w' => e = .returned (.tuple #[.agg #[.int .u64 rh, .int .u64 rl], .bool CT]) ∧ Below W.heap.size W w')
    (hor : bits .or .u64 rh (top * 2305843009213693952) = qh)
    (SB : ∀ W, Calls Tryd.prog 19 #[.agg #[.int .u64 g, .int .u64 k], .agg #[.int .u64 qh, .int .u64 rl]] W fun e w' => e = .returned (.tuple #[.agg #[.int .u64 0, .int .u64 (d : Int)], .bool false]) ∧ Below W.heap.size W w')
    (hd : d ≤ 2)
    (BT : ∀ W, Calls Tryd.prog 12 #[.int .i64 x] W fun e w' => e = .returned (.tuple #[.int .i64 (E + 128), .nilIface]) ∧ w' = W) :
    Calls Tryd.prog 5 #[.int .i64 x] w fun e w' => e = .returned (.bool true) ∧ Below w.heap.size w w' := by
  obtain ⟨⟨hE1, hE2⟩, hE3⟩ := hE
  have HT : Hid (Tab w) := hT
  clear hT
  have c1 : ¬ x < -400 := by omega
  have c2 : ¬ 399 < x := by omega
  go_enter Tryd.func5, Tryd.ntmps5
  go_wp2_with fail
  refine (O1 _ HT.out).mono ?_
  rintro e w1 ⟨rfl, b1⟩
  have B1 : Hid (Below w.heap.size w (w1.alloc (.cells #[.int .u64 h, .int .u64 l, .int .i64 E, .bool true] 26))) := b1.alloc b1.size _
  have P1 : Hid (FlB (w1.alloc (.cells #[.int .u64 h, .int .u64 l, .int .i64 E, .bool true] 26)) w1.heap.size _ _ _ _) := FlB.new w1 _ _ _ _ _
  clear b1 O1
  go_wp2_with fail
  refine (O2 _ (HT.out.below B1.out HT.out.pos)).mono ?_
  rintro e w2 ⟨rfl, b2⟩
  have B2 : Hid (Below w.heap.size w (w2.alloc (.cells #[.int .u64 g, .int .u64 k, .int .i64 E2, .bool X2] 26))) := (B1.out.trans (b2.mono B1.out.size)).alloc (Nat.le_trans B1.out.size b2.size) _
  have P2 : Hid (FlB (w2.alloc (.cells #[.int .u64 g, .int .u64 k, .int .i64 E2, .bool X2] 26)) w1.heap.size _ _ _ _) := (P1.out.step b2).al _
  have Q2 : Hid (FlB (w2.alloc (.cells #[.int .u64 g, .int .u64 k, .int .i64 E2, .bool X2] 26)) w2.heap.size _ _ _ _) := FlB.new w2 _ _ _ _ _
  clear b2 O2 B1 P1
  generalize hv2 : w2.alloc (.cells #[.int .u64 g, .int .u64 k, .int .i64 E2, .bool X2] 26) = v2 at *
  have HV2 : Hid (w2.alloc (.cells #[.int .u64 g, .int .u64 k, .int .i64 E2, .bool X2] 26) = v2) := hv2
  obtain ⟨_, a0, a1, a2, a3, _, _, _, _⟩ := P2.out
  obtain ⟨_, q0, q1, q2, q3, _, _, _, _⟩ := Q2.out
  go_wp2_with fail
  refine (MW _).mono ?_
  rintro e w3 ⟨rfl, b3⟩
  clear hv2 a0 a1 a2 a3 q0 q1 q2 q3
  have B3 : Hid (Below w.heap.size w (w3.alloc (.cells #[.int .u64 mh, .int .u64 ml] 24))) := (B2.out.trans (b3.mono B2.out.size)).alloc (Nat.le_trans B2.out.size b3.size) _
  have P3 : Hid (FlB (w3.alloc (.cells #[.int .u64 mh, .int .u64 ml] 24)) w1.heap.size _ _ _ _) := (P2.out.step b3).al _
  have Q3 : Hid (FlB (w3.alloc (.cells #[.int .u64 mh, .int .u64 ml] 24)) w2.heap.size _ _ _ _) := (Q2.out.step b3).al _
  have L3 : Hid (TwB (w3.alloc (.cells #[.int .u64 mh, .int .u64 ml] 24)) w3.heap.size _ _) := TwB.new w3 _ _ _
  clear b3 MW B2 P2 Q2 HV2
  obtain ⟨_, a0, a1, a2, a3, _, _, _, _⟩ := P3.out
  obtain ⟨_, q0, q1, q2, q3, _, _, _, _⟩ := Q3.out
  obtain ⟨_, l0, l1, _, _⟩ := L3.out
  go_wp2_with fail
  refine (RT _ (HT.out.below B3.out HT.out.pos)).mono ?_
  rintro e w4 ⟨rfl, b4⟩
  clear a0 a1 a2 a3 q0 q1 q2 q3 l0 l1
  have M4 : Hid (TwB (w4.alloc (.cells #[.int .u64 rh, .int .u64 rl] 24)) w4.heap.size _ _) := TwB.new w4 _ _ _
  have B5 : Hid (Below w.heap.size w (w4.alloc (.cells #[.int .u64 qh, .int .u64 rl] 24))) := (B3.out.trans (b4.mono B3.out.size)).alloc (Nat.le_trans B3.out.size b4.size) _
  have P5 : Hid (FlB (w4.alloc (.cells #[.int .u64 qh, .int .u64 rl] 24)) w1.heap.size _ _ _ _) := (P3.out.step b4).al _
  have Q5 : Hid (FlB (w4.alloc (.cells #[.int .u64 qh, .int .u64 rl] 24)) w2.heap.size _ _ _ _) := (Q3.out.step b4).al _
  have M5 : Hid (TwB (w4.alloc (.cells #[.int .u64 qh, .int .u64 rl] 24)) w4.heap.size _ _) := TwB.new w4 _ _ _
  clear b4 RT B3 P3 Q3 L3
  obtain ⟨_, m0, m1, f0, f1⟩ := M4.out
  obtain ⟨_, a0, a1, a2, a3, _, _, _, _⟩ := P5.out
  obtain ⟨_, q0, q1, q2, q3, _, _, _, _⟩ := Q5.out
  obtain ⟨_, r0, r1, _, _⟩ := M5.out
  go_wp2_with fail
  refine (SB _).mono ?_
  rintro e w6 ⟨rfl, b6⟩
  clear a0 a1 a2 a3 q0 q1 q2 q3 m0 m1 f0 f1 r0 r1
  have B6 : Hid (Below w.heap.size w (w6.alloc (.cells #[.int .u64 0, .int .u64 (d : Int)] 24))) := (B5.out.trans (b6.mono B5.out.size)).alloc (Nat.le_trans B5.out.size b6.size) _
  have P6 : Hid (FlB (w6.alloc (.cells #[.int .u64 0, .int .u64 (d : Int)] 24)) w1.heap.size _ _ _ _) := (P5.out.step b6).al _
  have D6 : Hid (TwB (w6.alloc (.cells #[.int .u64 0, .int .u64 (d : Int)] 24)) w6.heap.size _ _) := TwB.new w6 _ _ _
  clear b6 SB B5 P5 Q5 M4 M5
  go_wp2_with fail
  refine (BT _).mono ?_
  rintro e w7 ⟨rfl, hw7⟩
  subst hw7
  have S := sureS _ (HT.out.below B6.out HT.out.pos)
  obtain ⟨_, a0, a1, a2, a3, _, _, _, _⟩ := P6.out
  obtain ⟨_, d0, d1, _, _⟩ := D6.out
  clear BT
  go_wp2_with fail
  refine S.mono ?_
  rintro e w8 ⟨rfl, b8⟩
  have B8 : Hid (Below w.heap.size w w8) := B6.out.trans (b8.mono B6.out.size)
  clear b8 S B6 P6 D6 a0 a1 a2 a3 d0 d1
  go_wp2
  go_ret
  exact ⟨rfl, B8.out⟩

set_option maxRecDepth 100000 in
set_option maxHeartbeats 4000000 in
theorem steps_3b (x : Int) (h1 : -400 ≤ x) (h2 : x ≤ 399) (hc : 55 < x) (w : World) (hT : Tab w) (h l g k E E2 : Int) (X2 CT : Bool) (top mh ml rh rl qh : Int) (d : Nat)
    (O1 : ∀ W, Tab W → Calls Tryd.prog 6 #[.int .i64 x] W fun e w' => e = .returned (.tuple #[.agg #[.int .u64 h, .int .u64 l, .int .i64 E, .bool false], .nilIface]) ∧ Below W.heap.size W w')
    (O2 : ∀ W, Tab W → Calls Tryd.prog 6 #[.int .i64 (x + 1)] W fun e w' => e = .returned (.tuple #[.agg #[.int .u64 g, .int .u64 k, .int .i64 E2, .bool X2], .nilIface]) ∧ Below W.heap.size W w')
    (t1 : h / 9223372036854775808 = 1) (t2 : g / 9223372036854775808 = 1) (hE : (-5000 ≤ E ∧ E ≤ 5000) ∧ E2 - E = 3)
    (MW : ∀ W, Calls Tryd.prog 17 #[.agg #[.int .u64 h, .int .u64 l], .int .u64 10] W fun e w' => e = .returned (.tuple #[.int .u64 top, .agg #[.int .u64 mh, .int .u64 ml]]) ∧ Below W.heap.size W w')
    (htop : ¬ 8 ≤ top) (ht0 : 0 ≤ top)
    (RT : ∀ W, Tab W → Calls Tryd.prog 18 #[.agg #[.int .u64 mh, .int .u64 ml], .int .i64 3] W fun e w' => e = .returned (.tuple #[.agg #[.int .u64 rh, .int .u64 rl], .bool CT]) ∧ Below W.heap.size W w')
    (hor : bits .or .u64 rh (top * 2305843009213693952) = qh)
    (SB : ∀ W, Calls Tryd.prog 19 #[.agg #[.int .u64 g, .int .u64 k], .agg #[.int .u64 qh, .int .u64 rl]] W fun e w' => e = .returned (.tuple #[.agg #[.int .u64 0, .int .u64 (d : Int)], .bool false]) ∧ Below W.heap.size W w')
    (hd : d ≤ 2)
    (BT : ∀ W, Calls Tryd.prog 12 #[.int .i64 x] W fun e w' => e = .returned (.tuple #[.int .i64 (E + 128), .nilIface]) ∧ w' = W) :
    Calls Tryd.prog 5 #[.int .i64 x] w fun e w' => e = .returned (.bool true) ∧ Below w.heap.size w w' := by
  obtain ⟨⟨hE1, hE2⟩, hE3⟩ := hE
  have HT : Hid (Tab w) := hT
  clear hT
  have c1 : ¬ x < -400 := by omega
  have c2 : ¬ 399 < x := by omega
  go_enter Tryd.func5, Tryd.ntmps5
  go_wp2_with fail
  refine (O1 _ HT.out).mono ?_
  rintro e w1 ⟨rfl, b1⟩
  have B1 : Hid (Below w.heap.size w (w1.alloc (.cells #[.int .u64 h, .int .u64 l, .int .i64 E, .bool false] 26))) := b1.alloc b1.size _
  have P1 : Hid (FlB (w1.alloc (.cells #[.int .u64 h, .int .u64 l, .int .i64 E, .bool false] 26)) w1.heap.size _ _ _ _) := FlB.new w1 _ _ _ _ _
  clear b1 O1
  go_wp2_with fail
  refine (O2 _ (HT.out.below B1.out HT.out.pos)).mono ?_
  rintro e w2 ⟨rfl, b2⟩
  have B2 : Hid (Below w.heap.size w (w2.alloc (.cells #[.int .u64 g, .int .u64 k, .int .i64 E2, .bool X2] 26))) := (B1.out.trans (b2.mono B1.out.size)).alloc (Nat.le_trans B1.out.size b2.size) _
  have P2 : Hid (FlB (w2.alloc (.cells #[.int .u64 g, .int .u64 k, .int .i64 E2, .bool X2] 26)) w1.heap.size _ _ _ _) := (P1.out.step b2).al _
  have Q2 : Hid (FlB (w2.alloc (.cells #[.int .u64 g, .int .u64 k, .int .i64 E2, .bool X2] 26)) w2.heap.size _ _ _ _) := FlB.new w2 _ _ _ _ _
  clear b2 O2 B1 P1
  generalize hv2 : w2.alloc (.cells #[.int .u64 g, .int .u64 k, .int .i64 E2, .bool X2] 26) = v2 at *
  have HV2 : Hid (w2.alloc (.cells #[.int .u64 g, .int .u64 k, .int .i64 E2, .bool X2] 26) = v2) := hv2
  obtain ⟨_, a0, a1, a2, a3, _, _, _, _⟩ := P2.out
  obtain ⟨_, q0, q1, q2, q3, _, _, _, _⟩ := Q2.out
  go_wp2_with fail
  refine (MW _).mono ?_
  rintro e w3 ⟨rfl, b3⟩
  clear hv2 a0 a1 a2 a3 q0 q1 q2 q3
  have B3 : Hid (Below w.heap.size w (w3.alloc (.cells #[.int .u64 mh, .int .u64 ml] 24))) := (B2.out.trans (b3.mono B2.out.size)).alloc (Nat.le_trans B2.out.size b3.size) _
  have P3 : Hid (FlB (w3.alloc (.cells #[.int .u64 mh, .int .u64 ml] 24)) w1.heap.size _ _ _ _) := (P2.out.step b3).al _
  have Q3 : Hid (FlB (w3.alloc (.cells #[.int .u64 mh, .int .u64 ml] 24)) w2.heap.size _ _ _ _) := (Q2.out.step b3).al _
  have L3 : Hid (TwB (w3.alloc (.cells #[.int .u64 mh, .int .u64 ml] 24)) w3.heap.size _ _) := TwB.new w3 _ _ _
  clear b3 MW B2 P2 Q2 HV2
  obtain ⟨_, a0, a1, a2, a3, _, _, _, _⟩ := P3.out
  obtain ⟨_, q0, q1, q2, q3, _, _, _, _⟩ := Q3.out
  obtain ⟨_, l0, l1, _, _⟩ := L3.out
  go_wp2_with fail
  refine (RT _ (HT.out.below B3.out HT.out.pos)).mono ?_
  rintro e w4 ⟨rfl, b4⟩
  clear a0 a1 a2 a3 q0 q1 q2 q3 l0 l1
  have M4 : Hid (TwB (w4.alloc (.cells #[.int .u64 rh, .int .u64 rl] 24)) w4.heap.size _ _) := TwB.new w4 _ _ _
  have B5 : Hid (Below w.heap.size w (w4.alloc (.cells #[.int .u64 qh, .int .u64 rl] 24))) := (B3.out.trans (b4.mono B3.out.size)).alloc (Nat.le_trans B3.out.size b4.size) _
  have P5 : Hid (FlB (w4.alloc (.cells #[.int .u64 qh, .int .u64 rl] 24)) w1.heap.size _ _ _ _) := (P3.out.step b4).al _
  have Q5 : Hid (FlB (w4.alloc (.cells #[.int .u64 qh, .int .u64 rl] 24)) w2.heap.size _ _ _ _) := (Q3.out.step b4).al _
  have M5 : Hid (TwB (w4.alloc (.cells #[.int .u64 qh, .int .u64 rl] 24)) w4.heap.size _ _) := TwB.new w4 _ _ _
  clear b4 RT B3 P3 Q3 L3
  obtain ⟨_, m0, m1, f0, f1⟩ := M4.out
  obtain ⟨_, a0, a1, a2, a3, _, _, _, _⟩ := P5.out
  obtain ⟨_, q0, q1, q2, q3, _, _, _, _⟩ := Q5.out
  obtain ⟨_, r0, r1, _, _⟩ := M5.out
  go_wp2_with fail
  refine (SB _).mono ?_
  rintro e w6 ⟨rfl, b6⟩
  clear a0 a1 a2 a3 q0 q1 q2 q3 m0 m1 f0 f1 r0 r1
  have B6 : Hid (Below w.heap.size w (w6.alloc (.cells #[.int .u64 0, .int .u64 (d : Int)] 24))) := (B5.out.trans (b6.mono B5.out.size)).alloc (Nat.le_trans B5.out.size b6.size) _
  have P6 : Hid (FlB (w6.alloc (.cells #[.int .u64 0, .int .u64 (d : Int)] 24)) w1.heap.size _ _ _ _) := (P5.out.step b6).al _
  have D6 : Hid (TwB (w6.alloc (.cells #[.int .u64 0, .int .u64 (d : Int)] 24)) w6.heap.size _ _) := TwB.new w6 _ _ _
  clear b6 SB B5 P5 Q5 M4 M5
  go_wp2_with fail
  refine (BT _).mono ?_
  rintro e w7 ⟨rfl, hw7⟩
  subst hw7
  have S := sureS _ (HT.out.below B6.out HT.out.pos)
  obtain ⟨_, a0, a1, a2, a3, _, _, _, _⟩ := P6.out
  obtain ⟨_, d0, d1, _, _⟩ := D6.out
  clear BT
  go_wp2_with fail
  refine S.mono ?_
  rintro e w8 ⟨rfl, b8⟩
  have B8 : Hid (Below w.heap.size w w8) := B6.out.trans (b8.mono B6.out.size)
  clear b8 S B6 P6 D6 a0 a1 a2 a3 d0 d1
  go_wp2
  go_ret
  exact ⟨rfl, B8.out⟩

set_option maxRecDepth 100000 in
set_option maxHeartbeats 4000000 in
theorem steps_4n (x : Int) (h1 : -400 ≤ x) (h2 : x ≤ 399) (hc : x < 0) (w : World) (hT : Tab w) (h l g k E E2 : Int) (X2 CT : Bool) (top mh ml rh rl qh : Int) (d : Nat)
    (O1 : ∀ W, Tab W → Calls Tryd.prog 6 #[.int .i64 x] W fun e w' => e = .returned (.tuple #[.agg #[.int .u64 h, .int .u64 l, .int .i64 E, .bool false], .nilIface]) ∧ Below W.heap.size W w')
    (O2 : ∀ W, Tab W → Calls Tryd.prog 6 #[.int .i64 (x + 1)] W fun e w' => e = .returned (.tuple #[.agg #[.int .u64 g, .int .u64 k, .int .i64 E2, .bool X2], .nilIface]) ∧ Below W.heap.size W w')
    (t1 : h / 9223372036854775808 = 1) (t2 : g / 9223372036854775808 = 1) (hE : (-5000 ≤ E ∧ E ≤ 5000) ∧ E2 - E = 4)
    (MW : ∀ W, Calls Tryd.prog 17 #[.agg #[.int .u64 h, .int .u64 l], .int .u64 10] W fun e w' => e = .returned (.tuple #[.int .u64 top, .agg #[.int .u64 mh, .int .u64 ml]]) ∧ Below W.heap.size W w')
    (htop : ¬ 16 ≤ top) (ht0 : 0 ≤ top)
    (RT : ∀ W, Tab W → Calls Tryd.prog 18 #[.agg #[.int .u64 mh, .int .u64 ml], .int .i64 4] W fun e w' => e = .returned (.tuple #[.agg #[.int .u64 rh, .int .u64 rl], .bool CT]) ∧ Below W.heap.size W w')
    (hor : bits .or .u64 rh (top * 1152921504606846976) = qh)
    (SB : ∀ W, Calls Tryd.prog 19 #[.agg #[.int .u64 g, .int .u64 k], .agg #[.int .u64 qh, .int .u64 rl]] W fun e w' => e = .returned (.tuple #[.agg #[.int .u64 0, .int .u64 (d : Int)], .bool false]) ∧ Below W.heap.size W w')
    (hd : d ≤ 2)
    (BT : ∀ W, Calls Tryd.prog 12 #[.int .i64 x] W fun e w' => e = .returned (.tuple #[.int .i64 (E + 128), .nilIface]) ∧ w' = W) :
    Calls Tryd.prog 5 #[.int .i64 x] w fun e w' => e = .returned (.bool true) ∧ Below w.heap.size w w' := by
  obtain ⟨⟨hE1, hE2⟩, hE3⟩ := hE
  have HT : Hid (Tab w) := hT
  clear hT
  have c1 : ¬ x < -400 := by omega
  have c2 : ¬ 399 < x := by omega
  go_enter Tryd.func5, Tryd.ntmps5
  go_wp2_with fail
  refine (O1 _ HT.out).mono ?_
  rintro e w1 ⟨rfl, b1⟩
  have B1 : Hid (Below w.heap.size w (w1.alloc (.cells #[.int .u64 h, .int .u64 l, .int .i64 E, .bool false] 26))) := b1.alloc b1.size _
  have P1 : Hid (FlB (w1.alloc (.cells #[.int .u64 h, .int .u64 l, .int .i64 E, .bool false] 26)) w1.heap.size _ _ _ _) := FlB.new w1 _ _ _ _ _
  clear b1 O1
  go_wp2_with fail
  refine (O2 _ (HT.out.below B1.out HT.out.pos)).mono ?_
  rintro e w2 ⟨rfl, b2⟩
  have B2 : Hid (Below w.heap.size w (w2.alloc (.cells #[.int .u64 g, .int .u64 k, .int .i64 E2, .bool X2] 26))) := (B1.out.trans (b2.mono B1.out.size)).alloc (Nat.le_trans B1.out.size b2.size) _
  have P2 : Hid (FlB (w2.alloc (.cells #[.int .u64 g, .int .u64 k, .int .i64 E2, .bool X2] 26)) w1.heap.size _ _ _ _) := (P1.out.step b2).al _
  have Q2 : Hid (FlB (w2.alloc (.cells #[.int .u64 g, .int .u64 k, .int .i64 E2, .bool X2] 26)) w2.heap.size _ _ _ _) := FlB.new w2 _ _ _ _ _
  clear b2 O2 B1 P1
  generalize hv2 : w2.alloc (.cells #[.int .u64 g, .int .u64 k, .int .i64 E2, .bool X2] 26) = v2 at *
  have HV2 : Hid (w2.alloc (.cells #[.int .u64 g, .int .u64 k, .int .i64 E2, .bool X2] 26) = v2) := hv2
  obtain ⟨_, a0, a1, a2, a3, _, _, _, _⟩ := P2.out
  obtain ⟨_, q0, q1, q2, q3, _, _, _, _⟩ := Q2.out
  go_wp2_with fail
  refine (MW _).mono ?_
  rintro e w3 ⟨rfl, b3⟩
  clear hv2 a0 a1 a2 a3 q0 q1 q2 q3
  have B3 : Hid (Below w.heap.size w (w3.alloc (.cells #[.int .u64 mh, .int .u64 ml] 24))) := (B2.out.trans (b3.mono B2.out.size)).alloc (Nat.le_trans B2.out.size b3.size) _
  have P3 : Hid (FlB (w3.alloc (.cells #[.int .u64 mh, .int .u64 ml] 24)) w1.heap.size _ _ _ _) := (P2.out.step b3).al _
  have Q3 : Hid (FlB (w3.alloc (.cells #[.int .u64 mh, .int .u64 ml] 24)) w2.heap.size _ _ _ _) := (Q2.out.step b3).al _
  have L3 : Hid (TwB (w3.alloc (.cells #[.int .u64 mh, .int .u64 ml] 24)) w3.heap.size _ _) := TwB.new w3 _ _ _
  clear b3 MW B2 P2 Q2 HV2
  obtain ⟨_, a0, a1, a2, a3, _, _, _, _⟩ := P3.out
  obtain ⟨_, q0, q1, q2, q3, _, _, _, _⟩ := Q3.out
  obtain ⟨_, l0, l1, _, _⟩ := L3.out
  go_wp2_with fail
  refine (RT _ (HT.out.below B3.out HT.out.pos)).mono ?_
  rintro e w4 ⟨rfl, b4⟩
  clear a0 a1 a2 a3 q0 q1 q2 q3 l0 l1
  have M4 : Hid (TwB (w4.alloc (.cells #[.int .u64 rh, .int .u64 rl] 24)) w4.heap.size _ _) := TwB.new w4 _ _ _
  have B5 : Hid (Below w.heap.size w (w4.alloc (.cells #[.int .u64 qh, .int .u64 rl] 24))) := (B3.out.trans (b4.mono B3.out.size)).alloc (Nat.le_trans B3.out.size b4.size) _
  have P5 : Hid (FlB (w4.alloc (.cells #[.int .u64 qh, .int .u64 rl] 24)) w1.heap.size _ _ _ _) := (P3.out.step b4).al _
  have Q5 : Hid (FlB (w4.alloc (.cells #[.int .u64 qh, .int .u64 rl] 24)) w2.heap.size _ _ _ _) := (Q3.out.step b4).al _
  have M5 : Hid (TwB (w4.alloc (.cells #[.int .u64 qh, .int .u64 rl] 24)) w4.heap.size _ _) := TwB.new w4 _ _ _
  clear b4 RT B3 P3 Q3 L3
  obtain ⟨_, m0, m1, f0, f1⟩ := M4.out
  obtain ⟨_, a0, a1, a2, a3, _, _, _, _⟩ := P5.out
  obtain ⟨_, q0, q1, q2, q3, _, _, _, _⟩ := Q5.out
  obtain ⟨_, r0, r1, _, _⟩ := M5.out
  go_wp2_with fail
  refine (SB _).mono ?_
  rintro e w6 ⟨rfl, b6⟩
  clear a0 a1 a2 a3 q0 q1 q2 q3 m0 m1 f0 f1 r0 r1
  have B6 : Hid (Below w.heap.size w (w6.alloc (.cells #[.int .u64 0, .int .u64 (d : Int)] 24))) := (B5.out.trans (b6.mono B5.out.size)).alloc (Nat.le_trans B5.out.size b6.size) _
  have P6 : Hid (FlB (w6.alloc (.cells #[.int .u64 0, .int .u64 (d : Int)] 24)) w1.heap.size _ _ _ _) := (P5.out.step b6).al _
  have D6 : Hid (TwB (w6.alloc (.cells #[.int .u64 0, .int .u64 (d : Int)] 24)) w6.heap.size _ _) := TwB.new w6 _ _ _
  clear b6 SB B5 P5 Q5 M4 M5
  go_wp2_with fail
  refine (BT _).mono ?_
  rintro e w7 ⟨rfl, hw7⟩
  subst hw7
  have S := sureS _ (HT.out.below B6.out HT.out.pos)
  obtain ⟨_, a0, a1, a2, a3, _, _, _, _⟩ := P6.out
  obtain ⟨_, d0, d1, _, _⟩ := D6.out
  clear BT
  go_wp2_with fail
  refine S.mono ?_
  rintro e w8 ⟨rfl, b8⟩
  have B8 : Hid (Below w.heap.size w w8) := B6.out.trans (b8.mono B6.out.size)
  clear b8 S B6 P6 D6 a0 a1 a2 a3 d0 d1
  go_wp2
  go_ret
  exact ⟨rfl, B8.out⟩

set_option maxRecDepth 100000 in
set_option maxHeartbeats 4000000 in
theorem steps_4m (x : Int) (h1 : -400 ≤ x) (h2 : x ≤ 399) (hc : 0 ≤ x) (hc2 : x ≤ 55) (w : World) (hT : Tab w) (h l g k E E2 : Int) (X2 CT : Bool) (top mh ml rh rl qh : Int) (d : Nat)
    (O1 : ∀ W, Tab W → Calls Tryd.prog 6 #[.int .i64 x] W fun e w' => e = .returned (.tuple #[.agg #[.int .u64 h, .int .u64 l, .int .i64 E, .bool true], .nilIface]) ∧ Below W.heap.size W w')
    (O2 : ∀ W, Tab W → Calls Tryd.prog 6 #[.int .i64 (x + 1)] W fun e w' => e = .returned (.tuple #[.agg #[.int .u64 g, .int .u64 k, .int .i64 E2, .bool X2], .nilIface]) ∧ Below W.heap.size W w')
    (t1 : h / 9223372036854775808 = 1) (t2 : g / 9223372036854775808 = 1) (hE : (-5000 ≤ E ∧ E ≤ 5000) ∧ E2 - E = 4)
    (MW : ∀ W, Calls Tryd.prog 17 #[.agg #[.int .u64 h, .int .u64 l], .int .u64 10] W fun e w' => e = .returned (.tuple #[.int .u64 top, .agg #[.int .u64 mh, .int .u64 ml]]) ∧ Below W.heap.size W w')
    (htop : ¬ 16 ≤ top) (ht0 : 0 ≤ top)
    (RT : ∀ W, Tab W → Calls Tryd.prog 18 #[.agg #[.int .u64 mh, .int .u64 ml], .int .i64 4] W fun e w' => e = .returned (.tuple #[.agg #[.int .u64 rh, .int .u64 rl], .bool CT]) ∧ Below W.heap.size W w')
    (hor : bits .or .u64 rh (top * 1152921504606846976) = qh)
    (SB : ∀ W, Calls Tryd.prog 19 #[.agg #[.int .u64 g, .int .u64 k], .agg #[.int .u64 qh, .int .u64 rl]] W fun e w' => e = .returned (.tuple #[.agg #[.int .u64 0, .int .u64 (d : Int)], .bool false]) ∧ Below W.heap.size W w')
    (hd : d ≤ 2)
    (BT : ∀ W, Calls Tryd.prog 12 #[.int .i64 x] W fun e w' => e = .returned (.tuple #[.int .i64 (E + 128), .nilIface]) ∧ w' = W) :
    Calls Tryd.prog 5 #[.int .i64 x] w fun e w' => e = .returned (.bool true) ∧ Below w.heap.size w w' := by
  obtain ⟨⟨hE1, hE2⟩, hE3⟩ := hE
  have HT : Hid (Tab w) := hT
  clear hT
  have c1 : ¬ x < -400 := by omega
  have c2 : ¬ 399 < x := by omega
  go_enter Tryd.func5, Tryd.ntmps5
  go_wp2_with fail
  refine (O1 _ HT.out).mono ?_
  rintro e w1 ⟨rfl, b1⟩
  have B1 : Hid (Below w.heap.size w (w1.alloc (.cells #[.int .u64 h, .int .u64 l, .int .i64 E, .bool true] 26))) := b1.alloc b1.size _
  have P1 : Hid (FlB (w1.alloc (.cells #[.int .u64 h, .int .u64 l, .int .i64 E, .bool true] 26)) w1.heap.size _ _ _ _) := FlB.new w1 _ _ _ _ _
  clear b1 O1
  go_wp2_with fail
  refine (O2 _ (HT.out.below B1.out HT.out.pos)).mono ?_
  rintro e w2 ⟨rfl, b2⟩
  have B2 : Hid (Below w.heap.size w (w2.alloc (.cells #[.int .u64 g, .int .u64 k, .int .i64 E2, .bool X2] 26))) := (B1.out.trans (b2.mono B1.out.size)).alloc (Nat.le_trans B1.out.size b2.size) _
  have P2 : Hid (FlB (w2.alloc (.cells #[.int .u64 g, .int .u64 k, .int .i64 E2, .bool X2] 26)) w1.heap.size _ _ _ _) := (P1.out.step b2).al _
  have Q2 : Hid (FlB (w2.alloc (.cells #[.int .u64 g, .int .u64 k, .int .i64 E2, .bool X2] 26)) w2.heap.size _ _ _ _) := FlB.new w2 _ _ _ _ _
  clear b2 O2 B1 P1
  generalize hv2 : w2.alloc (.cells #[.int .u64 g, .int .u64 k, .int .i64 E2, .bool X2] 26) = v2 at *
  have HV2 : Hid (w2.alloc (.cells #[.int .u64 g, .int .u64 k, .int .i64 E2, .bool X2] 26) = v2) := hv2
  obtain ⟨_, a0, a1, a2, a3, _, _, _, _⟩ := P2.out
  obtain ⟨_, q0, q1, q2, q3, _, _, _, _⟩ := Q2.out
  go_wp2_with fail
  refine (MW _).mono ?_
  rintro e w3 ⟨rfl, b3⟩
  clear hv2 a0 a1 a2 a3 q0 q1 q2 q3
  have B3 : Hid (Below w.heap.size w (w3.alloc (.cells #[.int .u64 mh, .int .u64 ml] 24))) := (B2.out.trans (b3.mono B2.out.size)).alloc (Nat.le_trans B2.out.size b3.size) _
  have P3 : Hid (FlB (w3.alloc (.cells #[.int .u64 mh, .int .u64 ml] 24)) w1.heap.size _ _ _ _) := (P2.out.step b3).al _
  have Q3 : Hid (FlB (w3.alloc (.cells #[.int .u64 mh, .int .u64 ml] 24)) w2.heap.size _ _ _ _) := (Q2.out.step b3).al _
  have L3 : Hid (TwB (w3.alloc (.cells #[.int .u64 mh, .int .u64 ml] 24)) w3.heap.size _ _) := TwB.new w3 _ _ _
  clear b3 MW B2 P2 Q2 HV2
  obtain ⟨_, a0, a1, a2, a3, _, _, _, _⟩ := P3.out
  obtain ⟨_, q0, q1, q2, q3, _, _, _, _⟩ := Q3.out
  obtain ⟨_, l0, l1, _, _⟩ := L3.out
  go_wp2_with fail
  refine (RT _ (HT.out.below B3.out HT.out.pos)).mono ?_
  rintro e w4 ⟨rfl, b4⟩
  clear a0 a1 a2 a3 q0 q1 q2 q3 l0 l1
  have M4 : Hid (TwB (w4.alloc (.cells #[.int .u64 rh, .int .u64 rl] 24)) w4.heap.size _ _) := TwB.new w4 _ _ _
  have B5 : Hid (Below w.heap.size w (w4.alloc (.cells #[.int .u64 qh, .int .u64 rl] 24))) := (B3.out.trans (b4.mono B3.out.size)).alloc (Nat.le_trans B3.out.size b4.size) _
  have P5 : Hid (FlB (w4.alloc (.cells #[.int .u64 qh, .int .u64 rl] 24)) w1.heap.size _ _ _ _) := (P3.out.step b4).al _
  have Q5 : Hid (FlB (w4.alloc (.cells #[.int .u64 qh, .int .u64 rl] 24)) w2.heap.size _ _ _ _) := (Q3.out.step b4).al _
  have M5 : Hid (TwB (w4.alloc (.cells #[.int .u64 qh, .int .u64 rl] 24)) w4.heap.size _ _) := TwB.new w4 _ _ _
  clear b4 RT B3 P3 Q3 L3
  obtain ⟨_, m0, m1, f0, f1⟩ := M4.out
  obtain ⟨_, a0, a1, a2, a3, _, _, _, _⟩ := P5.out
  obtain ⟨_, q0, q1, q2, q3, _, _, _, _⟩ := Q5.out
  obtain ⟨_, r0, r1, _, _⟩ := M5.out
  go_wp2_with fail
  refine (SB _).mono ?_
  rintro e w6 ⟨rfl, b6⟩
  clear a0 a1 a2 a3 q0 q1 q2 q3 m0 m1 f0 f1 r0 r1
  have B6 : Hid (Below w.heap.size w (w6.alloc (.cells #[.int .u64 0, .int .u64 (d : Int)] 24))) := (B5.out.trans (b6.mono B5.out.size)).alloc (Nat.le_trans B5.out.size b6.size) _
  have P6 : Hid (FlB (w6.alloc (.cells #[.int .u64 0, .int .u64 (d : Int)] 24)) w1.heap.size _ _ _ _) := (P5.out.step b6).al _
  have D6 : Hid (TwB (w6.alloc (.cells #[.int .u64 0, .int .u64 (d : Int)] 24)) w6.heap.size _ _) := TwB.new w6 _ _ _
  clear b6 SB B5 P5 Q5 M4 M5
  go_wp2_with fail
  refine (BT _).mono ?_
  rintro e w7 ⟨rfl, hw7⟩
  subst hw7
  have S := sureS _ (HT.out.below B6.out HT.out.pos)
  obtain ⟨_, a0, a1, a2, a3, _, _, _, _⟩ := P6.out
  obtain ⟨_, d0, d1, _, _⟩ := D6.out
  clear BT
  go_wp2_with fail
  refine S.mono ?_
  rintro e w8 ⟨rfl, b8⟩
  have B8 : Hid (Below w.heap.size w w8) := B6.out.trans (b8.mono B6.out.size)
  clear b8 S B6 P6 D6 a0 a1 a2 a3 d0 d1
  go_wp2
  go_ret
  exact ⟨rfl, B8.out⟩

set_option maxRecDepth 100000 in
set_option maxHeartbeats 4000000 in
theorem steps_4b (x : Int) (h1 : -400 ≤ x) (h2 : x ≤ 399) (hc : 55 < x) (w : World) (hT : Tab w) (h l g k E E2 : Int) (X2 CT : Bool) (top mh ml rh rl qh : Int) (d : Nat)
    (O1 : ∀ W, Tab W → Calls Tryd.prog 6 #[.int .i64 x] W fun e w' => e = .returned (.tuple #[.agg #[.int .u64 h, .int .u64 l, .int .i64 E, .bool false], .nilIface]) ∧ Below W.heap.size W w')
    (O2 : ∀ W, Tab W → Calls Tryd.prog 6 #[.int .i64 (x + 1)] W fun e w' => e = .returned (.tuple #[.agg #[.int .u64 g, .int .u64 k, .int .i64 E2, .bool X2], .nilIface]) ∧ Below W.heap.size W w')
    (t1 : h / 9223372036854775808 = 1) (t2 : g / 9223372036854775808 = 1) (hE : (-5000 ≤ E ∧ E ≤ 5000) ∧ E2 - E = 4)
    (MW : ∀ W, Calls Tryd.prog 17 #[.agg #[.int .u64 h, .int .u64 l], .int .u64 10] W fun e w' => e = .returned (.tuple #[.int .u64 top, .agg #[.int .u64 mh, .int .u64 ml]]) ∧ Below W.heap.size W w')
    (htop : ¬ 16 ≤ top) (ht0 : 0 ≤ top)
    (RT : ∀ W, Tab W → Calls Tryd.prog 18 #[.agg #[.int .u64 mh, .int .u64 ml], .int .i64 4] W fun e w' => e = .returned (.tuple #[.agg #[.int .u64 rh, .int .u64 rl], .bool CT]) ∧ Below W.heap.size W w')
    (hor : bits .or .u64 rh (top * 1152921504606846976) = qh)
    (SB : ∀ W, Calls Tryd.prog 19 #[.agg #[.int .u64 g, .int .u64 k], .agg #[.int .u64 qh, .int .u64 rl]] W fun e w' => e = .returned (.tuple #[.agg #[.int .u64 0, .int .u64 (d : Int)], .bool false]) ∧ Below W.heap.size W w')
    (hd : d ≤ 2)
    (BT : ∀ W, Calls Tryd.prog 12 #[.int .i64 x] W fun e w' => e = .returned (.tuple #[.int .i64 (E + 128), .nilIface]) ∧ w' = W) :
    Calls Tryd.prog 5 #[.int .i64 x] w fun e w' => e = .returned (.bool true) ∧ Below w.heap.size w w' := by
  obtain ⟨⟨hE1, hE2⟩, hE3⟩ := hE
  have HT : Hid (Tab w) := hT
  clear hT
  have c1 : ¬ x < -400 := by omega
  have c2 : ¬ 399 < x := by omega
  go_enter Tryd.func5, Tryd.ntmps5
  go_wp2_with fail
  refine (O1 _ HT.out).mono ?_
  rintro e w1 ⟨rfl, b1⟩
  have B1 : Hid (Below w.heap.size w (w1.alloc (.cells #[.int .u64 h, .int .u64 l, .int .i64 E, .bool false] 26))) := b1.alloc b1.size _
  have P1 : Hid (FlB (w1.alloc (.cells #[.int .u64 h, .int .u64 l, .int .i64 E, .bool false] 26)) w1.heap.size _ _ _ _) := FlB.new w1 _ _ _ _ _
  clear b1 O1
  go_wp2_with fail
  refine (O2 _ (HT.out.below B1.out HT.out.pos)).mono ?_
  rintro e w2 ⟨rfl, b2⟩
  have B2 : Hid (Below w.heap.size w (w2.alloc (.cells #[.int .u64 g, .int .u64 k, .int .i64 E2, .bool X2] 26))) := (B1.out.trans (b2.mono B1.out.size)).alloc (Nat.le_trans B1.out.size b2.size) _
  have P2 : Hid (FlB (w2.alloc (.cells #[.int .u64 g, .int .u64 k, .int .i64 E2, .bool X2] 26)) w1.heap.size _ _ _ _) := (P1.out.step b2).al _
  have Q2 : Hid (FlB (w2.alloc (.cells #[.int .u64 g, .int .u64 k, .int .i64 E2, .bool X2] 26)) w2.heap.size _ _ _ _) := FlB.new w2 _ _ _ _ _
  clear b2 O2 B1 P1
  generalize hv2 : w2.alloc (.cells #[.int .u64 g, .int .u64 k, .int .i64 E2, .bool X2] 26) = v2 at *
  have HV2 : Hid (w2.alloc (.cells #[.int .u64 g, .int .u64 k, .int .i64 E2, .bool X2] 26) = v2) := hv2
  obtain ⟨_, a0, a1, a2, a3, _, _, _, _⟩ := P2.out
  obtain ⟨_, q0, q1, q2, q3, _, _, _, _⟩ := Q2.out
  go_wp2_with fail
  refine (MW _).mono ?_
  rintro e w3 ⟨rfl, b3⟩
  clear hv2 a0 a1 a2 a3 q0 q1 q2 q3
  have B3 : Hid (Below w.heap.size w (w3.alloc (.cells #[.int .u64 mh, .int .u64 ml] 24))) := (B2.out.trans (b3.mono B2.out.size)).alloc (Nat.le_trans B2.out.size b3.size) _
  have P3 : Hid (FlB (w3.alloc (.cells #[.int .u64 mh, .int .u64 ml] 24)) w1.heap.size _ _ _ _) := (P2.out.step b3).al _
  have Q3 : Hid (FlB (w3.alloc (.cells #[.int .u64 mh, .int .u64 ml] 24)) w2.heap.size _ _ _ _) := (Q2.out.step b3).al _
  have L3 : Hid (TwB (w3.alloc (.cells #[.int .u64 mh, .int .u64 ml] 24)) w3.heap.size _ _) := TwB.new w3 _ _ _
  clear b3 MW B2 P2 Q2 HV2
  obtain ⟨_, a0, a1, a2, a3, _, _, _, _⟩ := P3.out
  obtain ⟨_, q0, q1, q2, q3, _, _, _, _⟩ := Q3.out
  obtain ⟨_, l0, l1, _, _⟩ := L3.out
  go_wp2_with fail
  refine (RT _ (HT.out.below B3.out HT.out.pos)).mono ?_
  rintro e w4 ⟨rfl, b4⟩
  clear a0 a1 a2 a3 q0 q1 q2 q3 l0 l1
  have M4 : Hid (TwB (w4.alloc (.cells #[.int .u64 rh, .int .u64 rl] 24)) w4.heap.size _ _) := TwB.new w4 _ _ _
  have B5 : Hid (Below w.heap.size w (w4.alloc (.cells #[.int .u64 qh, .int .u64 rl] 24))) := (B3.out.trans (b4.mono B3.out.size)).alloc (Nat.le_trans B3.out.size b4.size) _
  have P5 : Hid (FlB (w4.alloc (.cells #[.int .u64 qh, .int .u64 rl] 24)) w1.heap.size _ _ _ _) := (P3.out.step b4).al _
  have Q5 : Hid (FlB (w4.alloc (.cells #[.int .u64 qh, .int .u64 rl] 24)) w2.heap.size _ _ _ _) := (Q3.out.step b4).al _
  have M5 : Hid (TwB (w4.alloc (.cells #[.int .u64 qh, .int .u64 rl] 24)) w4.heap.size _ _) := TwB.new w4 _ _ _
  clear b4 RT B3 P3 Q3 L3
  obtain ⟨_, m0, m1, f0, f1⟩ := M4.out
  obtain ⟨_, a0, a1, a2, a3, _, _, _, _⟩ := P5.out
  obtain ⟨_, q0, q1, q2, q3, _, _, _, _⟩ := Q5.out
  obtain ⟨_, r0, r1, _, _⟩ := M5.out
  go_wp2_with fail
  refine (SB _).mono ?_
  rintro e w6 ⟨rfl, b6⟩
  clear a0 a1 a2 a3 q0 q1 q2 q3 m0 m1 f0 f1 r0 r1
  have B6 : Hid (Below w.heap.size w (w6.alloc (.cells #[.int .u64 0, .int .u64 (d : Int)] 24))) := (B5.out.trans (b6.mono B5.out.size)).alloc (Nat.le_trans B5.out.size b6.size) _
  have P6 : Hid (FlB (w6.alloc (.cells #[.int .u64 0, .int .u64 (d : Int)] 24)) w1.heap.size _ _ _ _) := (P5.out.step b6).al _
  have D6 : Hid (TwB (w6.alloc (.cells #[.int .u64 0, .int .u64 (d : Int)] 24)) w6.heap.size _ _) := TwB.new w6 _ _ _
  clear b6 SB B5 P5 Q5 M4 M5
  go_wp2_with fail
  refine (BT _).mono ?_
  rintro e w7 ⟨rfl, hw7⟩
  subst hw7
  have S := sureS _ (HT.out.below B6.out HT.out.pos)
  obtain ⟨_, a0, a1, a2, a3, _, _, _, _⟩ := P6.out
  obtain ⟨_, d0, d1, _, _⟩ := D6.out
  clear BT
  go_wp2_with fail
  refine S.mono ?_
  rintro e w8 ⟨rfl, b8⟩
  have B8 : Hid (Below w.heap.size w w8) := B6.out.trans (b8.mono B6.out.size)
  clear b8 S B6 P6 D6 a0 a1 a2 a3 d0 d1
  go_wp2
  go_ret
  exact ⟨rfl, B8.out⟩


theorem law_steps (x : Int) (w : World) (hT : Tab w) : Calls Tryd.prog 5 #[.int .i64 x] w fun e w' => e = .returned (.bool true) ∧ Below w.heap.size w w' := by
  by_cases c : x < -400 ∨ 399 < x
  · exact steps_out x c w hT
  · obtain ⟨M, E, pw⟩ := pw_existsS x
    obtain ⟨M', E', pw'⟩ := pw_existsS (x + 1)
    have O1 : ∀ W, Tab W → Calls Tryd.prog 6 #[.int .i64 x] W fun e w' => e = .returned (.tuple #[.agg #[.int .u64 (hiW M), .int .u64 (loW M), .int .i64 E, .bool (decide (0 ≤ x ∧ x ≤ 55))], .nilIface]) ∧ Below W.heap.size W w' := fun W h => by
      refine (of_yes x (by omega) (by omega) W h).mono ?_
      rintro e w' ⟨N, F, rfl, p, b⟩
      obtain ⟨rfl, rfl⟩ := pw.uniq p
      exact ⟨rfl, b⟩
    have O2 : ∀ W, Tab W → Calls Tryd.prog 6 #[.int .i64 (x + 1)] W fun e w' => e = .returned (.tuple #[.agg #[.int .u64 (hiW M'), .int .u64 (loW M'), .int .i64 E', .bool (decide (0 ≤ x + 1 ∧ x + 1 ≤ 55))], .nilIface]) ∧ Below W.heap.size W w' := fun W h => by
      refine (of_yes (x + 1) (by omega) (by omega) W h).mono ?_
      rintro e w' ⟨N, F, rfl, p, b⟩
      obtain ⟨rfl, rfl⟩ := pw'.uniq p
      exact ⟨rfl, b⟩
    have hm : M < 340282366920938463463374607431768211456 := pw.2.1
    have hm' : M' < 340282366920938463463374607431768211456 := pw'.2.1
    have be := bits_exp pw (by omega) (by omega)
    have MW : ∀ W, Calls Tryd.prog 17 #[.agg #[.int .u64 (hiW M), .int .u64 (loW M)], .int .u64 10] W fun e w' => e = .returned (.tuple #[.int .u64 ((M * 10 / 340282366920938463463374607431768211456 : Nat) : Int), .agg #[.int .u64 (hiW (M * 10 % 340282366920938463463374607431768211456)), .int .u64 (loW (M * 10 % 340282366920938463463374607431768211456))]]) ∧ Below W.heap.size W w' := fun W => by
      obtain ⟨a, b, c⟩ := mul_ten M
      have h := wmulw_any (hiW M) (loW M) 10 (hiW_word hm) (loW_word M) ⟨by decide, by decide⟩ W
      rw [a, b, c] at h
      exact h
    have BT : ∀ W, Calls Tryd.prog 12 #[.int .i64 x] W fun e w' => e = .returned (.tuple #[.int .i64 (E + 128), .nilIface]) ∧ w' = W := fun W => by
      have h := bits_call x W
      rw [show lgB x = E + 128 from by unfold lgB; rw [if_neg (by omega)]; exact be, show lgE x = 0 from by unfold lgE; rw [if_neg (by omega)]] at h
      exact h
    have hE : -5000 ≤ E ∧ E ≤ 5000 := by omega
    have RT : ∀ (t : Nat) W, Tab W → Calls Tryd.prog 18 #[.agg #[.int .u64 (hiW (M * 10 % 340282366920938463463374607431768211456)), .int .u64 (loW (M * 10 % 340282366920938463463374607431768211456))], .int .i64 (t : Int)] W fun e w' => e = .returned (.tuple #[.agg #[.int .u64 (hiW (M * 10 % 340282366920938463463374607431768211456 / 2 ^ t)), .int .u64 (loW (M * 10 % 340282366920938463463374607431768211456 / 2 ^ t))], .bool (cutB (M * 10 % 340282366920938463463374607431768211456) (t : Int))]) ∧ Below W.heap.size W w' := fun t W h => by
      have r := wright_any (hiW (M * 10 % 340282366920938463463374607431768211456)) (loW (M * 10 % 340282366920938463463374607431768211456)) (t : Int) (hiW_word (Nat.mod_lt _ (by decide))) (loW_word _) W h
      rw [val_hl] at r
      unfold shr at r
      rw [Int.toNat_natCast] at r
      exact r
    have SB : ∀ (Q : Nat) W, Q ≤ M' → M' ≤ Q + 2 → Calls Tryd.prog 19 #[.agg #[.int .u64 (hiW M'), .int .u64 (loW M')], .agg #[.int .u64 (hiW Q), .int .u64 (loW Q)]] W fun e w' => e = .returned (.tuple #[.agg #[.int .u64 0, .int .u64 ((M' - Q : Nat) : Int)], .bool false]) ∧ Below W.heap.size W w' := fun Q W a b => by
      have r := wsub_any (hiW M') (loW M') (hiW Q) (loW Q) (hiW_word hm') (loW_word M') (hiW_word (by omega)) (loW_word Q) W
      obtain ⟨u, v, z⟩ := sub_two a b
      rw [u, v, z] at r
      exact r
    have t1 := top_bit pw.1 pw.2.1
    have t2 := top_bit pw'.1 pw'.2.1
    rcases st_of pw pw' with s | s
    · rcases (by omega : x < 0 ∨ (0 ≤ x ∧ x ≤ 55) ∨ 55 < x) with c1 | c1 | c1
      · rw [show decide (0 ≤ x ∧ x ≤ 55) = false from decide_eq_false (by omega)] at O1
        exact steps_3n x (by omega) (by omega) c1 w hT (hiW M) (loW M) (hiW M') (loW M') E E' _ _ _ _ _ _ _ _ (M' - M * 10 / 2 ^ 3) O1 O2 t1 t2 ⟨hE, by have := s.exp; omega⟩ MW (by have := s.top; simp only [Nat.reducePow] at this ⊢; omega) (by omega) (fun W h => by have r := RT 3 W h; rw [s.low] at r; exact r) (by have := s.word; simpa using this) (fun W => SB _ W s.le s.ge) (by have := s.ge; omega) BT
      · rw [show decide (0 ≤ x ∧ x ≤ 55) = true from decide_eq_true (by omega)] at O1
        exact steps_3m x (by omega) (by omega) c1.1 c1.2 w hT (hiW M) (loW M) (hiW M') (loW M') E E' _ _ _ _ _ _ _ _ (M' - M * 10 / 2 ^ 3) O1 O2 t1 t2 ⟨hE, by have := s.exp; omega⟩ MW (by have := s.top; simp only [Nat.reducePow] at this ⊢; omega) (by omega) (fun W h => by have r := RT 3 W h; rw [s.low] at r; exact r) (by have := s.word; simpa using this) (fun W => SB _ W s.le s.ge) (by have := s.ge; omega) BT
      · rw [show decide (0 ≤ x ∧ x ≤ 55) = false from decide_eq_false (by omega)] at O1
        exact steps_3b x (by omega) (by omega) c1 w hT (hiW M) (loW M) (hiW M') (loW M') E E' _ _ _ _ _ _ _ _ (M' - M * 10 / 2 ^ 3) O1 O2 t1 t2 ⟨hE, by have := s.exp; omega⟩ MW (by have := s.top; simp only [Nat.reducePow] at this ⊢; omega) (by omega) (fun W h => by have r := RT 3 W h; rw [s.low] at r; exact r) (by have := s.word; simpa using this) (fun W => SB _ W s.le s.ge) (by have := s.ge; omega) BT
    · rcases (by omega : x < 0 ∨ (0 ≤ x ∧ x ≤ 55) ∨ 55 < x) with c1 | c1 | c1
      · rw [show decide (0 ≤ x ∧ x ≤ 55) = false from decide_eq_false (by omega)] at O1
        exact steps_4n x (by omega) (by omega) c1 w hT (hiW M) (loW M) (hiW M') (loW M') E E' _ _ _ _ _ _ _ _ (M' - M * 10 / 2 ^ 4) O1 O2 t1 t2 ⟨hE, by have := s.exp; omega⟩ MW (by have := s.top; simp only [Nat.reducePow] at this ⊢; omega) (by omega) (fun W h => by have r := RT 4 W h; rw [s.low] at r; exact r) (by have := s.word; simpa using this) (fun W => SB _ W s.le s.ge) (by have := s.ge; omega) BT
      · rw [show decide (0 ≤ x ∧ x ≤ 55) = true from decide_eq_true (by omega)] at O1
        exact steps_4m x (by omega) (by omega) c1.1 c1.2 w hT (hiW M) (loW M) (hiW M') (loW M') E E' _ _ _ _ _ _ _ _ (M' - M * 10 / 2 ^ 4) O1 O2 t1 t2 ⟨hE, by have := s.exp; omega⟩ MW (by have := s.top; simp only [Nat.reducePow] at this ⊢; omega) (by omega) (fun W h => by have r := RT 4 W h; rw [s.low] at r; exact r) (by have := s.word; simpa using this) (fun W => SB _ W s.le s.ge) (by have := s.ge; omega) BT
      · rw [show decide (0 ≤ x ∧ x ≤ 55) = false from decide_eq_false (by omega)] at O1
        exact steps_4b x (by omega) (by omega) c1 w hT (hiW M) (loW M) (hiW M') (loW M') E E' _ _ _ _ _ _ _ _ (M' - M * 10 / 2 ^ 4) O1 O2 t1 t2 ⟨hE, by have := s.exp; omega⟩ MW (by have := s.top; simp only [Nat.reducePow] at this ⊢; omega) (by omega) (fun W h => by have r := RT 4 W h; rw [s.low] at r; exact r) (by have := s.word; simpa using this) (fun W => SB _ W s.le s.ge) (by have := s.ge; omega) BT

end Go.Proofs.YtlbbilldehlheaaDoor
