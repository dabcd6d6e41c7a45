/-
  The law's text: what it answers, case by case and whole.
-/
import Derived.Test.YtjgdbphhhplifaaDoorScGb
import Derived.Test.YtjgdbphhhplifaaDoorScK
namespace Go.Proofs.YtjgdbphhhplifaaDoor
open Go.RowKit

set_option maxRecDepth 100000 in
set_option maxHeartbeats 4000000 in
theorem text_0000 (S W P ES E B T1 : ByteArray) (ga : Option Addr) (gn gc : Nat) (ao : Option Addr) (n c : Nat) (w : World)
    (BR0 : ∀ V, Below w.heap.size w V → Calls Tryd.prog 40 #[.string W, .slice ao n c, .int .i64 0] V fun e w' => e = .returned (.string B) ∧ Below V.heap.size V w')
    (e0 : S ++ B = T1) (_zS : S.size ≤ 20000) (_zB : B.size ≤ 20000) (_zT1 : T1.size ≤ 20000) :
    Calls Tryd.prog 19 #[.agg #[.string S, .string W, .string P, .string ES, .string E, .bool false, .bool false, .bool false, .bool false, .slice ga gn gc], .slice ao n c] w fun e w' => e = .returned (.string T1) ∧ Below w.heap.size w w' := by
  have n0 : ¬ 9223372036854775807 < S.size + B.size := by omega
  have X0 : Hid (Bx (w.alloc (.cells #[.string S, .string W, .string P, .string ES, .string E, .bool false, .bool false, .bool false, .bool false, .slice ga gn gc] 44)) w.heap.size #[.string S, .string W, .string P, .string ES, .string E, .bool false, .bool false, .bool false, .bool false, .slice ga gn gc]) := Bx.new _ _ _
  have B0 : Hid (Below w.heap.size w (w.alloc (.cells #[.string S, .string W, .string P, .string ES, .string E, .bool false, .bool false, .bool false, .bool false, .slice ga gn gc] 44))) := (Below.refl _ _).alloc (Nat.le_refl _) _
  go_enter Tryd.func19, Tryd.ntmps19
  go_wp2_with fail
  refine (BR0 _ B0.out).mono ?_
  rintro o w1 ⟨rfl, b1⟩
  have X1 : Hid (Bx w1 w.heap.size #[.string S, .string W, .string P, .string ES, .string E, .bool false, .bool false, .bool false, .bool false, .slice ga gn gc]) := X0.out.step b1
  have B1 : Hid (Below w.heap.size w w1) := B0.out.trans (b1.mono B0.out.size)
  clear b1
  obtain ⟨l1, c1⟩ := X1.out
  have a1_2 : w1.cell? ⟨w.heap.size, 2, none⟩ = some (.string P) := c1 2
  have a1_3 : w1.cell? ⟨w.heap.size, 3, none⟩ = some (.string ES) := c1 3
  have a1_4 : w1.cell? ⟨w.heap.size, 4, none⟩ = some (.string E) := c1 4
  have a1_5 : w1.cell? ⟨w.heap.size, 5, none⟩ = some (.bool false) := c1 5
  have a1_6 : w1.cell? ⟨w.heap.size, 6, none⟩ = some (.bool false) := c1 6
  have a1_7 : w1.cell? ⟨w.heap.size, 7, none⟩ = some (.bool false) := c1 7
  have a1_8 : w1.cell? ⟨w.heap.size, 8, none⟩ = some (.bool false) := c1 8
  clear c1
  go_wp2
  go_ret
  exact ⟨rfl, B1.out⟩
set_option maxRecDepth 100000 in
set_option maxHeartbeats 4000000 in
theorem text_0001 (S W P ES E B D T1 T2 T3 T4 : ByteArray) (ga : Option Addr) (gn gc : Nat) (ao : Option Addr) (n c : Nat) (w : World)
    (BR0 : ∀ V, Below w.heap.size w V → Calls Tryd.prog 40 #[.string W, .slice ao n c, .int .i64 0] V fun e w' => e = .returned (.string B) ∧ Below V.heap.size V w')
    (BR2 : ∀ V, Below w.heap.size w V → Calls Tryd.prog 40 #[.string E, .slice ao n c, .int .i64 2] V fun e w' => e = .returned (.string D) ∧ Below V.heap.size V w')
    (e0 : S ++ B = T1)
    (e1 : T1 ++ ⟨#[101]⟩ = T2)
    (e2 : T2 ++ ES = T3)
    (e3 : T3 ++ D = T4) (_zS : S.size ≤ 20000) (_zB : B.size ≤ 20000) (_zES : ES.size ≤ 20000) (_zD : D.size ≤ 20000) (_zT1 : T1.size ≤ 20000) (_zT2 : T2.size ≤ 20000) (_zT3 : T3.size ≤ 20000) (_zT4 : T4.size ≤ 20000) :
    Calls Tryd.prog 19 #[.agg #[.string S, .string W, .string P, .string ES, .string E, .bool false, .bool false, .bool true, .bool false, .slice ga gn gc], .slice ao n c] w fun e w' => e = .returned (.string T4) ∧ Below w.heap.size w w' := by
  have n0 : ¬ 9223372036854775807 < S.size + B.size := by omega
  have n1 : ¬ 9223372036854775807 < T1.size + (⟨#[101]⟩ : ByteArray).size := by have q : (⟨#[101]⟩ : ByteArray).size ≤ 2 := (by decide); omega
  have m1 : ¬ 9223372036854775807 < T1.size + 1 := by omega
  have n2 : ¬ 9223372036854775807 < T2.size + ES.size := by omega
  have n3 : ¬ 9223372036854775807 < T3.size + D.size := by omega
  have X0 : Hid (Bx (w.alloc (.cells #[.string S, .string W, .string P, .string ES, .string E, .bool false, .bool false, .bool true, .bool false, .slice ga gn gc] 44)) w.heap.size #[.string S, .string W, .string P, .string ES, .string E, .bool false, .bool false, .bool true, .bool false, .slice ga gn gc]) := Bx.new _ _ _
  have B0 : Hid (Below w.heap.size w (w.alloc (.cells #[.string S, .string W, .string P, .string ES, .string E, .bool false, .bool false, .bool true, .bool false, .slice ga gn gc] 44))) := (Below.refl _ _).alloc (Nat.le_refl _) _
  go_enter Tryd.func19, Tryd.ntmps19
  go_wp2_with fail
  refine (BR0 _ B0.out).mono ?_
  rintro o w1 ⟨rfl, b1⟩
  have X1 : Hid (Bx w1 w.heap.size #[.string S, .string W, .string P, .string ES, .string E, .bool false, .bool false, .bool true, .bool false, .slice ga gn gc]) := X0.out.step b1
  have B1 : Hid (Below w.heap.size w w1) := B0.out.trans (b1.mono B0.out.size)
  clear b1
  obtain ⟨l1, c1⟩ := X1.out
  have a1_2 : w1.cell? ⟨w.heap.size, 2, none⟩ = some (.string P) := c1 2
  have a1_3 : w1.cell? ⟨w.heap.size, 3, none⟩ = some (.string ES) := c1 3
  have a1_4 : w1.cell? ⟨w.heap.size, 4, none⟩ = some (.string E) := c1 4
  have a1_5 : w1.cell? ⟨w.heap.size, 5, none⟩ = some (.bool false) := c1 5
  have a1_6 : w1.cell? ⟨w.heap.size, 6, none⟩ = some (.bool false) := c1 6
  have a1_7 : w1.cell? ⟨w.heap.size, 7, none⟩ = some (.bool true) := c1 7
  have a1_8 : w1.cell? ⟨w.heap.size, 8, none⟩ = some (.bool false) := c1 8
  clear c1
  go_wp2
  go_region_held3 (fun w' => w'.cell? ⟨w.heap.size, 3, none⟩ = some (.string ES) ∧ w'.cell? ⟨w.heap.size, 4, none⟩ = some (.string E)) (first | exact ⟨k3, k4⟩ | exact ⟨a1_3, a1_4⟩)
    (first
      | (go_at_call 40; refine (BR2 _ B1.out.drew).mono ?_; rintro o w9 ⟨rfl, b9⟩; have X9 : Hid (Bx w9 w.heap.size #[.string S, .string W, .string P, .string ES, .string E, .bool false, .bool false, .bool true, .bool false, .slice ga gn gc]) := X1.out.drew.step b9; have B9 : Hid (Below w.heap.size w w9) := B1.out.drew.trans (b9.mono B1.out.size); clear b9; have k3 : w9.cell? ⟨w.heap.size, 3, none⟩ = some (.string ES) := X9.out.cell 3; have k4 : w9.cell? ⟨w.heap.size, 4, none⟩ = some (.string E) := X9.out.cell 4))
  all_goals
    go_wp2
    go_ret
    exact ⟨rfl, B9.out⟩
set_option maxRecDepth 100000 in
set_option maxHeartbeats 4000000 in
theorem text_0010 (S W P ES E B C T1 T2 T3 : ByteArray) (ga : Option Addr) (gn gc : Nat) (ao : Option Addr) (n c : Nat) (w : World)
    (BR0 : ∀ V, Below w.heap.size w V → Calls Tryd.prog 40 #[.string W, .slice ao n c, .int .i64 0] V fun e w' => e = .returned (.string B) ∧ Below V.heap.size V w')
    (BR1 : ∀ V, Below w.heap.size w V → Calls Tryd.prog 40 #[.string P, .slice ao n c, .int .i64 1] V fun e w' => e = .returned (.string C) ∧ Below V.heap.size V w')
    (e0 : S ++ B = T1)
    (e1 : T1 ++ ⟨#[46]⟩ = T2)
    (e2 : T2 ++ C = T3) (_zS : S.size ≤ 20000) (_zB : B.size ≤ 20000) (_zC : C.size ≤ 20000) (_zT1 : T1.size ≤ 20000) (_zT2 : T2.size ≤ 20000) (_zT3 : T3.size ≤ 20000) :
    Calls Tryd.prog 19 #[.agg #[.string S, .string W, .string P, .string ES, .string E, .bool true, .bool false, .bool false, .bool false, .slice ga gn gc], .slice ao n c] w fun e w' => e = .returned (.string T3) ∧ Below w.heap.size w w' := by
  have n0 : ¬ 9223372036854775807 < S.size + B.size := by omega
  have n1 : ¬ 9223372036854775807 < T1.size + (⟨#[46]⟩ : ByteArray).size := by have q : (⟨#[46]⟩ : ByteArray).size ≤ 2 := (by decide); omega
  have m1 : ¬ 9223372036854775807 < T1.size + 1 := by omega
  have n2 : ¬ 9223372036854775807 < T2.size + C.size := by omega
  have X0 : Hid (Bx (w.alloc (.cells #[.string S, .string W, .string P, .string ES, .string E, .bool true, .bool false, .bool false, .bool false, .slice ga gn gc] 44)) w.heap.size #[.string S, .string W, .string P, .string ES, .string E, .bool true, .bool false, .bool false, .bool false, .slice ga gn gc]) := Bx.new _ _ _
  have B0 : Hid (Below w.heap.size w (w.alloc (.cells #[.string S, .string W, .string P, .string ES, .string E, .bool true, .bool false, .bool false, .bool false, .slice ga gn gc] 44))) := (Below.refl _ _).alloc (Nat.le_refl _) _
  go_enter Tryd.func19, Tryd.ntmps19
  go_wp2_with fail
  refine (BR0 _ B0.out).mono ?_
  rintro o w1 ⟨rfl, b1⟩
  have X1 : Hid (Bx w1 w.heap.size #[.string S, .string W, .string P, .string ES, .string E, .bool true, .bool false, .bool false, .bool false, .slice ga gn gc]) := X0.out.step b1
  have B1 : Hid (Below w.heap.size w w1) := B0.out.trans (b1.mono B0.out.size)
  clear b1
  obtain ⟨l1, c1⟩ := X1.out
  have a1_2 : w1.cell? ⟨w.heap.size, 2, none⟩ = some (.string P) := c1 2
  have a1_3 : w1.cell? ⟨w.heap.size, 3, none⟩ = some (.string ES) := c1 3
  have a1_4 : w1.cell? ⟨w.heap.size, 4, none⟩ = some (.string E) := c1 4
  have a1_5 : w1.cell? ⟨w.heap.size, 5, none⟩ = some (.bool true) := c1 5
  have a1_6 : w1.cell? ⟨w.heap.size, 6, none⟩ = some (.bool false) := c1 6
  have a1_7 : w1.cell? ⟨w.heap.size, 7, none⟩ = some (.bool false) := c1 7
  have a1_8 : w1.cell? ⟨w.heap.size, 8, none⟩ = some (.bool false) := c1 8
  clear c1
  go_wp2_with fail
  refine (BR1 _ B1.out).mono ?_
  rintro o w2 ⟨rfl, b2⟩
  have X2 : Hid (Bx w2 w.heap.size #[.string S, .string W, .string P, .string ES, .string E, .bool true, .bool false, .bool false, .bool false, .slice ga gn gc]) := X1.out.step b2
  have B2 : Hid (Below w.heap.size w w2) := B1.out.trans (b2.mono B1.out.size)
  clear b2
  obtain ⟨l2, c2⟩ := X2.out
  have a2_2 : w2.cell? ⟨w.heap.size, 2, none⟩ = some (.string P) := c2 2
  have a2_3 : w2.cell? ⟨w.heap.size, 3, none⟩ = some (.string ES) := c2 3
  have a2_4 : w2.cell? ⟨w.heap.size, 4, none⟩ = some (.string E) := c2 4
  have a2_5 : w2.cell? ⟨w.heap.size, 5, none⟩ = some (.bool true) := c2 5
  have a2_6 : w2.cell? ⟨w.heap.size, 6, none⟩ = some (.bool false) := c2 6
  have a2_7 : w2.cell? ⟨w.heap.size, 7, none⟩ = some (.bool false) := c2 7
  have a2_8 : w2.cell? ⟨w.heap.size, 8, none⟩ = some (.bool false) := c2 8
  clear c2
  go_wp2
  go_ret
  exact ⟨rfl, B2.out⟩
set_option maxRecDepth 100000 in
set_option maxHeartbeats 4000000 in
theorem text_0011 (S W P ES E B C D T1 T2 T3 T4 T5 T6 : ByteArray) (ga : Option Addr) (gn gc : Nat) (ao : Option Addr) (n c : Nat) (w : World)
    (BR0 : ∀ V, Below w.heap.size w V → Calls Tryd.prog 40 #[.string W, .slice ao n c, .int .i64 0] V fun e w' => e = .returned (.string B) ∧ Below V.heap.size V w')
    (BR1 : ∀ V, Below w.heap.size w V → Calls Tryd.prog 40 #[.string P, .slice ao n c, .int .i64 1] V fun e w' => e = .returned (.string C) ∧ Below V.heap.size V w')
    (BR2 : ∀ V, Below w.heap.size w V → Calls Tryd.prog 40 #[.string E, .slice ao n c, .int .i64 2] V fun e w' => e = .returned (.string D) ∧ Below V.heap.size V w')
    (e0 : S ++ B = T1)
    (e1 : T1 ++ ⟨#[46]⟩ = T2)
    (e2 : T2 ++ C = T3)
    (e3 : T3 ++ ⟨#[101]⟩ = T4)
    (e4 : T4 ++ ES = T5)
    (e5 : T5 ++ D = T6) (_zS : S.size ≤ 20000) (_zB : B.size ≤ 20000) (_zC : C.size ≤ 20000) (_zES : ES.size ≤ 20000) (_zD : D.size ≤ 20000) (_zT1 : T1.size ≤ 20000) (_zT2 : T2.size ≤ 20000) (_zT3 : T3.size ≤ 20000) (_zT4 : T4.size ≤ 20000) (_zT5 : T5.size ≤ 20000) (_zT6 : T6.size ≤ 20000) :
    Calls Tryd.prog 19 #[.agg #[.string S, .string W, .string P, .string ES, .string E, .bool true, .bool false, .bool true, .bool false, .slice ga gn gc], .slice ao n c] w fun e w' => e = .returned (.string T6) ∧ Below w.heap.size w w' := by
  have n0 : ¬ 9223372036854775807 < S.size + B.size := by omega
  have n1 : ¬ 9223372036854775807 < T1.size + (⟨#[46]⟩ : ByteArray).size := by have q : (⟨#[46]⟩ : ByteArray).size ≤ 2 := (by decide); omega
  have m1 : ¬ 9223372036854775807 < T1.size + 1 := by omega
  have n2 : ¬ 9223372036854775807 < T2.size + C.size := by omega
  have n3 : ¬ 9223372036854775807 < T3.size + (⟨#[101]⟩ : ByteArray).size := by have q : (⟨#[101]⟩ : ByteArray).size ≤ 2 := (by decide); omega
  have m3 : ¬ 9223372036854775807 < T3.size + 1 := by omega
  have n4 : ¬ 9223372036854775807 < T4.size + ES.size := by omega
  have n5 : ¬ 9223372036854775807 < T5.size + D.size := by omega
  have X0 : Hid (Bx (w.alloc (.cells #[.string S, .string W, .string P, .string ES, .string E, .bool true, .bool false, .bool true, .bool false, .slice ga gn gc] 44)) w.heap.size #[.string S, .string W, .string P, .string ES, .string E, .bool true, .bool false, .bool true, .bool false, .slice ga gn gc]) := Bx.new _ _ _
  have B0 : Hid (Below w.heap.size w (w.alloc (.cells #[.string S, .string W, .string P, .string ES, .string E, .bool true, .bool false, .bool true, .bool false, .slice ga gn gc] 44))) := (Below.refl _ _).alloc (Nat.le_refl _) _
  go_enter Tryd.func19, Tryd.ntmps19
  go_wp2_with fail
  refine (BR0 _ B0.out).mono ?_
  rintro o w1 ⟨rfl, b1⟩
  have X1 : Hid (Bx w1 w.heap.size #[.string S, .string W, .string P, .string ES, .string E, .bool true, .bool false, .bool true, .bool false, .slice ga gn gc]) := X0.out.step b1
  have B1 : Hid (Below w.heap.size w w1) := B0.out.trans (b1.mono B0.out.size)
  clear b1
  obtain ⟨l1, c1⟩ := X1.out
  have a1_2 : w1.cell? ⟨w.heap.size, 2, none⟩ = some (.string P) := c1 2
  have a1_3 : w1.cell? ⟨w.heap.size, 3, none⟩ = some (.string ES) := c1 3
  have a1_4 : w1.cell? ⟨w.heap.size, 4, none⟩ = some (.string E) := c1 4
  have a1_5 : w1.cell? ⟨w.heap.size, 5, none⟩ = some (.bool true) := c1 5
  have a1_6 : w1.cell? ⟨w.heap.size, 6, none⟩ = some (.bool false) := c1 6
  have a1_7 : w1.cell? ⟨w.heap.size, 7, none⟩ = some (.bool true) := c1 7
  have a1_8 : w1.cell? ⟨w.heap.size, 8, none⟩ = some (.bool false) := c1 8
  clear c1
  go_wp2_with fail
  refine (BR1 _ B1.out).mono ?_
  rintro o w2 ⟨rfl, b2⟩
  have X2 : Hid (Bx w2 w.heap.size #[.string S, .string W, .string P, .string ES, .string E, .bool true, .bool false, .bool true, .bool false, .slice ga gn gc]) := X1.out.step b2
  have B2 : Hid (Below w.heap.size w w2) := B1.out.trans (b2.mono B1.out.size)
  clear b2
  obtain ⟨l2, c2⟩ := X2.out
  have a2_2 : w2.cell? ⟨w.heap.size, 2, none⟩ = some (.string P) := c2 2
  have a2_3 : w2.cell? ⟨w.heap.size, 3, none⟩ = some (.string ES) := c2 3
  have a2_4 : w2.cell? ⟨w.heap.size, 4, none⟩ = some (.string E) := c2 4
  have a2_5 : w2.cell? ⟨w.heap.size, 5, none⟩ = some (.bool true) := c2 5
  have a2_6 : w2.cell? ⟨w.heap.size, 6, none⟩ = some (.bool false) := c2 6
  have a2_7 : w2.cell? ⟨w.heap.size, 7, none⟩ = some (.bool true) := c2 7
  have a2_8 : w2.cell? ⟨w.heap.size, 8, none⟩ = some (.bool false) := c2 8
  clear c2
  go_wp2
  go_region_held3 (fun w' => w'.cell? ⟨w.heap.size, 3, none⟩ = some (.string ES) ∧ w'.cell? ⟨w.heap.size, 4, none⟩ = some (.string E)) (first | exact ⟨k3, k4⟩ | exact ⟨a2_3, a2_4⟩)
    (first
      | (go_at_call 40; refine (BR2 _ B2.out.drew).mono ?_; rintro o w9 ⟨rfl, b9⟩; have X9 : Hid (Bx w9 w.heap.size #[.string S, .string W, .string P, .string ES, .string E, .bool true, .bool false, .bool true, .bool false, .slice ga gn gc]) := X2.out.drew.step b9; have B9 : Hid (Below w.heap.size w w9) := B2.out.drew.trans (b9.mono B2.out.size); clear b9; have k3 : w9.cell? ⟨w.heap.size, 3, none⟩ = some (.string ES) := X9.out.cell 3; have k4 : w9.cell? ⟨w.heap.size, 4, none⟩ = some (.string E) := X9.out.cell 4))
  all_goals
    go_wp2
    go_ret
    exact ⟨rfl, B9.out⟩
set_option maxRecDepth 100000 in
set_option maxHeartbeats 4000000 in
theorem text_0100 (S W P ES E B T1 : ByteArray) (ga : Option Addr) (gn gc : Nat) (ao : Option Addr) (n c : Nat) (w : World)
    (BR0 : ∀ V, Below w.heap.size w V → Calls Tryd.prog 40 #[.string W, .slice ao n c, .int .i64 0] V fun e w' => e = .returned (.string B) ∧ Below V.heap.size V w')
    (e0 : S ++ B = T1) (_zS : S.size ≤ 20000) (_zB : B.size ≤ 20000) (_zT1 : T1.size ≤ 20000) :
    Calls Tryd.prog 19 #[.agg #[.string S, .string W, .string P, .string ES, .string E, .bool false, .bool false, .bool false, .bool true, .slice ga gn gc], .slice ao n c] w fun e w' => e = .returned (.string T1) ∧ Below w.heap.size w w' := by
  have n0 : ¬ 9223372036854775807 < S.size + B.size := by omega
  have X0 : Hid (Bx (w.alloc (.cells #[.string S, .string W, .string P, .string ES, .string E, .bool false, .bool false, .bool false, .bool true, .slice ga gn gc] 44)) w.heap.size #[.string S, .string W, .string P, .string ES, .string E, .bool false, .bool false, .bool false, .bool true, .slice ga gn gc]) := Bx.new _ _ _
  have B0 : Hid (Below w.heap.size w (w.alloc (.cells #[.string S, .string W, .string P, .string ES, .string E, .bool false, .bool false, .bool false, .bool true, .slice ga gn gc] 44))) := (Below.refl _ _).alloc (Nat.le_refl _) _
  go_enter Tryd.func19, Tryd.ntmps19
  go_wp2_with fail
  refine (BR0 _ B0.out).mono ?_
  rintro o w1 ⟨rfl, b1⟩
  have X1 : Hid (Bx w1 w.heap.size #[.string S, .string W, .string P, .string ES, .string E, .bool false, .bool false, .bool false, .bool true, .slice ga gn gc]) := X0.out.step b1
  have B1 : Hid (Below w.heap.size w w1) := B0.out.trans (b1.mono B0.out.size)
  clear b1
  obtain ⟨l1, c1⟩ := X1.out
  have a1_2 : w1.cell? ⟨w.heap.size, 2, none⟩ = some (.string P) := c1 2
  have a1_3 : w1.cell? ⟨w.heap.size, 3, none⟩ = some (.string ES) := c1 3
  have a1_4 : w1.cell? ⟨w.heap.size, 4, none⟩ = some (.string E) := c1 4
  have a1_5 : w1.cell? ⟨w.heap.size, 5, none⟩ = some (.bool false) := c1 5
  have a1_6 : w1.cell? ⟨w.heap.size, 6, none⟩ = some (.bool false) := c1 6
  have a1_7 : w1.cell? ⟨w.heap.size, 7, none⟩ = some (.bool false) := c1 7
  have a1_8 : w1.cell? ⟨w.heap.size, 8, none⟩ = some (.bool true) := c1 8
  clear c1
  go_wp2
  go_ret
  exact ⟨rfl, B1.out⟩
set_option maxRecDepth 100000 in
set_option maxHeartbeats 4000000 in
theorem text_0101 (S W P ES E B D T1 T2 T3 T4 : ByteArray) (ga : Option Addr) (gn gc : Nat) (ao : Option Addr) (n c : Nat) (w : World)
    (BR0 : ∀ V, Below w.heap.size w V → Calls Tryd.prog 40 #[.string W, .slice ao n c, .int .i64 0] V fun e w' => e = .returned (.string B) ∧ Below V.heap.size V w')
    (BR2 : ∀ V, Below w.heap.size w V → Calls Tryd.prog 40 #[.string E, .slice ao n c, .int .i64 2] V fun e w' => e = .returned (.string D) ∧ Below V.heap.size V w')
    (e0 : S ++ B = T1)
    (e1 : T1 ++ ⟨#[69]⟩ = T2)
    (e2 : T2 ++ ES = T3)
    (e3 : T3 ++ D = T4) (_zS : S.size ≤ 20000) (_zB : B.size ≤ 20000) (_zES : ES.size ≤ 20000) (_zD : D.size ≤ 20000) (_zT1 : T1.size ≤ 20000) (_zT2 : T2.size ≤ 20000) (_zT3 : T3.size ≤ 20000) (_zT4 : T4.size ≤ 20000) :
    Calls Tryd.prog 19 #[.agg #[.string S, .string W, .string P, .string ES, .string E, .bool false, .bool false, .bool true, .bool true, .slice ga gn gc], .slice ao n c] w fun e w' => e = .returned (.string T4) ∧ Below w.heap.size w w' := by
  have n0 : ¬ 9223372036854775807 < S.size + B.size := by omega
  have n1 : ¬ 9223372036854775807 < T1.size + (⟨#[69]⟩ : ByteArray).size := by have q : (⟨#[69]⟩ : ByteArray).size ≤ 2 := (by decide); omega
  have m1 : ¬ 9223372036854775807 < T1.size + 1 := by omega
  have n2 : ¬ 9223372036854775807 < T2.size + ES.size := by omega
  have n3 : ¬ 9223372036854775807 < T3.size + D.size := by omega
  have X0 : Hid (Bx (w.alloc (.cells #[.string S, .string W, .string P, .string ES, .string E, .bool false, .bool false, .bool true, .bool true, .slice ga gn gc] 44)) w.heap.size #[.string S, .string W, .string P, .string ES, .string E, .bool false, .bool false, .bool true, .bool true, .slice ga gn gc]) := Bx.new _ _ _
  have B0 : Hid (Below w.heap.size w (w.alloc (.cells #[.string S, .string W, .string P, .string ES, .string E, .bool false, .bool false, .bool true, .bool true, .slice ga gn gc] 44))) := (Below.refl _ _).alloc (Nat.le_refl _) _
  go_enter Tryd.func19, Tryd.ntmps19
  go_wp2_with fail
  refine (BR0 _ B0.out).mono ?_
  rintro o w1 ⟨rfl, b1⟩
  have X1 : Hid (Bx w1 w.heap.size #[.string S, .string W, .string P, .string ES, .string E, .bool false, .bool false, .bool true, .bool true, .slice ga gn gc]) := X0.out.step b1
  have B1 : Hid (Below w.heap.size w w1) := B0.out.trans (b1.mono B0.out.size)
  clear b1
  obtain ⟨l1, c1⟩ := X1.out
  have a1_2 : w1.cell? ⟨w.heap.size, 2, none⟩ = some (.string P) := c1 2
  have a1_3 : w1.cell? ⟨w.heap.size, 3, none⟩ = some (.string ES) := c1 3
  have a1_4 : w1.cell? ⟨w.heap.size, 4, none⟩ = some (.string E) := c1 4
  have a1_5 : w1.cell? ⟨w.heap.size, 5, none⟩ = some (.bool false) := c1 5
  have a1_6 : w1.cell? ⟨w.heap.size, 6, none⟩ = some (.bool false) := c1 6
  have a1_7 : w1.cell? ⟨w.heap.size, 7, none⟩ = some (.bool true) := c1 7
  have a1_8 : w1.cell? ⟨w.heap.size, 8, none⟩ = some (.bool true) := c1 8
  clear c1
  go_wp2
  go_region_held3 (fun w' => w'.cell? ⟨w.heap.size, 3, none⟩ = some (.string ES) ∧ w'.cell? ⟨w.heap.size, 4, none⟩ = some (.string E)) (first | exact ⟨k3, k4⟩ | exact ⟨a1_3, a1_4⟩)
    (first
      | (go_at_call 40; refine (BR2 _ B1.out.drew).mono ?_; rintro o w9 ⟨rfl, b9⟩; have X9 : Hid (Bx w9 w.heap.size #[.string S, .string W, .string P, .string ES, .string E, .bool false, .bool false, .bool true, .bool true, .slice ga gn gc]) := X1.out.drew.step b9; have B9 : Hid (Below w.heap.size w w9) := B1.out.drew.trans (b9.mono B1.out.size); clear b9; have k3 : w9.cell? ⟨w.heap.size, 3, none⟩ = some (.string ES) := X9.out.cell 3; have k4 : w9.cell? ⟨w.heap.size, 4, none⟩ = some (.string E) := X9.out.cell 4))
  all_goals
    go_wp2
    go_ret
    exact ⟨rfl, B9.out⟩
set_option maxRecDepth 100000 in
set_option maxHeartbeats 4000000 in
theorem text_0110 (S W P ES E B C T1 T2 T3 : ByteArray) (ga : Option Addr) (gn gc : Nat) (ao : Option Addr) (n c : Nat) (w : World)
    (BR0 : ∀ V, Below w.heap.size w V → Calls Tryd.prog 40 #[.string W, .slice ao n c, .int .i64 0] V fun e w' => e = .returned (.string B) ∧ Below V.heap.size V w')
    (BR1 : ∀ V, Below w.heap.size w V → Calls Tryd.prog 40 #[.string P, .slice ao n c, .int .i64 1] V fun e w' => e = .returned (.string C) ∧ Below V.heap.size V w')
    (e0 : S ++ B = T1)
    (e1 : T1 ++ ⟨#[46]⟩ = T2)
    (e2 : T2 ++ C = T3) (_zS : S.size ≤ 20000) (_zB : B.size ≤ 20000) (_zC : C.size ≤ 20000) (_zT1 : T1.size ≤ 20000) (_zT2 : T2.size ≤ 20000) (_zT3 : T3.size ≤ 20000) :
    Calls Tryd.prog 19 #[.agg #[.string S, .string W, .string P, .string ES, .string E, .bool true, .bool false, .bool false, .bool true, .slice ga gn gc], .slice ao n c] w fun e w' => e = .returned (.string T3) ∧ Below w.heap.size w w' := by
  have n0 : ¬ 9223372036854775807 < S.size + B.size := by omega
  have n1 : ¬ 9223372036854775807 < T1.size + (⟨#[46]⟩ : ByteArray).size := by have q : (⟨#[46]⟩ : ByteArray).size ≤ 2 := (by decide); omega
  have m1 : ¬ 9223372036854775807 < T1.size + 1 := by omega
  have n2 : ¬ 9223372036854775807 < T2.size + C.size := by omega
  have X0 : Hid (Bx (w.alloc (.cells #[.string S, .string W, .string P, .string ES, .string E, .bool true, .bool false, .bool false, .bool true, .slice ga gn gc] 44)) w.heap.size #[.string S, .string W, .string P, .string ES, .string E, .bool true, .bool false, .bool false, .bool true, .slice ga gn gc]) := Bx.new _ _ _
  have B0 : Hid (Below w.heap.size w (w.alloc (.cells #[.string S, .string W, .string P, .string ES, .string E, .bool true, .bool false, .bool false, .bool true, .slice ga gn gc] 44))) := (Below.refl _ _).alloc (Nat.le_refl _) _
  go_enter Tryd.func19, Tryd.ntmps19
  go_wp2_with fail
  refine (BR0 _ B0.out).mono ?_
  rintro o w1 ⟨rfl, b1⟩
  have X1 : Hid (Bx w1 w.heap.size #[.string S, .string W, .string P, .string ES, .string E, .bool true, .bool false, .bool false, .bool true, .slice ga gn gc]) := X0.out.step b1
  have B1 : Hid (Below w.heap.size w w1) := B0.out.trans (b1.mono B0.out.size)
  clear b1
  obtain ⟨l1, c1⟩ := X1.out
  have a1_2 : w1.cell? ⟨w.heap.size, 2, none⟩ = some (.string P) := c1 2
  have a1_3 : w1.cell? ⟨w.heap.size, 3, none⟩ = some (.string ES) := c1 3
  have a1_4 : w1.cell? ⟨w.heap.size, 4, none⟩ = some (.string E) := c1 4
  have a1_5 : w1.cell? ⟨w.heap.size, 5, none⟩ = some (.bool true) := c1 5
  have a1_6 : w1.cell? ⟨w.heap.size, 6, none⟩ = some (.bool false) := c1 6
  have a1_7 : w1.cell? ⟨w.heap.size, 7, none⟩ = some (.bool false) := c1 7
  have a1_8 : w1.cell? ⟨w.heap.size, 8, none⟩ = some (.bool true) := c1 8
  clear c1
  go_wp2_with fail
  refine (BR1 _ B1.out).mono ?_
  rintro o w2 ⟨rfl, b2⟩
  have X2 : Hid (Bx w2 w.heap.size #[.string S, .string W, .string P, .string ES, .string E, .bool true, .bool false, .bool false, .bool true, .slice ga gn gc]) := X1.out.step b2
  have B2 : Hid (Below w.heap.size w w2) := B1.out.trans (b2.mono B1.out.size)
  clear b2
  obtain ⟨l2, c2⟩ := X2.out
  have a2_2 : w2.cell? ⟨w.heap.size, 2, none⟩ = some (.string P) := c2 2
  have a2_3 : w2.cell? ⟨w.heap.size, 3, none⟩ = some (.string ES) := c2 3
  have a2_4 : w2.cell? ⟨w.heap.size, 4, none⟩ = some (.string E) := c2 4
  have a2_5 : w2.cell? ⟨w.heap.size, 5, none⟩ = some (.bool true) := c2 5
  have a2_6 : w2.cell? ⟨w.heap.size, 6, none⟩ = some (.bool false) := c2 6
  have a2_7 : w2.cell? ⟨w.heap.size, 7, none⟩ = some (.bool false) := c2 7
  have a2_8 : w2.cell? ⟨w.heap.size, 8, none⟩ = some (.bool true) := c2 8
  clear c2
  go_wp2
  go_ret
  exact ⟨rfl, B2.out⟩
set_option maxRecDepth 100000 in
set_option maxHeartbeats 4000000 in
theorem text_0111 (S W P ES E B C D T1 T2 T3 T4 T5 T6 : ByteArray) (ga : Option Addr) (gn gc : Nat) (ao : Option Addr) (n c : Nat) (w : World)
    (BR0 : ∀ V, Below w.heap.size w V → Calls Tryd.prog 40 #[.string W, .slice ao n c, .int .i64 0] V fun e w' => e = .returned (.string B) ∧ Below V.heap.size V w')
    (BR1 : ∀ V, Below w.heap.size w V → Calls Tryd.prog 40 #[.string P, .slice ao n c, .int .i64 1] V fun e w' => e = .returned (.string C) ∧ Below V.heap.size V w')
    (BR2 : ∀ V, Below w.heap.size w V → Calls Tryd.prog 40 #[.string E, .slice ao n c, .int .i64 2] V fun e w' => e = .returned (.string D) ∧ Below V.heap.size V w')
    (e0 : S ++ B = T1)
    (e1 : T1 ++ ⟨#[46]⟩ = T2)
    (e2 : T2 ++ C = T3)
    (e3 : T3 ++ ⟨#[69]⟩ = T4)
    (e4 : T4 ++ ES = T5)
    (e5 : T5 ++ D = T6) (_zS : S.size ≤ 20000) (_zB : B.size ≤ 20000) (_zC : C.size ≤ 20000) (_zES : ES.size ≤ 20000) (_zD : D.size ≤ 20000) (_zT1 : T1.size ≤ 20000) (_zT2 : T2.size ≤ 20000) (_zT3 : T3.size ≤ 20000) (_zT4 : T4.size ≤ 20000) (_zT5 : T5.size ≤ 20000) (_zT6 : T6.size ≤ 20000) :
    Calls Tryd.prog 19 #[.agg #[.string S, .string W, .string P, .string ES, .string E, .bool true, .bool false, .bool true, .bool true, .slice ga gn gc], .slice ao n c] w fun e w' => e = .returned (.string T6) ∧ Below w.heap.size w w' := by
  have n0 : ¬ 9223372036854775807 < S.size + B.size := by omega
  have n1 : ¬ 9223372036854775807 < T1.size + (⟨#[46]⟩ : ByteArray).size := by have q : (⟨#[46]⟩ : ByteArray).size ≤ 2 := (by decide); omega
  have m1 : ¬ 9223372036854775807 < T1.size + 1 := by omega
  have n2 : ¬ 9223372036854775807 < T2.size + C.size := by omega
  have n3 : ¬ 9223372036854775807 < T3.size + (⟨#[69]⟩ : ByteArray).size := by have q : (⟨#[69]⟩ : ByteArray).size ≤ 2 := (by decide); omega
  have m3 : ¬ 9223372036854775807 < T3.size + 1 := by omega
  have n4 : ¬ 9223372036854775807 < T4.size + ES.size := by omega
  have n5 : ¬ 9223372036854775807 < T5.size + D.size := by omega
  have X0 : Hid (Bx (w.alloc (.cells #[.string S, .string W, .string P, .string ES, .string E, .bool true, .bool false, .bool true, .bool true, .slice ga gn gc] 44)) w.heap.size #[.string S, .string W, .string P, .string ES, .string E, .bool true, .bool false, .bool true, .bool true, .slice ga gn gc]) := Bx.new _ _ _
  have B0 : Hid (Below w.heap.size w (w.alloc (.cells #[.string S, .string W, .string P, .string ES, .string E, .bool true, .bool false, .bool true, .bool true, .slice ga gn gc] 44))) := (Below.refl _ _).alloc (Nat.le_refl _) _
  go_enter Tryd.func19, Tryd.ntmps19
  go_wp2_with fail
  refine (BR0 _ B0.out).mono ?_
  rintro o w1 ⟨rfl, b1⟩
  have X1 : Hid (Bx w1 w.heap.size #[.string S, .string W, .string P, .string ES, .string E, .bool true, .bool false, .bool true, .bool true, .slice ga gn gc]) := X0.out.step b1
  have B1 : Hid (Below w.heap.size w w1) := B0.out.trans (b1.mono B0.out.size)
  clear b1
  obtain ⟨l1, c1⟩ := X1.out
  have a1_2 : w1.cell? ⟨w.heap.size, 2, none⟩ = some (.string P) := c1 2
  have a1_3 : w1.cell? ⟨w.heap.size, 3, none⟩ = some (.string ES) := c1 3
  have a1_4 : w1.cell? ⟨w.heap.size, 4, none⟩ = some (.string E) := c1 4
  have a1_5 : w1.cell? ⟨w.heap.size, 5, none⟩ = some (.bool true) := c1 5
  have a1_6 : w1.cell? ⟨w.heap.size, 6, none⟩ = some (.bool false) := c1 6
  have a1_7 : w1.cell? ⟨w.heap.size, 7, none⟩ = some (.bool true) := c1 7
  have a1_8 : w1.cell? ⟨w.heap.size, 8, none⟩ = some (.bool true) := c1 8
  clear c1
  go_wp2_with fail
  refine (BR1 _ B1.out).mono ?_
  rintro o w2 ⟨rfl, b2⟩
  have X2 : Hid (Bx w2 w.heap.size #[.string S, .string W, .string P, .string ES, .string E, .bool true, .bool false, .bool true, .bool true, .slice ga gn gc]) := X1.out.step b2
  have B2 : Hid (Below w.heap.size w w2) := B1.out.trans (b2.mono B1.out.size)
  clear b2
  obtain ⟨l2, c2⟩ := X2.out
  have a2_2 : w2.cell? ⟨w.heap.size, 2, none⟩ = some (.string P) := c2 2
  have a2_3 : w2.cell? ⟨w.heap.size, 3, none⟩ = some (.string ES) := c2 3
  have a2_4 : w2.cell? ⟨w.heap.size, 4, none⟩ = some (.string E) := c2 4
  have a2_5 : w2.cell? ⟨w.heap.size, 5, none⟩ = some (.bool true) := c2 5
  have a2_6 : w2.cell? ⟨w.heap.size, 6, none⟩ = some (.bool false) := c2 6
  have a2_7 : w2.cell? ⟨w.heap.size, 7, none⟩ = some (.bool true) := c2 7
  have a2_8 : w2.cell? ⟨w.heap.size, 8, none⟩ = some (.bool true) := c2 8
  clear c2
  go_wp2
  go_region_held3 (fun w' => w'.cell? ⟨w.heap.size, 3, none⟩ = some (.string ES) ∧ w'.cell? ⟨w.heap.size, 4, none⟩ = some (.string E)) (first | exact ⟨k3, k4⟩ | exact ⟨a2_3, a2_4⟩)
    (first
      | (go_at_call 40; refine (BR2 _ B2.out.drew).mono ?_; rintro o w9 ⟨rfl, b9⟩; have X9 : Hid (Bx w9 w.heap.size #[.string S, .string W, .string P, .string ES, .string E, .bool true, .bool false, .bool true, .bool true, .slice ga gn gc]) := X2.out.drew.step b9; have B9 : Hid (Below w.heap.size w w9) := B2.out.drew.trans (b9.mono B2.out.size); clear b9; have k3 : w9.cell? ⟨w.heap.size, 3, none⟩ = some (.string ES) := X9.out.cell 3; have k4 : w9.cell? ⟨w.heap.size, 4, none⟩ = some (.string E) := X9.out.cell 4))
  all_goals
    go_wp2
    go_ret
    exact ⟨rfl, B9.out⟩
set_option maxRecDepth 100000 in
set_option maxHeartbeats 4000000 in
theorem text_1000 (S W P ES E B T1 T2 : ByteArray) (ga : Option Addr) (gn gc : Nat) (ao : Option Addr) (n c : Nat) (w : World)
    (BR0 : ∀ V, Below w.heap.size w V → Calls Tryd.prog 40 #[.string W, .slice ao n c, .int .i64 0] V fun e w' => e = .returned (.string B) ∧ Below V.heap.size V w')
    (e0 : S ++ ⟨#[48, 120]⟩ = T1)
    (e1 : T1 ++ B = T2) (_zS : S.size ≤ 20000) (_zB : B.size ≤ 20000) (_zT1 : T1.size ≤ 20000) (_zT2 : T2.size ≤ 20000) :
    Calls Tryd.prog 19 #[.agg #[.string S, .string W, .string P, .string ES, .string E, .bool false, .bool true, .bool false, .bool false, .slice ga gn gc], .slice ao n c] w fun e w' => e = .returned (.string T2) ∧ Below w.heap.size w w' := by
  have n0 : ¬ 9223372036854775807 < S.size + (⟨#[48, 120]⟩ : ByteArray).size := by have q : (⟨#[48, 120]⟩ : ByteArray).size ≤ 2 := (by decide); omega
  have n1 : ¬ 9223372036854775807 < T1.size + B.size := by omega
  have X0 : Hid (Bx (w.alloc (.cells #[.string S, .string W, .string P, .string ES, .string E, .bool false, .bool true, .bool false, .bool false, .slice ga gn gc] 44)) w.heap.size #[.string S, .string W, .string P, .string ES, .string E, .bool false, .bool true, .bool false, .bool false, .slice ga gn gc]) := Bx.new _ _ _
  have B0 : Hid (Below w.heap.size w (w.alloc (.cells #[.string S, .string W, .string P, .string ES, .string E, .bool false, .bool true, .bool false, .bool false, .slice ga gn gc] 44))) := (Below.refl _ _).alloc (Nat.le_refl _) _
  go_enter Tryd.func19, Tryd.ntmps19
  go_wp2_with fail
  refine (BR0 _ B0.out).mono ?_
  rintro o w1 ⟨rfl, b1⟩
  have X1 : Hid (Bx w1 w.heap.size #[.string S, .string W, .string P, .string ES, .string E, .bool false, .bool true, .bool false, .bool false, .slice ga gn gc]) := X0.out.step b1
  have B1 : Hid (Below w.heap.size w w1) := B0.out.trans (b1.mono B0.out.size)
  clear b1
  obtain ⟨l1, c1⟩ := X1.out
  have a1_2 : w1.cell? ⟨w.heap.size, 2, none⟩ = some (.string P) := c1 2
  have a1_3 : w1.cell? ⟨w.heap.size, 3, none⟩ = some (.string ES) := c1 3
  have a1_4 : w1.cell? ⟨w.heap.size, 4, none⟩ = some (.string E) := c1 4
  have a1_5 : w1.cell? ⟨w.heap.size, 5, none⟩ = some (.bool false) := c1 5
  have a1_6 : w1.cell? ⟨w.heap.size, 6, none⟩ = some (.bool true) := c1 6
  have a1_7 : w1.cell? ⟨w.heap.size, 7, none⟩ = some (.bool false) := c1 7
  have a1_8 : w1.cell? ⟨w.heap.size, 8, none⟩ = some (.bool false) := c1 8
  clear c1
  go_wp2
  go_ret
  exact ⟨rfl, B1.out⟩
set_option maxRecDepth 100000 in
set_option maxHeartbeats 4000000 in
theorem text_1001 (S W P ES E B D T1 T2 T3 T4 T5 : ByteArray) (ga : Option Addr) (gn gc : Nat) (ao : Option Addr) (n c : Nat) (w : World)
    (BR0 : ∀ V, Below w.heap.size w V → Calls Tryd.prog 40 #[.string W, .slice ao n c, .int .i64 0] V fun e w' => e = .returned (.string B) ∧ Below V.heap.size V w')
    (BR2 : ∀ V, Below w.heap.size w V → Calls Tryd.prog 40 #[.string E, .slice ao n c, .int .i64 2] V fun e w' => e = .returned (.string D) ∧ Below V.heap.size V w')
    (e0 : S ++ ⟨#[48, 120]⟩ = T1)
    (e1 : T1 ++ B = T2)
    (e2 : T2 ++ ⟨#[112]⟩ = T3)
    (e3 : T3 ++ ES = T4)
    (e4 : T4 ++ D = T5) (_zS : S.size ≤ 20000) (_zB : B.size ≤ 20000) (_zES : ES.size ≤ 20000) (_zD : D.size ≤ 20000) (_zT1 : T1.size ≤ 20000) (_zT2 : T2.size ≤ 20000) (_zT3 : T3.size ≤ 20000) (_zT4 : T4.size ≤ 20000) (_zT5 : T5.size ≤ 20000) :
    Calls Tryd.prog 19 #[.agg #[.string S, .string W, .string P, .string ES, .string E, .bool false, .bool true, .bool true, .bool false, .slice ga gn gc], .slice ao n c] w fun e w' => e = .returned (.string T5) ∧ Below w.heap.size w w' := by
  have n0 : ¬ 9223372036854775807 < S.size + (⟨#[48, 120]⟩ : ByteArray).size := by have q : (⟨#[48, 120]⟩ : ByteArray).size ≤ 2 := (by decide); omega
  have n1 : ¬ 9223372036854775807 < T1.size + B.size := by omega
  have n2 : ¬ 9223372036854775807 < T2.size + (⟨#[112]⟩ : ByteArray).size := by have q : (⟨#[112]⟩ : ByteArray).size ≤ 2 := (by decide); omega
  have m2 : ¬ 9223372036854775807 < T2.size + 1 := by omega
  have n3 : ¬ 9223372036854775807 < T3.size + ES.size := by omega
  have n4 : ¬ 9223372036854775807 < T4.size + D.size := by omega
  have X0 : Hid (Bx (w.alloc (.cells #[.string S, .string W, .string P, .string ES, .string E, .bool false, .bool true, .bool true, .bool false, .slice ga gn gc] 44)) w.heap.size #[.string S, .string W, .string P, .string ES, .string E, .bool false, .bool true, .bool true, .bool false, .slice ga gn gc]) := Bx.new _ _ _
  have B0 : Hid (Below w.heap.size w (w.alloc (.cells #[.string S, .string W, .string P, .string ES, .string E, .bool false, .bool true, .bool true, .bool false, .slice ga gn gc] 44))) := (Below.refl _ _).alloc (Nat.le_refl _) _
  go_enter Tryd.func19, Tryd.ntmps19
  go_wp2_with fail
  refine (BR0 _ B0.out).mono ?_
  rintro o w1 ⟨rfl, b1⟩
  have X1 : Hid (Bx w1 w.heap.size #[.string S, .string W, .string P, .string ES, .string E, .bool false, .bool true, .bool true, .bool false, .slice ga gn gc]) := X0.out.step b1
  have B1 : Hid (Below w.heap.size w w1) := B0.out.trans (b1.mono B0.out.size)
  clear b1
  obtain ⟨l1, c1⟩ := X1.out
  have a1_2 : w1.cell? ⟨w.heap.size, 2, none⟩ = some (.string P) := c1 2
  have a1_3 : w1.cell? ⟨w.heap.size, 3, none⟩ = some (.string ES) := c1 3
  have a1_4 : w1.cell? ⟨w.heap.size, 4, none⟩ = some (.string E) := c1 4
  have a1_5 : w1.cell? ⟨w.heap.size, 5, none⟩ = some (.bool false) := c1 5
  have a1_6 : w1.cell? ⟨w.heap.size, 6, none⟩ = some (.bool true) := c1 6
  have a1_7 : w1.cell? ⟨w.heap.size, 7, none⟩ = some (.bool true) := c1 7
  have a1_8 : w1.cell? ⟨w.heap.size, 8, none⟩ = some (.bool false) := c1 8
  clear c1
  go_wp2
  go_region_held3 (fun w' => w'.cell? ⟨w.heap.size, 3, none⟩ = some (.string ES) ∧ w'.cell? ⟨w.heap.size, 4, none⟩ = some (.string E)) (first | exact ⟨k3, k4⟩ | exact ⟨a1_3, a1_4⟩)
    (first
      | (go_at_call 40; refine (BR2 _ B1.out.drew).mono ?_; rintro o w9 ⟨rfl, b9⟩; have X9 : Hid (Bx w9 w.heap.size #[.string S, .string W, .string P, .string ES, .string E, .bool false, .bool true, .bool true, .bool false, .slice ga gn gc]) := X1.out.drew.step b9; have B9 : Hid (Below w.heap.size w w9) := B1.out.drew.trans (b9.mono B1.out.size); clear b9; have k3 : w9.cell? ⟨w.heap.size, 3, none⟩ = some (.string ES) := X9.out.cell 3; have k4 : w9.cell? ⟨w.heap.size, 4, none⟩ = some (.string E) := X9.out.cell 4))
  all_goals
    go_wp2
    go_ret
    exact ⟨rfl, B9.out⟩
set_option maxRecDepth 100000 in
set_option maxHeartbeats 4000000 in
theorem text_1010 (S W P ES E B C T1 T2 T3 T4 : ByteArray) (ga : Option Addr) (gn gc : Nat) (ao : Option Addr) (n c : Nat) (w : World)
    (BR0 : ∀ V, Below w.heap.size w V → Calls Tryd.prog 40 #[.string W, .slice ao n c, .int .i64 0] V fun e w' => e = .returned (.string B) ∧ Below V.heap.size V w')
    (BR1 : ∀ V, Below w.heap.size w V → Calls Tryd.prog 40 #[.string P, .slice ao n c, .int .i64 1] V fun e w' => e = .returned (.string C) ∧ Below V.heap.size V w')
    (e0 : S ++ ⟨#[48, 120]⟩ = T1)
    (e1 : T1 ++ B = T2)
    (e2 : T2 ++ ⟨#[46]⟩ = T3)
    (e3 : T3 ++ C = T4) (_zS : S.size ≤ 20000) (_zB : B.size ≤ 20000) (_zC : C.size ≤ 20000) (_zT1 : T1.size ≤ 20000) (_zT2 : T2.size ≤ 20000) (_zT3 : T3.size ≤ 20000) (_zT4 : T4.size ≤ 20000) :
    Calls Tryd.prog 19 #[.agg #[.string S, .string W, .string P, .string ES, .string E, .bool true, .bool true, .bool false, .bool false, .slice ga gn gc], .slice ao n c] w fun e w' => e = .returned (.string T4) ∧ Below w.heap.size w w' := by
  have n0 : ¬ 9223372036854775807 < S.size + (⟨#[48, 120]⟩ : ByteArray).size := by have q : (⟨#[48, 120]⟩ : ByteArray).size ≤ 2 := (by decide); omega
  have n1 : ¬ 9223372036854775807 < T1.size + B.size := by omega
  have n2 : ¬ 9223372036854775807 < T2.size + (⟨#[46]⟩ : ByteArray).size := by have q : (⟨#[46]⟩ : ByteArray).size ≤ 2 := (by decide); omega
  have m2 : ¬ 9223372036854775807 < T2.size + 1 := by omega
  have n3 : ¬ 9223372036854775807 < T3.size + C.size := by omega
  have X0 : Hid (Bx (w.alloc (.cells #[.string S, .string W, .string P, .string ES, .string E, .bool true, .bool true, .bool false, .bool false, .slice ga gn gc] 44)) w.heap.size #[.string S, .string W, .string P, .string ES, .string E, .bool true, .bool true, .bool false, .bool false, .slice ga gn gc]) := Bx.new _ _ _
  have B0 : Hid (Below w.heap.size w (w.alloc (.cells #[.string S, .string W, .string P, .string ES, .string E, .bool true, .bool true, .bool false, .bool false, .slice ga gn gc] 44))) := (Below.refl _ _).alloc (Nat.le_refl _) _
  go_enter Tryd.func19, Tryd.ntmps19
  go_wp2_with fail
  refine (BR0 _ B0.out).mono ?_
  rintro o w1 ⟨rfl, b1⟩
  have X1 : Hid (Bx w1 w.heap.size #[.string S, .string W, .string P, .string ES, .string E, .bool true, .bool true, .bool false, .bool false, .slice ga gn gc]) := X0.out.step b1
  have B1 : Hid (Below w.heap.size w w1) := B0.out.trans (b1.mono B0.out.size)
  clear b1
  obtain ⟨l1, c1⟩ := X1.out
  have a1_2 : w1.cell? ⟨w.heap.size, 2, none⟩ = some (.string P) := c1 2
  have a1_3 : w1.cell? ⟨w.heap.size, 3, none⟩ = some (.string ES) := c1 3
  have a1_4 : w1.cell? ⟨w.heap.size, 4, none⟩ = some (.string E) := c1 4
  have a1_5 : w1.cell? ⟨w.heap.size, 5, none⟩ = some (.bool true) := c1 5
  have a1_6 : w1.cell? ⟨w.heap.size, 6, none⟩ = some (.bool true) := c1 6
  have a1_7 : w1.cell? ⟨w.heap.size, 7, none⟩ = some (.bool false) := c1 7
  have a1_8 : w1.cell? ⟨w.heap.size, 8, none⟩ = some (.bool false) := c1 8
  clear c1
  go_wp2_with fail
  refine (BR1 _ B1.out).mono ?_
  rintro o w2 ⟨rfl, b2⟩
  have X2 : Hid (Bx w2 w.heap.size #[.string S, .string W, .string P, .string ES, .string E, .bool true, .bool true, .bool false, .bool false, .slice ga gn gc]) := X1.out.step b2
  have B2 : Hid (Below w.heap.size w w2) := B1.out.trans (b2.mono B1.out.size)
  clear b2
  obtain ⟨l2, c2⟩ := X2.out
  have a2_2 : w2.cell? ⟨w.heap.size, 2, none⟩ = some (.string P) := c2 2
  have a2_3 : w2.cell? ⟨w.heap.size, 3, none⟩ = some (.string ES) := c2 3
  have a2_4 : w2.cell? ⟨w.heap.size, 4, none⟩ = some (.string E) := c2 4
  have a2_5 : w2.cell? ⟨w.heap.size, 5, none⟩ = some (.bool true) := c2 5
  have a2_6 : w2.cell? ⟨w.heap.size, 6, none⟩ = some (.bool true) := c2 6
  have a2_7 : w2.cell? ⟨w.heap.size, 7, none⟩ = some (.bool false) := c2 7
  have a2_8 : w2.cell? ⟨w.heap.size, 8, none⟩ = some (.bool false) := c2 8
  clear c2
  go_wp2
  go_ret
  exact ⟨rfl, B2.out⟩
set_option maxRecDepth 100000 in
set_option maxHeartbeats 4000000 in
theorem text_1011 (S W P ES E B C D T1 T2 T3 T4 T5 T6 T7 : ByteArray) (ga : Option Addr) (gn gc : Nat) (ao : Option Addr) (n c : Nat) (w : World)
    (BR0 : ∀ V, Below w.heap.size w V → Calls Tryd.prog 40 #[.string W, .slice ao n c, .int .i64 0] V fun e w' => e = .returned (.string B) ∧ Below V.heap.size V w')
    (BR1 : ∀ V, Below w.heap.size w V → Calls Tryd.prog 40 #[.string P, .slice ao n c, .int .i64 1] V fun e w' => e = .returned (.string C) ∧ Below V.heap.size V w')
    (BR2 : ∀ V, Below w.heap.size w V → Calls Tryd.prog 40 #[.string E, .slice ao n c, .int .i64 2] V fun e w' => e = .returned (.string D) ∧ Below V.heap.size V w')
    (e0 : S ++ ⟨#[48, 120]⟩ = T1)
    (e1 : T1 ++ B = T2)
    (e2 : T2 ++ ⟨#[46]⟩ = T3)
    (e3 : T3 ++ C = T4)
    (e4 : T4 ++ ⟨#[112]⟩ = T5)
    (e5 : T5 ++ ES = T6)
    (e6 : T6 ++ D = T7) (_zS : S.size ≤ 20000) (_zB : B.size ≤ 20000) (_zC : C.size ≤ 20000) (_zES : ES.size ≤ 20000) (_zD : D.size ≤ 20000) (_zT1 : T1.size ≤ 20000) (_zT2 : T2.size ≤ 20000) (_zT3 : T3.size ≤ 20000) (_zT4 : T4.size ≤ 20000) (_zT5 : T5.size ≤ 20000) (_zT6 : T6.size ≤ 20000) (_zT7 : T7.size ≤ 20000) :
    Calls Tryd.prog 19 #[.agg #[.string S, .string W, .string P, .string ES, .string E, .bool true, .bool true, .bool true, .bool false, .slice ga gn gc], .slice ao n c] w fun e w' => e = .returned (.string T7) ∧ Below w.heap.size w w' := by
  have n0 : ¬ 9223372036854775807 < S.size + (⟨#[48, 120]⟩ : ByteArray).size := by have q : (⟨#[48, 120]⟩ : ByteArray).size ≤ 2 := (by decide); omega
  have n1 : ¬ 9223372036854775807 < T1.size + B.size := by omega
  have n2 : ¬ 9223372036854775807 < T2.size + (⟨#[46]⟩ : ByteArray).size := by have q : (⟨#[46]⟩ : ByteArray).size ≤ 2 := (by decide); omega
  have m2 : ¬ 9223372036854775807 < T2.size + 1 := by omega
  have n3 : ¬ 9223372036854775807 < T3.size + C.size := by omega
  have n4 : ¬ 9223372036854775807 < T4.size + (⟨#[112]⟩ : ByteArray).size := by have q : (⟨#[112]⟩ : ByteArray).size ≤ 2 := (by decide); omega
  have m4 : ¬ 9223372036854775807 < T4.size + 1 := by omega
  have n5 : ¬ 9223372036854775807 < T5.size + ES.size := by omega
  have n6 : ¬ 9223372036854775807 < T6.size + D.size := by omega
  have X0 : Hid (Bx (w.alloc (.cells #[.string S, .string W, .string P, .string ES, .string E, .bool true, .bool true, .bool true, .bool false, .slice ga gn gc] 44)) w.heap.size #[.string S, .string W, .string P, .string ES, .string E, .bool true, .bool true, .bool true, .bool false, .slice ga gn gc]) := Bx.new _ _ _
  have B0 : Hid (Below w.heap.size w (w.alloc (.cells #[.string S, .string W, .string P, .string ES, .string E, .bool true, .bool true, .bool true, .bool false, .slice ga gn gc] 44))) := (Below.refl _ _).alloc (Nat.le_refl _) _
  go_enter Tryd.func19, Tryd.ntmps19
  go_wp2_with fail
  refine (BR0 _ B0.out).mono ?_
  rintro o w1 ⟨rfl, b1⟩
  have X1 : Hid (Bx w1 w.heap.size #[.string S, .string W, .string P, .string ES, .string E, .bool true, .bool true, .bool true, .bool false, .slice ga gn gc]) := X0.out.step b1
  have B1 : Hid (Below w.heap.size w w1) := B0.out.trans (b1.mono B0.out.size)
  clear b1
  obtain ⟨l1, c1⟩ := X1.out
  have a1_2 : w1.cell? ⟨w.heap.size, 2, none⟩ = some (.string P) := c1 2
  have a1_3 : w1.cell? ⟨w.heap.size, 3, none⟩ = some (.string ES) := c1 3
  have a1_4 : w1.cell? ⟨w.heap.size, 4, none⟩ = some (.string E) := c1 4
  have a1_5 : w1.cell? ⟨w.heap.size, 5, none⟩ = some (.bool true) := c1 5
  have a1_6 : w1.cell? ⟨w.heap.size, 6, none⟩ = some (.bool true) := c1 6
  have a1_7 : w1.cell? ⟨w.heap.size, 7, none⟩ = some (.bool true) := c1 7
  have a1_8 : w1.cell? ⟨w.heap.size, 8, none⟩ = some (.bool false) := c1 8
  clear c1
  go_wp2_with fail
  refine (BR1 _ B1.out).mono ?_
  rintro o w2 ⟨rfl, b2⟩
  have X2 : Hid (Bx w2 w.heap.size #[.string S, .string W, .string P, .string ES, .string E, .bool true, .bool true, .bool true, .bool false, .slice ga gn gc]) := X1.out.step b2
  have B2 : Hid (Below w.heap.size w w2) := B1.out.trans (b2.mono B1.out.size)
  clear b2
  obtain ⟨l2, c2⟩ := X2.out
  have a2_2 : w2.cell? ⟨w.heap.size, 2, none⟩ = some (.string P) := c2 2
  have a2_3 : w2.cell? ⟨w.heap.size, 3, none⟩ = some (.string ES) := c2 3
  have a2_4 : w2.cell? ⟨w.heap.size, 4, none⟩ = some (.string E) := c2 4
  have a2_5 : w2.cell? ⟨w.heap.size, 5, none⟩ = some (.bool true) := c2 5
  have a2_6 : w2.cell? ⟨w.heap.size, 6, none⟩ = some (.bool true) := c2 6
  have a2_7 : w2.cell? ⟨w.heap.size, 7, none⟩ = some (.bool true) := c2 7
  have a2_8 : w2.cell? ⟨w.heap.size, 8, none⟩ = some (.bool false) := c2 8
  clear c2
  go_wp2
  go_region_held3 (fun w' => w'.cell? ⟨w.heap.size, 3, none⟩ = some (.string ES) ∧ w'.cell? ⟨w.heap.size, 4, none⟩ = some (.string E)) (first | exact ⟨k3, k4⟩ | exact ⟨a2_3, a2_4⟩)
    (first
      | (go_at_call 40; refine (BR2 _ B2.out.drew).mono ?_; rintro o w9 ⟨rfl, b9⟩; have X9 : Hid (Bx w9 w.heap.size #[.string S, .string W, .string P, .string ES, .string E, .bool true, .bool true, .bool true, .bool false, .slice ga gn gc]) := X2.out.drew.step b9; have B9 : Hid (Below w.heap.size w w9) := B2.out.drew.trans (b9.mono B2.out.size); clear b9; have k3 : w9.cell? ⟨w.heap.size, 3, none⟩ = some (.string ES) := X9.out.cell 3; have k4 : w9.cell? ⟨w.heap.size, 4, none⟩ = some (.string E) := X9.out.cell 4))
  all_goals
    go_wp2
    go_ret
    exact ⟨rfl, B9.out⟩
set_option maxRecDepth 100000 in
set_option maxHeartbeats 4000000 in
theorem text_1100 (S W P ES E B T1 T2 T3 : ByteArray) (ga : Option Addr) (gn gc : Nat) (ao : Option Addr) (n c : Nat) (w : World)
    (BR0 : ∀ V, Below w.heap.size w V → Calls Tryd.prog 40 #[.string W, .slice ao n c, .int .i64 0] V fun e w' => e = .returned (.string B) ∧ Below V.heap.size V w')
    (e0 : S ++ ⟨#[48, 120]⟩ = T1)
    (e1 : S ++ ⟨#[48, 88]⟩ = T2)
    (e2 : T2 ++ B = T3) (_zS : S.size ≤ 20000) (_zB : B.size ≤ 20000) (_zT1 : T1.size ≤ 20000) (_zT2 : T2.size ≤ 20000) (_zT3 : T3.size ≤ 20000) :
    Calls Tryd.prog 19 #[.agg #[.string S, .string W, .string P, .string ES, .string E, .bool false, .bool true, .bool false, .bool true, .slice ga gn gc], .slice ao n c] w fun e w' => e = .returned (.string T3) ∧ Below w.heap.size w w' := by
  have n0 : ¬ 9223372036854775807 < S.size + (⟨#[48, 120]⟩ : ByteArray).size := by have q : (⟨#[48, 120]⟩ : ByteArray).size ≤ 2 := (by decide); omega
  have n1 : ¬ 9223372036854775807 < S.size + (⟨#[48, 88]⟩ : ByteArray).size := by have q : (⟨#[48, 88]⟩ : ByteArray).size ≤ 2 := (by decide); omega
  have n2 : ¬ 9223372036854775807 < T2.size + B.size := by omega
  have X0 : Hid (Bx (w.alloc (.cells #[.string S, .string W, .string P, .string ES, .string E, .bool false, .bool true, .bool false, .bool true, .slice ga gn gc] 44)) w.heap.size #[.string S, .string W, .string P, .string ES, .string E, .bool false, .bool true, .bool false, .bool true, .slice ga gn gc]) := Bx.new _ _ _
  have B0 : Hid (Below w.heap.size w (w.alloc (.cells #[.string S, .string W, .string P, .string ES, .string E, .bool false, .bool true, .bool false, .bool true, .slice ga gn gc] 44))) := (Below.refl _ _).alloc (Nat.le_refl _) _
  go_enter Tryd.func19, Tryd.ntmps19
  go_wp2_with fail
  refine (BR0 _ B0.out).mono ?_
  rintro o w1 ⟨rfl, b1⟩
  have X1 : Hid (Bx w1 w.heap.size #[.string S, .string W, .string P, .string ES, .string E, .bool false, .bool true, .bool false, .bool true, .slice ga gn gc]) := X0.out.step b1
  have B1 : Hid (Below w.heap.size w w1) := B0.out.trans (b1.mono B0.out.size)
  clear b1
  obtain ⟨l1, c1⟩ := X1.out
  have a1_2 : w1.cell? ⟨w.heap.size, 2, none⟩ = some (.string P) := c1 2
  have a1_3 : w1.cell? ⟨w.heap.size, 3, none⟩ = some (.string ES) := c1 3
  have a1_4 : w1.cell? ⟨w.heap.size, 4, none⟩ = some (.string E) := c1 4
  have a1_5 : w1.cell? ⟨w.heap.size, 5, none⟩ = some (.bool false) := c1 5
  have a1_6 : w1.cell? ⟨w.heap.size, 6, none⟩ = some (.bool true) := c1 6
  have a1_7 : w1.cell? ⟨w.heap.size, 7, none⟩ = some (.bool false) := c1 7
  have a1_8 : w1.cell? ⟨w.heap.size, 8, none⟩ = some (.bool true) := c1 8
  clear c1
  go_wp2
  go_ret
  exact ⟨rfl, B1.out⟩
set_option maxRecDepth 100000 in
set_option maxHeartbeats 4000000 in
theorem text_1101 (S W P ES E B D T1 T2 T3 T4 T5 T6 : ByteArray) (ga : Option Addr) (gn gc : Nat) (ao : Option Addr) (n c : Nat) (w : World)
    (BR0 : ∀ V, Below w.heap.size w V → Calls Tryd.prog 40 #[.string W, .slice ao n c, .int .i64 0] V fun e w' => e = .returned (.string B) ∧ Below V.heap.size V w')
    (BR2 : ∀ V, Below w.heap.size w V → Calls Tryd.prog 40 #[.string E, .slice ao n c, .int .i64 2] V fun e w' => e = .returned (.string D) ∧ Below V.heap.size V w')
    (e0 : S ++ ⟨#[48, 120]⟩ = T1)
    (e1 : S ++ ⟨#[48, 88]⟩ = T2)
    (e2 : T2 ++ B = T3)
    (e3 : T3 ++ ⟨#[80]⟩ = T4)
    (e4 : T4 ++ ES = T5)
    (e5 : T5 ++ D = T6) (_zS : S.size ≤ 20000) (_zB : B.size ≤ 20000) (_zES : ES.size ≤ 20000) (_zD : D.size ≤ 20000) (_zT1 : T1.size ≤ 20000) (_zT2 : T2.size ≤ 20000) (_zT3 : T3.size ≤ 20000) (_zT4 : T4.size ≤ 20000) (_zT5 : T5.size ≤ 20000) (_zT6 : T6.size ≤ 20000) :
    Calls Tryd.prog 19 #[.agg #[.string S, .string W, .string P, .string ES, .string E, .bool false, .bool true, .bool true, .bool true, .slice ga gn gc], .slice ao n c] w fun e w' => e = .returned (.string T6) ∧ Below w.heap.size w w' := by
  have n0 : ¬ 9223372036854775807 < S.size + (⟨#[48, 120]⟩ : ByteArray).size := by have q : (⟨#[48, 120]⟩ : ByteArray).size ≤ 2 := (by decide); omega
  have n1 : ¬ 9223372036854775807 < S.size + (⟨#[48, 88]⟩ : ByteArray).size := by have q : (⟨#[48, 88]⟩ : ByteArray).size ≤ 2 := (by decide); omega
  have n2 : ¬ 9223372036854775807 < T2.size + B.size := by omega
  have n3 : ¬ 9223372036854775807 < T3.size + (⟨#[80]⟩ : ByteArray).size := by have q : (⟨#[80]⟩ : ByteArray).size ≤ 2 := (by decide); omega
  have m3 : ¬ 9223372036854775807 < T3.size + 1 := by omega
  have n4 : ¬ 9223372036854775807 < T4.size + ES.size := by omega
  have n5 : ¬ 9223372036854775807 < T5.size + D.size := by omega
  have X0 : Hid (Bx (w.alloc (.cells #[.string S, .string W, .string P, .string ES, .string E, .bool false, .bool true, .bool true, .bool true, .slice ga gn gc] 44)) w.heap.size #[.string S, .string W, .string P, .string ES, .string E, .bool false, .bool true, .bool true, .bool true, .slice ga gn gc]) := Bx.new _ _ _
  have B0 : Hid (Below w.heap.size w (w.alloc (.cells #[.string S, .string W, .string P, .string ES, .string E, .bool false, .bool true, .bool true, .bool true, .slice ga gn gc] 44))) := (Below.refl _ _).alloc (Nat.le_refl _) _
  go_enter Tryd.func19, Tryd.ntmps19
  go_wp2_with fail
  refine (BR0 _ B0.out).mono ?_
  rintro o w1 ⟨rfl, b1⟩
  have X1 : Hid (Bx w1 w.heap.size #[.string S, .string W, .string P, .string ES, .string E, .bool false, .bool true, .bool true, .bool true, .slice ga gn gc]) := X0.out.step b1
  have B1 : Hid (Below w.heap.size w w1) := B0.out.trans (b1.mono B0.out.size)
  clear b1
  obtain ⟨l1, c1⟩ := X1.out
  have a1_2 : w1.cell? ⟨w.heap.size, 2, none⟩ = some (.string P) := c1 2
  have a1_3 : w1.cell? ⟨w.heap.size, 3, none⟩ = some (.string ES) := c1 3
  have a1_4 : w1.cell? ⟨w.heap.size, 4, none⟩ = some (.string E) := c1 4
  have a1_5 : w1.cell? ⟨w.heap.size, 5, none⟩ = some (.bool false) := c1 5
  have a1_6 : w1.cell? ⟨w.heap.size, 6, none⟩ = some (.bool true) := c1 6
  have a1_7 : w1.cell? ⟨w.heap.size, 7, none⟩ = some (.bool true) := c1 7
  have a1_8 : w1.cell? ⟨w.heap.size, 8, none⟩ = some (.bool true) := c1 8
  clear c1
  go_wp2
  go_region_held3 (fun w' => w'.cell? ⟨w.heap.size, 3, none⟩ = some (.string ES) ∧ w'.cell? ⟨w.heap.size, 4, none⟩ = some (.string E)) (first | exact ⟨k3, k4⟩ | exact ⟨a1_3, a1_4⟩)
    (first
      | (go_at_call 40; refine (BR2 _ B1.out.drew).mono ?_; rintro o w9 ⟨rfl, b9⟩; have X9 : Hid (Bx w9 w.heap.size #[.string S, .string W, .string P, .string ES, .string E, .bool false, .bool true, .bool true, .bool true, .slice ga gn gc]) := X1.out.drew.step b9; have B9 : Hid (Below w.heap.size w w9) := B1.out.drew.trans (b9.mono B1.out.size); clear b9; have k3 : w9.cell? ⟨w.heap.size, 3, none⟩ = some (.string ES) := X9.out.cell 3; have k4 : w9.cell? ⟨w.heap.size, 4, none⟩ = some (.string E) := X9.out.cell 4))
  all_goals
    go_wp2
    go_ret
    exact ⟨rfl, B9.out⟩
set_option maxRecDepth 100000 in
set_option maxHeartbeats 4000000 in
theorem text_1110 (S W P ES E B C T1 T2 T3 T4 T5 : ByteArray) (ga : Option Addr) (gn gc : Nat) (ao : Option Addr) (n c : Nat) (w : World)
    (BR0 : ∀ V, Below w.heap.size w V → Calls Tryd.prog 40 #[.string W, .slice ao n c, .int .i64 0] V fun e w' => e = .returned (.string B) ∧ Below V.heap.size V w')
    (BR1 : ∀ V, Below w.heap.size w V → Calls Tryd.prog 40 #[.string P, .slice ao n c, .int .i64 1] V fun e w' => e = .returned (.string C) ∧ Below V.heap.size V w')
    (e0 : S ++ ⟨#[48, 120]⟩ = T1)
    (e1 : S ++ ⟨#[48, 88]⟩ = T2)
    (e2 : T2 ++ B = T3)
    (e3 : T3 ++ ⟨#[46]⟩ = T4)
    (e4 : T4 ++ C = T5) (_zS : S.size ≤ 20000) (_zB : B.size ≤ 20000) (_zC : C.size ≤ 20000) (_zT1 : T1.size ≤ 20000) (_zT2 : T2.size ≤ 20000) (_zT3 : T3.size ≤ 20000) (_zT4 : T4.size ≤ 20000) (_zT5 : T5.size ≤ 20000) :
    Calls Tryd.prog 19 #[.agg #[.string S, .string W, .string P, .string ES, .string E, .bool true, .bool true, .bool false, .bool true, .slice ga gn gc], .slice ao n c] w fun e w' => e = .returned (.string T5) ∧ Below w.heap.size w w' := by
  have n0 : ¬ 9223372036854775807 < S.size + (⟨#[48, 120]⟩ : ByteArray).size := by have q : (⟨#[48, 120]⟩ : ByteArray).size ≤ 2 := (by decide); omega
  have n1 : ¬ 9223372036854775807 < S.size + (⟨#[48, 88]⟩ : ByteArray).size := by have q : (⟨#[48, 88]⟩ : ByteArray).size ≤ 2 := (by decide); omega
  have n2 : ¬ 9223372036854775807 < T2.size + B.size := by omega
  have n3 : ¬ 9223372036854775807 < T3.size + (⟨#[46]⟩ : ByteArray).size := by have q : (⟨#[46]⟩ : ByteArray).size ≤ 2 := (by decide); omega
  have m3 : ¬ 9223372036854775807 < T3.size + 1 := by omega
  have n4 : ¬ 9223372036854775807 < T4.size + C.size := by omega
  have X0 : Hid (Bx (w.alloc (.cells #[.string S, .string W, .string P, .string ES, .string E, .bool true, .bool true, .bool false, .bool true, .slice ga gn gc] 44)) w.heap.size #[.string S, .string W, .string P, .string ES, .string E, .bool true, .bool true, .bool false, .bool true, .slice ga gn gc]) := Bx.new _ _ _
  have B0 : Hid (Below w.heap.size w (w.alloc (.cells #[.string S, .string W, .string P, .string ES, .string E, .bool true, .bool true, .bool false, .bool true, .slice ga gn gc] 44))) := (Below.refl _ _).alloc (Nat.le_refl _) _
  go_enter Tryd.func19, Tryd.ntmps19
  go_wp2_with fail
  refine (BR0 _ B0.out).mono ?_
  rintro o w1 ⟨rfl, b1⟩
  have X1 : Hid (Bx w1 w.heap.size #[.string S, .string W, .string P, .string ES, .string E, .bool true, .bool true, .bool false, .bool true, .slice ga gn gc]) := X0.out.step b1
  have B1 : Hid (Below w.heap.size w w1) := B0.out.trans (b1.mono B0.out.size)
  clear b1
  obtain ⟨l1, c1⟩ := X1.out
  have a1_2 : w1.cell? ⟨w.heap.size, 2, none⟩ = some (.string P) := c1 2
  have a1_3 : w1.cell? ⟨w.heap.size, 3, none⟩ = some (.string ES) := c1 3
  have a1_4 : w1.cell? ⟨w.heap.size, 4, none⟩ = some (.string E) := c1 4
  have a1_5 : w1.cell? ⟨w.heap.size, 5, none⟩ = some (.bool true) := c1 5
  have a1_6 : w1.cell? ⟨w.heap.size, 6, none⟩ = some (.bool true) := c1 6
  have a1_7 : w1.cell? ⟨w.heap.size, 7, none⟩ = some (.bool false) := c1 7
  have a1_8 : w1.cell? ⟨w.heap.size, 8, none⟩ = some (.bool true) := c1 8
  clear c1
  go_wp2_with fail
  refine (BR1 _ B1.out).mono ?_
  rintro o w2 ⟨rfl, b2⟩
  have X2 : Hid (Bx w2 w.heap.size #[.string S, .string W, .string P, .string ES, .string E, .bool true, .bool true, .bool false, .bool true, .slice ga gn gc]) := X1.out.step b2
  have B2 : Hid (Below w.heap.size w w2) := B1.out.trans (b2.mono B1.out.size)
  clear b2
  obtain ⟨l2, c2⟩ := X2.out
  have a2_2 : w2.cell? ⟨w.heap.size, 2, none⟩ = some (.string P) := c2 2
  have a2_3 : w2.cell? ⟨w.heap.size, 3, none⟩ = some (.string ES) := c2 3
  have a2_4 : w2.cell? ⟨w.heap.size, 4, none⟩ = some (.string E) := c2 4
  have a2_5 : w2.cell? ⟨w.heap.size, 5, none⟩ = some (.bool true) := c2 5
  have a2_6 : w2.cell? ⟨w.heap.size, 6, none⟩ = some (.bool true) := c2 6
  have a2_7 : w2.cell? ⟨w.heap.size, 7, none⟩ = some (.bool false) := c2 7
  have a2_8 : w2.cell? ⟨w.heap.size, 8, none⟩ = some (.bool true) := c2 8
  clear c2
  go_wp2
  go_ret
  exact ⟨rfl, B2.out⟩
set_option maxRecDepth 100000 in
set_option maxHeartbeats 4000000 in
theorem text_1111 (S W P ES E B C D T1 T2 T3 T4 T5 T6 T7 T8 : ByteArray) (ga : Option Addr) (gn gc : Nat) (ao : Option Addr) (n c : Nat) (w : World)
    (BR0 : ∀ V, Below w.heap.size w V → Calls Tryd.prog 40 #[.string W, .slice ao n c, .int .i64 0] V fun e w' => e = .returned (.string B) ∧ Below V.heap.size V w')
    (BR1 : ∀ V, Below w.heap.size w V → Calls Tryd.prog 40 #[.string P, .slice ao n c, .int .i64 1] V fun e w' => e = .returned (.string C) ∧ Below V.heap.size V w')
    (BR2 : ∀ V, Below w.heap.size w V → Calls Tryd.prog 40 #[.string E, .slice ao n c, .int .i64 2] V fun e w' => e = .returned (.string D) ∧ Below V.heap.size V w')
    (e0 : S ++ ⟨#[48, 120]⟩ = T1)
    (e1 : S ++ ⟨#[48, 88]⟩ = T2)
    (e2 : T2 ++ B = T3)
    (e3 : T3 ++ ⟨#[46]⟩ = T4)
    (e4 : T4 ++ C = T5)
    (e5 : T5 ++ ⟨#[80]⟩ = T6)
    (e6 : T6 ++ ES = T7)
    (e7 : T7 ++ D = T8) (_zS : S.size ≤ 20000) (_zB : B.size ≤ 20000) (_zC : C.size ≤ 20000) (_zES : ES.size ≤ 20000) (_zD : D.size ≤ 20000) (_zT1 : T1.size ≤ 20000) (_zT2 : T2.size ≤ 20000) (_zT3 : T3.size ≤ 20000) (_zT4 : T4.size ≤ 20000) (_zT5 : T5.size ≤ 20000) (_zT6 : T6.size ≤ 20000) (_zT7 : T7.size ≤ 20000) (_zT8 : T8.size ≤ 20000) :
    Calls Tryd.prog 19 #[.agg #[.string S, .string W, .string P, .string ES, .string E, .bool true, .bool true, .bool true, .bool true, .slice ga gn gc], .slice ao n c] w fun e w' => e = .returned (.string T8) ∧ Below w.heap.size w w' := by
  have n0 : ¬ 9223372036854775807 < S.size + (⟨#[48, 120]⟩ : ByteArray).size := by have q : (⟨#[48, 120]⟩ : ByteArray).size ≤ 2 := (by decide); omega
  have n1 : ¬ 9223372036854775807 < S.size + (⟨#[48, 88]⟩ : ByteArray).size := by have q : (⟨#[48, 88]⟩ : ByteArray).size ≤ 2 := (by decide); omega
  have n2 : ¬ 9223372036854775807 < T2.size + B.size := by omega
  have n3 : ¬ 9223372036854775807 < T3.size + (⟨#[46]⟩ : ByteArray).size := by have q : (⟨#[46]⟩ : ByteArray).size ≤ 2 := (by decide); omega
  have m3 : ¬ 9223372036854775807 < T3.size + 1 := by omega
  have n4 : ¬ 9223372036854775807 < T4.size + C.size := by omega
  have n5 : ¬ 9223372036854775807 < T5.size + (⟨#[80]⟩ : ByteArray).size := by have q : (⟨#[80]⟩ : ByteArray).size ≤ 2 := (by decide); omega
  have m5 : ¬ 9223372036854775807 < T5.size + 1 := by omega
  have n6 : ¬ 9223372036854775807 < T6.size + ES.size := by omega
  have n7 : ¬ 9223372036854775807 < T7.size + D.size := by omega
  have X0 : Hid (Bx (w.alloc (.cells #[.string S, .string W, .string P, .string ES, .string E, .bool true, .bool true, .bool true, .bool true, .slice ga gn gc] 44)) w.heap.size #[.string S, .string W, .string P, .string ES, .string E, .bool true, .bool true, .bool true, .bool true, .slice ga gn gc]) := Bx.new _ _ _
  have B0 : Hid (Below w.heap.size w (w.alloc (.cells #[.string S, .string W, .string P, .string ES, .string E, .bool true, .bool true, .bool true, .bool true, .slice ga gn gc] 44))) := (Below.refl _ _).alloc (Nat.le_refl _) _
  go_enter Tryd.func19, Tryd.ntmps19
  go_wp2_with fail
  refine (BR0 _ B0.out).mono ?_
  rintro o w1 ⟨rfl, b1⟩
  have X1 : Hid (Bx w1 w.heap.size #[.string S, .string W, .string P, .string ES, .string E, .bool true, .bool true, .bool true, .bool true, .slice ga gn gc]) := X0.out.step b1
  have B1 : Hid (Below w.heap.size w w1) := B0.out.trans (b1.mono B0.out.size)
  clear b1
  obtain ⟨l1, c1⟩ := X1.out
  have a1_2 : w1.cell? ⟨w.heap.size, 2, none⟩ = some (.string P) := c1 2
  have a1_3 : w1.cell? ⟨w.heap.size, 3, none⟩ = some (.string ES) := c1 3
  have a1_4 : w1.cell? ⟨w.heap.size, 4, none⟩ = some (.string E) := c1 4
  have a1_5 : w1.cell? ⟨w.heap.size, 5, none⟩ = some (.bool true) := c1 5
  have a1_6 : w1.cell? ⟨w.heap.size, 6, none⟩ = some (.bool true) := c1 6
  have a1_7 : w1.cell? ⟨w.heap.size, 7, none⟩ = some (.bool true) := c1 7
  have a1_8 : w1.cell? ⟨w.heap.size, 8, none⟩ = some (.bool true) := c1 8
  clear c1
  go_wp2_with fail
  refine (BR1 _ B1.out).mono ?_
  rintro o w2 ⟨rfl, b2⟩
  have X2 : Hid (Bx w2 w.heap.size #[.string S, .string W, .string P, .string ES, .string E, .bool true, .bool true, .bool true, .bool true, .slice ga gn gc]) := X1.out.step b2
  have B2 : Hid (Below w.heap.size w w2) := B1.out.trans (b2.mono B1.out.size)
  clear b2
  obtain ⟨l2, c2⟩ := X2.out
  have a2_2 : w2.cell? ⟨w.heap.size, 2, none⟩ = some (.string P) := c2 2
  have a2_3 : w2.cell? ⟨w.heap.size, 3, none⟩ = some (.string ES) := c2 3
  have a2_4 : w2.cell? ⟨w.heap.size, 4, none⟩ = some (.string E) := c2 4
  have a2_5 : w2.cell? ⟨w.heap.size, 5, none⟩ = some (.bool true) := c2 5
  have a2_6 : w2.cell? ⟨w.heap.size, 6, none⟩ = some (.bool true) := c2 6
  have a2_7 : w2.cell? ⟨w.heap.size, 7, none⟩ = some (.bool true) := c2 7
  have a2_8 : w2.cell? ⟨w.heap.size, 8, none⟩ = some (.bool true) := c2 8
  clear c2
  go_wp2
  go_region_held3 (fun w' => w'.cell? ⟨w.heap.size, 3, none⟩ = some (.string ES) ∧ w'.cell? ⟨w.heap.size, 4, none⟩ = some (.string E)) (first | exact ⟨k3, k4⟩ | exact ⟨a2_3, a2_4⟩)
    (first
      | (go_at_call 40; refine (BR2 _ B2.out.drew).mono ?_; rintro o w9 ⟨rfl, b9⟩; have X9 : Hid (Bx w9 w.heap.size #[.string S, .string W, .string P, .string ES, .string E, .bool true, .bool true, .bool true, .bool true, .slice ga gn gc]) := X2.out.drew.step b9; have B9 : Hid (Below w.heap.size w w9) := B2.out.drew.trans (b9.mono B2.out.size); clear b9; have k3 : w9.cell? ⟨w.heap.size, 3, none⟩ = some (.string ES) := X9.out.cell 3; have k4 : w9.cell? ⟨w.heap.size, 4, none⟩ = some (.string E) := X9.out.cell 4))
  all_goals
    go_wp2
    go_ret
    exact ⟨rfl, B9.out⟩
end Go.Proofs.YtjgdbphhhplifaaDoor
