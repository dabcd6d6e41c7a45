/-
  A grid in a block of its own, and what gridOf, boundError of round answer.
-/
import Derived.Test.YtealnajogkeckaaDoorBtD
import Derived.Test.YtealnajogkeckaaDoorLen
namespace Go.Proofs.YtealnajogkeckaaDoor
open Go.RowKit

/-- A size, its sign's bit, its infinity's bits, the fraction's bits, the exponents, the least float's exponent. -/
def Fz (s : Int) (g n f T : Nat) (L : Int) : Prop :=
  (s = 32 ∧ g = 2147483648 ∧ n = 2139095040 ∧ f = 23 ∧ T = 255 ∧ L = -149) ∨ (s = 64 ∧ g = 9223372036854775808 ∧ n = 9218868437227405312 ∧ f = 52 ∧ T = 2047 ∧ L = -1074)
/-- A struct of three fields in a block that may be written. -/
structure GrB (W : World) (K : Nat) (a b c : Value) : Prop where
  lt : K < W.heap.size
  a0 : W.cell? ⟨K, 0, none⟩ = some a
  a1 : W.cell? ⟨K, 1, none⟩ = some b
  a2 : W.cell? ⟨K, 2, none⟩ = some c
  f0 : W.frozen? ⟨K, 0, none⟩ = false
  f1 : W.frozen? ⟨K, 1, none⟩ = false
  f2 : W.frozen? ⟨K, 2, none⟩ = false
theorem GrB.step {W W' : World} {K : Nat} {a b c : Value} (h : GrB W K a b c) (hb : Below W.heap.size W W') : GrB W' K a b c := by
  have k := fun o => hb.cell (p := ⟨K, o, none⟩) h.lt
  have j := fun o => hb.frozen (p := ⟨K, o, none⟩) h.lt
  exact ⟨Nat.lt_of_lt_of_le h.lt hb.size, (k 0).trans h.a0, (k 1).trans h.a1, (k 2).trans h.a2, (j 0).trans h.f0, (j 1).trans h.f1, (j 2).trans h.f2⟩
theorem GrB.new (W : World) (a b c : Value) (T : TypeId) : GrB (W.alloc (.cells #[a, b, c] T)) W.heap.size a b c :=
  ⟨by simp, by simp, by simp, by simp, World.frozen?_alloc_new _ _ _ _, World.frozen?_alloc_new _ _ _ _, World.frozen?_alloc_new _ _ _ _⟩
theorem GrB.al {W : World} {K : Nat} {a b c : Value} (h : GrB W K a b c) (o : Obj) : GrB (W.alloc o) K a b c := h.step ((Below.refl _ _).alloc (Nat.le_refl _) _)

set_option maxRecDepth 100000 in
set_option maxHeartbeats 1000000 in
theorem gridOf_no {s : Int} (h : Sn s) (w : World) : Calls Tryd.prog 31 #[.int .i64 s] w fun e w' => e = .returned (.tuple #[.agg #[.int .i64 0, .int .i64 0, .int .i64 0], .iface 76 (.int .i64 5)]) ∧ Below w.heap.size w w' := by
  have H := fun W => bmost_no h W
  go_enter Tryd.func31, Tryd.ntmps31
  go_wp2_with fail
  refine (H _).mono ?_
  rintro e w1 ⟨rfl, hb⟩
  have T : Hid (GrB w1 w.heap.size _ _ _) := (GrB.new w (.int .i64 0) (.int .i64 0) (.int .i64 0) 64).step hb
  have B : Hid (Below w.heap.size w w1) := ((Below.refl _ _).alloc (Nat.le_refl _) _).trans (hb.mono (by simp))
  clear hb
  obtain ⟨l, a0, a1, a2, f0, f1, f2⟩ := T.out
  go_wp2
  exact bodyPost_ret (v := .tuple #[.agg #[.int .i64 0, .int .i64 0, .int .i64 0], .iface 76 (.int .i64 5)]) (by simp [results, Tryd.results31, go_sem, World.cell?_setCell_same, World.cell?_setCell_other, *]) rfl ⟨rfl, ((B.out.setCell (Nat.le_refl _) _).setCell (Nat.le_refl _) _).setCell (Nat.le_refl _) _⟩
set_option maxRecDepth 100000 in
set_option maxHeartbeats 1000000 in
theorem gridOf_32 (w : World) : Calls Tryd.prog 31 #[.int .i64 32] w fun e w' => e = .returned (.tuple #[.agg #[.int .i64 32, .int .i64 24, .int .i64 (-149)], .nilIface]) ∧ Below w.heap.size w w' := by
  have HM := fun W => bmost_32 W
  have HL := fun W => bleast_32 W
  have U1 : ∀ W, Calls Tryd.prog 59 #[.int .u64 2139095039, .int .i64 32] W fun e w' => e = .returned (.tuple #[.agg #[.bool false, .int .i64 2, .int .u64 16777215, .int .i64 (104)], .nilIface]) ∧ Below W.heap.size W w' := fun W => by
    have h := unp_32 (b := 2139095039) (by decide) W
    rw [show uN 2147483648 2139095040 2139095039 = false by decide +kernel, show mg 2147483648 2139095039 = 2139095039 by decide +kernel, show cl 2139095040 2139095039 = 2 by decide +kernel, show uM 2139095040 23 2139095039 = 16777215 by decide +kernel, show uE 2139095040 23 (-149) 2139095039 = 104 by decide +kernel, show ((2139095039 : Nat) : Int) = 2139095039 from rfl, show ((16777215 : Nat) : Int) = 16777215 from rfl] at h
    exact h
  have U2 : ∀ W, Calls Tryd.prog 59 #[.int .u64 1, .int .i64 32] W fun e w' => e = .returned (.tuple #[.agg #[.bool false, .int .i64 2, .int .u64 1, .int .i64 (-149)], .nilIface]) ∧ Below W.heap.size W w' := fun W => by
    have h := unp_32 (b := 1) (by decide) W
    rw [show uN 2147483648 2139095040 1 = false by decide +kernel, show mg 2147483648 1 = 1 by decide +kernel, show cl 2139095040 1 = 2 by decide +kernel, show uM 2139095040 23 1 = 1 by decide +kernel, show uE 2139095040 23 (-149) 1 = -149 by decide +kernel, show ((1 : Nat) : Int) = 1 from rfl] at h
    exact h
  have HN : ∀ W, Calls Tryd.prog 60 #[.int .u64 16777215] W fun e w' => e = .returned (.int .i64 24) ∧ w' = W := fun W => by
    have h := len64_any 16777215 ⟨by decide, by decide⟩ W
    rw [show blen 16777215 = 24 by decide +kernel] at h
    exact h
  go_enter Tryd.func31, Tryd.ntmps31
  go_wp2_with fail
  refine (HM _).mono ?_
  rintro e w1 ⟨rfl, hb⟩
  have T1 : Hid (GrB w1 w.heap.size _ _ _) := (GrB.new w (.int .i64 0) (.int .i64 0) (.int .i64 0) 64).step hb
  have B1 : Hid (Below w.heap.size w w1) := ((Below.refl _ _).alloc (Nat.le_refl _) _).trans (hb.mono (by simp))
  clear hb
  go_wp2_with fail
  refine (HL _).mono ?_
  rintro e w2 ⟨rfl, hb⟩
  have T2 : Hid (GrB w2 w.heap.size _ _ _) := T1.out.step hb
  have B2 : Hid (Below w.heap.size w w2) := B1.out.trans (hb.mono B1.out.size)
  clear hb T1 B1
  go_wp2_with fail
  refine (U1 _).mono ?_
  rintro e w3 ⟨rfl, hb⟩
  have T3 : Hid (GrB w3 w.heap.size _ _ _) := T2.out.step hb
  have B3 : Hid (Below w.heap.size w w3) := B2.out.trans (hb.mono B2.out.size)
  have s3 : w.heap.size < w3.heap.size := T3.out.lt
  clear hb T2 B2
  go_wp2_with fail
  refine (U2 _).mono ?_
  rintro e w4 ⟨rfl, hb⟩
  have T4 : Hid (GrB w4 w.heap.size _ _ _) := (T3.out.al _).step hb
  have X4 : Hid (FlB w4 w3.heap.size _ _ _ _) := (FlB.new w3 _ _ _ _ _).step hb
  have B4 : Hid (Below w.heap.size w w4) := (B3.out.alloc B3.out.size _).trans (hb.mono (by have := B3.out.size; simp; omega))
  clear hb T3 B3
  have T5 : Hid (GrB (w4.alloc (.cells #[.bool false, .int .i64 2, .int .u64 1, .int .i64 (-149)] 80)) w.heap.size _ _ _) := T4.out.al _
  have X5 : Hid (FlB (w4.alloc (.cells #[.bool false, .int .i64 2, .int .u64 1, .int .i64 (-149)] 80)) w3.heap.size _ _ _ _) := X4.out.al _
  have Y5 : Hid (FlB (w4.alloc (.cells #[.bool false, .int .i64 2, .int .u64 1, .int .i64 (-149)] 80)) w4.heap.size _ _ _ _) := FlB.new w4 _ _ _ _ _
  have B5 : Hid (Below w.heap.size w (w4.alloc (.cells #[.bool false, .int .i64 2, .int .u64 1, .int .i64 (-149)] 80))) := B4.out.alloc B4.out.size _
  have s5 : Hid (w.heap.size < w3.heap.size ∧ w.heap.size < w4.heap.size) := ⟨s3, Nat.lt_of_lt_of_le T4.out.lt (Nat.le_refl _)⟩
  clear T4 X4 B4
  go_upto_region 7 with fail
  generalize w4.alloc (.cells #[.bool false, .int .i64 2, .int .u64 1, .int .i64 (-149)] 80) = v at *
  obtain ⟨s6, s7⟩ := s5.out
  have n3 : w3.heap.size ≠ w.heap.size := by omega
  have n4 : w4.heap.size ≠ w.heap.size := by omega
  obtain ⟨_, t0, t1, t2, g0, g1, g2⟩ := T5.out
  obtain ⟨_, _, _, x2, _, _, _, _, _⟩ := X5.out
  obtain ⟨_, _, _, _, y3, _, _, _, _⟩ := Y5.out
  go_region_held3 (fun w' => w'.cell? ⟨w3.heap.size, 2, none⟩ = some (.int .u64 16777215) ∧ w'.cell? ⟨w4.heap.size, 3, none⟩ = some (.int .i64 (-149)) ∧ w'.frozen? ⟨w.heap.size, 0, none⟩ = false ∧ w'.frozen? ⟨w.heap.size, 1, none⟩ = false ∧ w'.frozen? ⟨w.heap.size, 2, none⟩ = false) (simp [*, go_sem])
    (first
      | (go_at_call 60; refine (HN _).mono ?_; rintro x1 w2 ⟨rfl, hh⟩; subst hh))
  go_wp2
  exact bodyPost_ret (v := .tuple #[.agg #[.int .i64 32, .int .i64 24, .int .i64 (-149)], .nilIface]) (by simp [results, Tryd.results31, go_sem, World.cell?_setCell_same, World.cell?_setCell_other, *]) rfl ⟨rfl, ((B5.out.drew.setCell (Nat.le_refl _) _).setCell (Nat.le_refl _) _).setCell (Nat.le_refl _) _⟩
set_option maxRecDepth 100000 in
set_option maxHeartbeats 1000000 in
theorem gridOf_64 (w : World) : Calls Tryd.prog 31 #[.int .i64 64] w fun e w' => e = .returned (.tuple #[.agg #[.int .i64 64, .int .i64 53, .int .i64 (-1074)], .nilIface]) ∧ Below w.heap.size w w' := by
  have HM := fun W => bmost_64 W
  have HL := fun W => bleast_64 W
  have U1 : ∀ W, Calls Tryd.prog 59 #[.int .u64 9218868437227405311, .int .i64 64] W fun e w' => e = .returned (.tuple #[.agg #[.bool false, .int .i64 2, .int .u64 9007199254740991, .int .i64 (971)], .nilIface]) ∧ Below W.heap.size W w' := fun W => by
    have h := unp_64 (b := 9218868437227405311) (by decide) W
    rw [show uN 9223372036854775808 9218868437227405312 9218868437227405311 = false by decide +kernel, show mg 9223372036854775808 9218868437227405311 = 9218868437227405311 by decide +kernel, show cl 9218868437227405312 9218868437227405311 = 2 by decide +kernel, show uM 9218868437227405312 52 9218868437227405311 = 9007199254740991 by decide +kernel, show uE 9218868437227405312 52 (-1074) 9218868437227405311 = 971 by decide +kernel, show ((9218868437227405311 : Nat) : Int) = 9218868437227405311 from rfl, show ((9007199254740991 : Nat) : Int) = 9007199254740991 from rfl] at h
    exact h
  have U2 : ∀ W, Calls Tryd.prog 59 #[.int .u64 1, .int .i64 64] W fun e w' => e = .returned (.tuple #[.agg #[.bool false, .int .i64 2, .int .u64 1, .int .i64 (-1074)], .nilIface]) ∧ Below W.heap.size W w' := fun W => by
    have h := unp_64 (b := 1) (by decide) W
    rw [show uN 9223372036854775808 9218868437227405312 1 = false by decide +kernel, show mg 9223372036854775808 1 = 1 by decide +kernel, show cl 9218868437227405312 1 = 2 by decide +kernel, show uM 9218868437227405312 52 1 = 1 by decide +kernel, show uE 9218868437227405312 52 (-1074) 1 = -1074 by decide +kernel, show ((1 : Nat) : Int) = 1 from rfl] at h
    exact h
  have HN : ∀ W, Calls Tryd.prog 60 #[.int .u64 9007199254740991] W fun e w' => e = .returned (.int .i64 53) ∧ w' = W := fun W => by
    have h := len64_any 9007199254740991 ⟨by decide, by decide⟩ W
    rw [show blen 9007199254740991 = 53 by decide +kernel] at h
    exact h
  go_enter Tryd.func31, Tryd.ntmps31
  go_wp2_with fail
  refine (HM _).mono ?_
  rintro e w1 ⟨rfl, hb⟩
  have T1 : Hid (GrB w1 w.heap.size _ _ _) := (GrB.new w (.int .i64 0) (.int .i64 0) (.int .i64 0) 64).step hb
  have B1 : Hid (Below w.heap.size w w1) := ((Below.refl _ _).alloc (Nat.le_refl _) _).trans (hb.mono (by simp))
  clear hb
  go_wp2_with fail
  refine (HL _).mono ?_
  rintro e w2 ⟨rfl, hb⟩
  have T2 : Hid (GrB w2 w.heap.size _ _ _) := T1.out.step hb
  have B2 : Hid (Below w.heap.size w w2) := B1.out.trans (hb.mono B1.out.size)
  clear hb T1 B1
  go_wp2_with fail
  refine (U1 _).mono ?_
  rintro e w3 ⟨rfl, hb⟩
  have T3 : Hid (GrB w3 w.heap.size _ _ _) := T2.out.step hb
  have B3 : Hid (Below w.heap.size w w3) := B2.out.trans (hb.mono B2.out.size)
  have s3 : w.heap.size < w3.heap.size := T3.out.lt
  clear hb T2 B2
  go_wp2_with fail
  refine (U2 _).mono ?_
  rintro e w4 ⟨rfl, hb⟩
  have T4 : Hid (GrB w4 w.heap.size _ _ _) := (T3.out.al _).step hb
  have X4 : Hid (FlB w4 w3.heap.size _ _ _ _) := (FlB.new w3 _ _ _ _ _).step hb
  have B4 : Hid (Below w.heap.size w w4) := (B3.out.alloc B3.out.size _).trans (hb.mono (by have := B3.out.size; simp; omega))
  clear hb T3 B3
  have T5 : Hid (GrB (w4.alloc (.cells #[.bool false, .int .i64 2, .int .u64 1, .int .i64 (-1074)] 80)) w.heap.size _ _ _) := T4.out.al _
  have X5 : Hid (FlB (w4.alloc (.cells #[.bool false, .int .i64 2, .int .u64 1, .int .i64 (-1074)] 80)) w3.heap.size _ _ _ _) := X4.out.al _
  have Y5 : Hid (FlB (w4.alloc (.cells #[.bool false, .int .i64 2, .int .u64 1, .int .i64 (-1074)] 80)) w4.heap.size _ _ _ _) := FlB.new w4 _ _ _ _ _
  have B5 : Hid (Below w.heap.size w (w4.alloc (.cells #[.bool false, .int .i64 2, .int .u64 1, .int .i64 (-1074)] 80))) := B4.out.alloc B4.out.size _
  have s5 : Hid (w.heap.size < w3.heap.size ∧ w.heap.size < w4.heap.size) := ⟨s3, Nat.lt_of_lt_of_le T4.out.lt (Nat.le_refl _)⟩
  clear T4 X4 B4
  go_upto_region 7 with fail
  generalize w4.alloc (.cells #[.bool false, .int .i64 2, .int .u64 1, .int .i64 (-1074)] 80) = v at *
  obtain ⟨s6, s7⟩ := s5.out
  have n3 : w3.heap.size ≠ w.heap.size := by omega
  have n4 : w4.heap.size ≠ w.heap.size := by omega
  obtain ⟨_, t0, t1, t2, g0, g1, g2⟩ := T5.out
  obtain ⟨_, _, _, x2, _, _, _, _, _⟩ := X5.out
  obtain ⟨_, _, _, _, y3, _, _, _, _⟩ := Y5.out
  go_region_held3 (fun w' => w'.cell? ⟨w3.heap.size, 2, none⟩ = some (.int .u64 9007199254740991) ∧ w'.cell? ⟨w4.heap.size, 3, none⟩ = some (.int .i64 (-1074)) ∧ w'.frozen? ⟨w.heap.size, 0, none⟩ = false ∧ w'.frozen? ⟨w.heap.size, 1, none⟩ = false ∧ w'.frozen? ⟨w.heap.size, 2, none⟩ = false) (simp [*, go_sem])
    (first
      | (go_at_call 60; refine (HN _).mono ?_; rintro x1 w2 ⟨rfl, hh⟩; subst hh))
  go_wp2
  exact bodyPost_ret (v := .tuple #[.agg #[.int .i64 64, .int .i64 53, .int .i64 (-1074)], .nilIface]) (by simp [results, Tryd.results31, go_sem, World.cell?_setCell_same, World.cell?_setCell_other, *]) rfl ⟨rfl, ((B5.out.drew.setCell (Nat.le_refl _) _).setCell (Nat.le_refl _) _).setCell (Nat.le_refl _) _⟩
theorem bound_yes {e : Int} (h0 : -1099511627776 ≤ e) (h1 : e ≤ 1099511627776) (w : World) : Calls Tryd.prog 33 #[.int .i64 e] w fun x w' => x = .returned .nilIface ∧ w' = w := by
  have p1 : ¬ e < -1099511627776 := by omega
  have p2 : ¬ 1099511627776 < e := by omega
  clear h0 h1
  go_enter Tryd.func33, Tryd.ntmps33
  go_wp2
  go_ret
  exact ⟨rfl, rfl⟩
theorem bound_no {e : Int} (h : e < -1099511627776 ∨ 1099511627776 < e) (w : World) : Calls Tryd.prog 33 #[.int .i64 e] w fun x w' => x = .returned (.iface 76 (.int .i64 1)) ∧ w' = w := by
  by_cases p1 : e < -1099511627776
  · clear h
    go_enter Tryd.func33, Tryd.ntmps33
    go_wp2
    go_ret
    exact ⟨rfl, rfl⟩
  · have p2 : 1099511627776 < e := by omega
    clear h
    go_enter Tryd.func33, Tryd.ntmps33
    go_wp2
    go_ret
    exact ⟨rfl, rfl⟩
theorem gridOf_z {s : Int} {g n f T : Nat} {L : Int} (h : Fz s g n f T L) (w : World) : Calls Tryd.prog 31 #[.int .i64 s] w fun e w' => e = .returned (.tuple #[.agg #[.int .i64 s, .int .i64 ((f : Int) + 1), .int .i64 L], .nilIface]) ∧ Below w.heap.size w w' := by
  rcases h with ⟨rfl, rfl, rfl, rfl, rfl, rfl⟩ | ⟨rfl, rfl, rfl, rfl, rfl, rfl⟩
  · exact gridOf_32 w
  · exact gridOf_64 w
end Go.Proofs.YtealnajogkeckaaDoor
