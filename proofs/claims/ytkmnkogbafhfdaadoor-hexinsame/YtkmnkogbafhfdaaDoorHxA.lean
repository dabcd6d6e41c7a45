/-
  What gridOf and dropped of hexin answer.
-/
import Derived.Test.YtkmnkogbafhfdaaDoorHx4
import Derived.Test.YtkmnkogbafhfdaaDoorHxM
import Derived.BigQuiet
namespace Go.Proofs.YtkmnkogbafhfdaaDoor
open Go.RowKit

set_option maxRecDepth 100000 in
set_option maxHeartbeats 1000000 in
theorem gridOf_no {s : Int} (h : Sn s) (w : World) : Calls Tryd.prog 14 #[.int .i64 s] w fun e w' => e = .returned (.tuple #[.agg #[.int .i64 0, .int .i64 0, .int .i64 0], .iface 42 (.int .i64 5)]) ∧ Below w.heap.size w w' := by
  have H := fun W => bmost_no h W
  go_enter Tryd.func14, Tryd.ntmps14
  go_wp2_with fail
  refine (H _).mono ?_
  rintro e w1 ⟨rfl, hb⟩
  have T : Hid (GrB w1 w.heap.size _ _ _) := (GrB.new w (.int .i64 0) (.int .i64 0) (.int .i64 0) 48).step hb
  have B : Hid (Below w.heap.size w w1) := ((Below.refl _ _).alloc (Nat.le_refl _) _).trans (hb.mono (by simp))
  clear hb
  obtain ⟨l, a0, a1, a2, f0, f1, f2⟩ := T.out
  go_wp2
  exact bodyPost_ret (v := .tuple #[.agg #[.int .i64 0, .int .i64 0, .int .i64 0], .iface 42 (.int .i64 5)]) (by simp [results, Tryd.results14, go_sem, World.cell?_setCell_same, World.cell?_setCell_other, *]) rfl ⟨rfl, ((B.out.setCell (Nat.le_refl _) _).setCell (Nat.le_refl _) _).setCell (Nat.le_refl _) _⟩
set_option maxRecDepth 100000 in
set_option maxHeartbeats 1000000 in
theorem gridOf_32 (w : World) : Calls Tryd.prog 14 #[.int .i64 32] w fun e w' => e = .returned (.tuple #[.agg #[.int .i64 32, .int .i64 24, .int .i64 (-149)], .nilIface]) ∧ Below w.heap.size w w' := by
  have HM := fun W => bmost_32 W
  have HL := fun W => bleast_32 W
  have U1 : ∀ W, Calls Tryd.prog 29 #[.int .u64 2139095039, .int .i64 32] W fun e w' => e = .returned (.tuple #[.agg #[.bool false, .int .i64 2, .int .u64 16777215, .int .i64 (104)], .nilIface]) ∧ Below W.heap.size W w' := fun W => by
    have h := unp_32 (b := 2139095039) (by decide) W
    rw [show uN 2147483648 2139095040 2139095039 = false by decide +kernel, show mg 2147483648 2139095039 = 2139095039 by decide +kernel, show cl 2139095040 2139095039 = 2 by decide +kernel, show uM 2139095040 23 2139095039 = 16777215 by decide +kernel, show uE 2139095040 23 (-149) 2139095039 = 104 by decide +kernel, show ((2139095039 : Nat) : Int) = 2139095039 from rfl, show ((16777215 : Nat) : Int) = 16777215 from rfl] at h
    exact h
  have U2 : ∀ W, Calls Tryd.prog 29 #[.int .u64 1, .int .i64 32] W fun e w' => e = .returned (.tuple #[.agg #[.bool false, .int .i64 2, .int .u64 1, .int .i64 (-149)], .nilIface]) ∧ Below W.heap.size W w' := fun W => by
    have h := unp_32 (b := 1) (by decide) W
    rw [show uN 2147483648 2139095040 1 = false by decide +kernel, show mg 2147483648 1 = 1 by decide +kernel, show cl 2139095040 1 = 2 by decide +kernel, show uM 2139095040 23 1 = 1 by decide +kernel, show uE 2139095040 23 (-149) 1 = -149 by decide +kernel, show ((1 : Nat) : Int) = 1 from rfl] at h
    exact h
  have HN : ∀ W, Calls Tryd.prog 30 #[.int .u64 16777215] W fun e w' => e = .returned (.int .i64 24) ∧ w' = W := fun W => by
    have h := len64_any 16777215 ⟨by decide, by decide⟩ W
    rw [show blen 16777215 = 24 by decide +kernel] at h
    exact h
  go_enter Tryd.func14, Tryd.ntmps14
  go_wp2_with fail
  refine (HM _).mono ?_
  rintro e w1 ⟨rfl, hb⟩
  have T1 : Hid (GrB w1 w.heap.size _ _ _) := (GrB.new w (.int .i64 0) (.int .i64 0) (.int .i64 0) 48).step hb
  have B1 : Hid (Below w.heap.size w w1) := ((Below.refl _ _).alloc (Nat.le_refl _) _).trans (hb.mono (by simp))
  clear hb
  go_wp2_with fail
  refine (HL _).mono ?_
  rintro e w2 ⟨rfl, hb⟩
  have T2 : Hid (GrB w2 w.heap.size _ _ _) := T1.out.step hb
  have B2 : Hid (Below w.heap.size w w2) := B1.out.trans (hb.mono B1.out.size)
  clear hb T1 B1
  go_wp2_with fail
  refine (U1 _).mono ?_
  rintro e w3 ⟨rfl, hb⟩
  have T3 : Hid (GrB w3 w.heap.size _ _ _) := T2.out.step hb
  have B3 : Hid (Below w.heap.size w w3) := B2.out.trans (hb.mono B2.out.size)
  have s3 : w.heap.size < w3.heap.size := T3.out.lt
  clear hb T2 B2
  go_wp2_with fail
  refine (U2 _).mono ?_
  rintro e w4 ⟨rfl, hb⟩
  have T4 : Hid (GrB w4 w.heap.size _ _ _) := (T3.out.al _).step hb
  have X4 : Hid (FlB w4 w3.heap.size _ _ _ _) := (FlB.new w3 _ _ _ _ _).step hb
  have B4 : Hid (Below w.heap.size w w4) := (B3.out.alloc B3.out.size _).trans (hb.mono (by have := B3.out.size; simp; omega))
  clear hb T3 B3
  have T5 : Hid (GrB (w4.alloc (.cells #[.bool false, .int .i64 2, .int .u64 1, .int .i64 (-149)] 79)) w.heap.size _ _ _) := T4.out.al _
  have X5 : Hid (FlB (w4.alloc (.cells #[.bool false, .int .i64 2, .int .u64 1, .int .i64 (-149)] 79)) w3.heap.size _ _ _ _) := X4.out.al _
  have Y5 : Hid (FlB (w4.alloc (.cells #[.bool false, .int .i64 2, .int .u64 1, .int .i64 (-149)] 79)) w4.heap.size _ _ _ _) := FlB.new w4 _ _ _ _ _
  have B5 : Hid (Below w.heap.size w (w4.alloc (.cells #[.bool false, .int .i64 2, .int .u64 1, .int .i64 (-149)] 79))) := B4.out.alloc B4.out.size _
  have s5 : Hid (w.heap.size < w3.heap.size ∧ w.heap.size < w4.heap.size) := ⟨s3, Nat.lt_of_lt_of_le T4.out.lt (Nat.le_refl _)⟩
  clear T4 X4 B4
  go_upto_region 7 with fail
  generalize w4.alloc (.cells #[.bool false, .int .i64 2, .int .u64 1, .int .i64 (-149)] 79) = v at *
  obtain ⟨s6, s7⟩ := s5.out
  have n3 : w3.heap.size ≠ w.heap.size := by omega
  have n4 : w4.heap.size ≠ w.heap.size := by omega
  obtain ⟨_, t0, t1, t2, g0, g1, g2⟩ := T5.out
  obtain ⟨_, _, _, x2, _, _, _, _, _⟩ := X5.out
  obtain ⟨_, _, _, _, y3, _, _, _, _⟩ := Y5.out
  go_region_held3 (fun w' => w'.cell? ⟨w3.heap.size, 2, none⟩ = some (.int .u64 16777215) ∧ w'.cell? ⟨w4.heap.size, 3, none⟩ = some (.int .i64 (-149)) ∧ w'.frozen? ⟨w.heap.size, 0, none⟩ = false ∧ w'.frozen? ⟨w.heap.size, 1, none⟩ = false ∧ w'.frozen? ⟨w.heap.size, 2, none⟩ = false) (simp [*, go_sem])
    (first
      | (go_at_call 30; refine (HN _).mono ?_; rintro x1 w2 ⟨rfl, hh⟩; subst hh))
  go_wp2
  exact bodyPost_ret (v := .tuple #[.agg #[.int .i64 32, .int .i64 24, .int .i64 (-149)], .nilIface]) (by simp [results, Tryd.results14, go_sem, World.cell?_setCell_same, World.cell?_setCell_other, *]) rfl ⟨rfl, ((B5.out.drew.setCell (Nat.le_refl _) _).setCell (Nat.le_refl _) _).setCell (Nat.le_refl _) _⟩
set_option maxRecDepth 100000 in
set_option maxHeartbeats 1000000 in
theorem gridOf_64 (w : World) : Calls Tryd.prog 14 #[.int .i64 64] w fun e w' => e = .returned (.tuple #[.agg #[.int .i64 64, .int .i64 53, .int .i64 (-1074)], .nilIface]) ∧ Below w.heap.size w w' := by
  have HM := fun W => bmost_64 W
  have HL := fun W => bleast_64 W
  have U1 : ∀ W, Calls Tryd.prog 29 #[.int .u64 9218868437227405311, .int .i64 64] W fun e w' => e = .returned (.tuple #[.agg #[.bool false, .int .i64 2, .int .u64 9007199254740991, .int .i64 (971)], .nilIface]) ∧ Below W.heap.size W w' := fun W => by
    have h := unp_64 (b := 9218868437227405311) (by decide) W
    rw [show uN 9223372036854775808 9218868437227405312 9218868437227405311 = false by decide +kernel, show mg 9223372036854775808 9218868437227405311 = 9218868437227405311 by decide +kernel, show cl 9218868437227405312 9218868437227405311 = 2 by decide +kernel, show uM 9218868437227405312 52 9218868437227405311 = 9007199254740991 by decide +kernel, show uE 9218868437227405312 52 (-1074) 9218868437227405311 = 971 by decide +kernel, show ((9218868437227405311 : Nat) : Int) = 9218868437227405311 from rfl, show ((9007199254740991 : Nat) : Int) = 9007199254740991 from rfl] at h
    exact h
  have U2 : ∀ W, Calls Tryd.prog 29 #[.int .u64 1, .int .i64 64] W fun e w' => e = .returned (.tuple #[.agg #[.bool false, .int .i64 2, .int .u64 1, .int .i64 (-1074)], .nilIface]) ∧ Below W.heap.size W w' := fun W => by
    have h := unp_64 (b := 1) (by decide) W
    rw [show uN 9223372036854775808 9218868437227405312 1 = false by decide +kernel, show mg 9223372036854775808 1 = 1 by decide +kernel, show cl 9218868437227405312 1 = 2 by decide +kernel, show uM 9218868437227405312 52 1 = 1 by decide +kernel, show uE 9218868437227405312 52 (-1074) 1 = -1074 by decide +kernel, show ((1 : Nat) : Int) = 1 from rfl] at h
    exact h
  have HN : ∀ W, Calls Tryd.prog 30 #[.int .u64 9007199254740991] W fun e w' => e = .returned (.int .i64 53) ∧ w' = W := fun W => by
    have h := len64_any 9007199254740991 ⟨by decide, by decide⟩ W
    rw [show blen 9007199254740991 = 53 by decide +kernel] at h
    exact h
  go_enter Tryd.func14, Tryd.ntmps14
  go_wp2_with fail
  refine (HM _).mono ?_
  rintro e w1 ⟨rfl, hb⟩
  have T1 : Hid (GrB w1 w.heap.size _ _ _) := (GrB.new w (.int .i64 0) (.int .i64 0) (.int .i64 0) 48).step hb
  have B1 : Hid (Below w.heap.size w w1) := ((Below.refl _ _).alloc (Nat.le_refl _) _).trans (hb.mono (by simp))
  clear hb
  go_wp2_with fail
  refine (HL _).mono ?_
  rintro e w2 ⟨rfl, hb⟩
  have T2 : Hid (GrB w2 w.heap.size _ _ _) := T1.out.step hb
  have B2 : Hid (Below w.heap.size w w2) := B1.out.trans (hb.mono B1.out.size)
  clear hb T1 B1
  go_wp2_with fail
  refine (U1 _).mono ?_
  rintro e w3 ⟨rfl, hb⟩
  have T3 : Hid (GrB w3 w.heap.size _ _ _) := T2.out.step hb
  have B3 : Hid (Below w.heap.size w w3) := B2.out.trans (hb.mono B2.out.size)
  have s3 : w.heap.size < w3.heap.size := T3.out.lt
  clear hb T2 B2
  go_wp2_with fail
  refine (U2 _).mono ?_
  rintro e w4 ⟨rfl, hb⟩
  have T4 : Hid (GrB w4 w.heap.size _ _ _) := (T3.out.al _).step hb
  have X4 : Hid (FlB w4 w3.heap.size _ _ _ _) := (FlB.new w3 _ _ _ _ _).step hb
  have B4 : Hid (Below w.heap.size w w4) := (B3.out.alloc B3.out.size _).trans (hb.mono (by have := B3.out.size; simp; omega))
  clear hb T3 B3
  have T5 : Hid (GrB (w4.alloc (.cells #[.bool false, .int .i64 2, .int .u64 1, .int .i64 (-1074)] 79)) w.heap.size _ _ _) := T4.out.al _
  have X5 : Hid (FlB (w4.alloc (.cells #[.bool false, .int .i64 2, .int .u64 1, .int .i64 (-1074)] 79)) w3.heap.size _ _ _ _) := X4.out.al _
  have Y5 : Hid (FlB (w4.alloc (.cells #[.bool false, .int .i64 2, .int .u64 1, .int .i64 (-1074)] 79)) w4.heap.size _ _ _ _) := FlB.new w4 _ _ _ _ _
  have B5 : Hid (Below w.heap.size w (w4.alloc (.cells #[.bool false, .int .i64 2, .int .u64 1, .int .i64 (-1074)] 79))) := B4.out.alloc B4.out.size _
  have s5 : Hid (w.heap.size < w3.heap.size ∧ w.heap.size < w4.heap.size) := ⟨s3, Nat.lt_of_lt_of_le T4.out.lt (Nat.le_refl _)⟩
  clear T4 X4 B4
  go_upto_region 7 with fail
  generalize w4.alloc (.cells #[.bool false, .int .i64 2, .int .u64 1, .int .i64 (-1074)] 79) = v at *
  obtain ⟨s6, s7⟩ := s5.out
  have n3 : w3.heap.size ≠ w.heap.size := by omega
  have n4 : w4.heap.size ≠ w.heap.size := by omega
  obtain ⟨_, t0, t1, t2, g0, g1, g2⟩ := T5.out
  obtain ⟨_, _, _, x2, _, _, _, _, _⟩ := X5.out
  obtain ⟨_, _, _, _, y3, _, _, _, _⟩ := Y5.out
  go_region_held3 (fun w' => w'.cell? ⟨w3.heap.size, 2, none⟩ = some (.int .u64 9007199254740991) ∧ w'.cell? ⟨w4.heap.size, 3, none⟩ = some (.int .i64 (-1074)) ∧ w'.frozen? ⟨w.heap.size, 0, none⟩ = false ∧ w'.frozen? ⟨w.heap.size, 1, none⟩ = false ∧ w'.frozen? ⟨w.heap.size, 2, none⟩ = false) (simp [*, go_sem])
    (first
      | (go_at_call 30; refine (HN _).mono ?_; rintro x1 w2 ⟨rfl, hh⟩; subst hh))
  go_wp2
  exact bodyPost_ret (v := .tuple #[.agg #[.int .i64 64, .int .i64 53, .int .i64 (-1074)], .nilIface]) (by simp [results, Tryd.results14, go_sem, World.cell?_setCell_same, World.cell?_setCell_other, *]) rfl ⟨rfl, ((B5.out.drew.setCell (Nat.le_refl _) _).setCell (Nat.le_refl _) _).setCell (Nat.le_refl _) _⟩
theorem gridOf_z {s : Int} {g n f T : Nat} {L : Int} (h : Fz s g n f T L) (w : World) : Calls Tryd.prog 14 #[.int .i64 s] w fun e w' => e = .returned (.tuple #[.agg #[.int .i64 s, .int .i64 ((f : Int) + 1), .int .i64 L], .nilIface]) ∧ Below w.heap.size w w' := by
  rcases h with ⟨rfl, rfl, rfl, rfl, rfl, rfl⟩ | ⟨rfl, rfl, rfl, rfl, rfl, rfl⟩
  · exact gridOf_32 w
  · exact gridOf_64 w

set_option maxRecDepth 100000 in
set_option maxHeartbeats 1000000 in
theorem drop_none {m : Nat} (more : Bool) (w : World) : Calls Tryd.prog 17 #[.int .u64 (m : Int), .int .i64 0, .bool more] w fun e w' => e = .returned (.int .u64 (m : Int)) ∧ w' = w := by
  go_enter Tryd.func17, Tryd.ntmps17
  go_wp2
  go_ret
  exact ⟨rfl, rfl⟩
set_option maxRecDepth 100000 in
set_option maxHeartbeats 1000000 in
theorem drop_far {m D : Nat} (hm : m < 18446744073709551616) (hD : 64 < D) (hD2 : D < 9223372036854775808) (more : Bool) (w : World) : Calls Tryd.prog 17 #[.int .u64 (m : Int), .int .i64 (D : Int), .bool more] w fun e w' => e = .returned (.int .u64 0) ∧ w' = w := by
  have p1 : ((D : Int) == 0) = false := by simp; omega
  have p2 : (64 : Int) < (D : Int) := by omega
  have p3 : ¬ (D : Int) < 0 := by omega
  go_enter Tryd.func17, Tryd.ntmps17
  go_wp2
  have e : (m : Int) / 2 ^ min D 64 = 0 := by
    rw [show min D 64 = 64 from by omega]
    omega
  rw [e]
  go_ret
  exact ⟨rfl, rfl⟩
set_option maxRecDepth 100000 in
set_option maxHeartbeats 1000000 in
theorem drop_some {m D : Nat} (hm : m < 18446744073709551616) (hD : D ≤ 64) (hD0 : D ≠ 0) (more : Bool) (w : World) : Calls Tryd.prog 17 #[.int .u64 (m : Int), .int .i64 (D : Int), .bool more] w fun e w' => e = .returned (.int .u64 ((dpK m D more : Nat) : Int)) ∧ Below w.heap.size w w' := by
  have p1 : ((D : Int) == 0) = false := by simp; omega
  have p2 : ¬ (64 : Int) < (D : Int) := by omega
  have p3 : ¬ (D : Int) < 0 := by omega
  have p4 : ¬ (D : Int) - 1 < 0 := by omega
  obtain ⟨Z, hZ⟩ : ∃ Z, Z = dpK m D more := ⟨_, rfl⟩
  rw [← hZ]
  have HZ : Hid (Z = dpK m D more) := hZ
  clear hZ
  go_enter Tryd.func17, Tryd.ntmps17
  go_wp2
  go_quiet (fail)
  have hu : dpU m D more = decide (2 ^ (D - 1) < m % 2 ^ D ∨ (m % 2 ^ D = 2 ^ (D - 1) ∧ (more = true ∨ m / 2 ^ D % 2 = 1))) := by
    unfold dpU
    simp [hD, hD0]
  have hp : 2 ^ (D - 1) < 18446744073709551616 := Nat.lt_of_le_of_lt (Nat.pow_le_pow_right (by omega) (show D - 1 ≤ 63 by omega)) (by decide)
  have e1 : (m : Int) / 2 ^ D = ((m / 2 ^ D : Nat) : Int) := by push_cast; rfl
  have e2 : (2 : Int) ^ (D - 1) = ((2 ^ (D - 1) : Nat) : Int) := by push_cast; rfl
  have e3 : ((m / 2 ^ D : Nat) : Int) * 2 ^ D = ((m / 2 ^ D * 2 ^ D : Nat) : Int) := by push_cast; rfl
  have e4 : m / 2 ^ D * 2 ^ D + m % 2 ^ D = m := by rw [Nat.mul_comm]; exact Nat.div_add_mod m (2 ^ D)
  have hk : m / 2 ^ D < 9223372036854775808 := by
    rw [Nat.div_lt_iff_lt_mul (Nat.two_pow_pos D), show D = D - 1 + 1 from by omega, Nat.pow_succ]
    have := Nat.two_pow_pos (D - 1)
    generalize 2 ^ (D - 1) = z at *
    omega
  have hZ := HZ.out
  clear HZ
  unfold dpK at hZ
  rw [e1, e2, e3]
  generalize m / 2 ^ D * 2 ^ D = P at *
  have w1 : IntKind.u64.wrap (P : Int) = (P : Int) := IntWalk.u64_in _ ⟨by omega, by omega⟩
  have w2 : IntKind.u64.wrap ((m : Int) - (P : Int)) = ((m % 2 ^ D : Nat) : Int) := by
    rw [show (m : Int) - (P : Int) = ((m % 2 ^ D : Nat) : Int) from by omega]
    exact IntWalk.u64_in _ ⟨by omega, by omega⟩
  have w3 : IntKind.u64.wrap ((2 ^ (D - 1) : Nat) : Int) = ((2 ^ (D - 1) : Nat) : Int) := by
    generalize 2 ^ (D - 1) = z at *
    exact IntWalk.u64_in _ ⟨by omega, by omega⟩
  rw [w1, w2, w3]
  clear w1 w2 w3 e1 e2 e3 e4 p1 p2 p3 p4 hD hD0
  generalize m % 2 ^ D = R at *
  generalize m / 2 ^ D = k at *
  generalize 2 ^ (D - 1) = H at *
  generalize dpU m D more = U at *
  subst hu
  have q : k % 2 = 0 ∨ k % 2 = 1 := by omega
  have fin : Below w.heap.size w (w.drewN nq) := below_drewN (Below.refl _ _) nq
  cases more
  · simp only [Bool.false_eq_true, false_or, decide_eq_true_eq] at hZ
    go_wp2
    all_goals go_ret
    all_goals simp only [beq_iff_eq, beq_eq_false_iff_ne, ne_eq] at *
    all_goals first
      | (refine ⟨congrArg (fun z : Int => Ending.returned (.int .u64 z)) (show (k : Int) + 1 = (Z : Int) from ?_), fin⟩; split at hZ <;> omega)
      | (refine ⟨congrArg (fun z : Int => Ending.returned (.int .u64 z)) (show (k : Int) = (Z : Int) from ?_), fin⟩; split at hZ <;> omega)
  · simp only [true_or, and_true, decide_eq_true_eq] at hZ
    go_wp2
    all_goals go_ret
    all_goals first
      | (refine ⟨congrArg (fun z : Int => Ending.returned (.int .u64 z)) (show (k : Int) + 1 = (Z : Int) from ?_), fin⟩; split at hZ <;> omega)
      | (refine ⟨congrArg (fun z : Int => Ending.returned (.int .u64 z)) (show (k : Int) = (Z : Int) from ?_), fin⟩; split at hZ <;> omega)
theorem dropped_any {m D : Nat} (hm : m < 18446744073709551616) (hD : D < 9223372036854775808) (more : Bool) (w : World) : Calls Tryd.prog 17 #[.int .u64 (m : Int), .int .i64 (D : Int), .bool more] w fun e w' => e = .returned (.int .u64 ((dpK m D more : Nat) : Int)) ∧ Below w.heap.size w w' := by
  by_cases h0 : D = 0
  · subst h0
    have e : dpK m 0 more = m := by unfold dpK dpU; simp
    rw [e]
    exact (drop_none more w).mono fun e w' q => ⟨q.1, by rw [q.2]; exact Below.refl _ _⟩
  by_cases h1 : D ≤ 64
  · exact drop_some hm h1 h0 more w
  · have e : dpK m D more = 0 := by
      unfold dpK dpU
      rw [if_neg (by simp [h1]), Nat.add_zero]
      exact Nat.div_eq_of_lt (Nat.lt_of_lt_of_le hm (Nat.le_trans (by decide : 18446744073709551616 ≤ 2 ^ 64) (Nat.pow_le_pow_right (by omega) (by omega))))
    rw [e]
    exact (drop_far hm (by omega) hD more w).mono fun e w' q => ⟨q.1, by rw [q.2]; exact Below.refl _ _⟩
end Go.Proofs.YtkmnkogbafhfdaaDoor
