/-
  What the program's calls of nat, dec, bits and round answer, as far as compare asks them.
-/
import Derived.Test.YtfoaeholbidngaaGreatDoorCp3
import Derived.Test.YtfoaeholbidngaaGreatDoorEx4
namespace Go.Proofs.YtfoaeholbidngaaGreatDoor
open Go.RowKit

theorem GrB.al {W : World} {K : Nat} {a b c : Value} (h : GrB W K a b c) (o : Obj) : GrB (W.alloc o) K a b c := h.step ((Below.refl _ _).alloc (Nat.le_refl _) _)
set_option maxRecDepth 100000 in
set_option maxHeartbeats 1000000 in
theorem gridOf_32 (w : World) : Calls Tryz.prog 91 #[.int .i64 32] w fun e w' => e = .returned (.tuple #[.agg #[.int .i64 32, .int .i64 24, .int .i64 (-149)], .nilIface]) ∧ Below w.heap.size w w' := by
  have HM := fun W => bmost_32 W
  have HL := fun W => bleast_32 W
  have U1 : ∀ W, Calls Tryz.prog 80 #[.int .u64 2139095039, .int .i64 32] W fun e w' => e = .returned (.tuple #[.agg #[.bool false, .int .i64 2, .int .u64 16777215, .int .i64 (104)], .nilIface]) ∧ Below W.heap.size W w' := fun W => by
    have h := unp_32 (b := 2139095039) (by decide) W
    rw [show uN 2147483648 2139095040 2139095039 = false by decide +kernel, show mg 2147483648 2139095039 = 2139095039 by decide +kernel, show cl 2139095040 2139095039 = 2 by decide +kernel, show uM 2139095040 23 2139095039 = 16777215 by decide +kernel, show uE 2139095040 23 (-149) 2139095039 = 104 by decide +kernel, show ((2139095039 : Nat) : Int) = 2139095039 from rfl, show ((16777215 : Nat) : Int) = 16777215 from rfl] at h
    exact h
  have U2 : ∀ W, Calls Tryz.prog 80 #[.int .u64 1, .int .i64 32] W fun e w' => e = .returned (.tuple #[.agg #[.bool false, .int .i64 2, .int .u64 1, .int .i64 (-149)], .nilIface]) ∧ Below W.heap.size W w' := fun W => by
    have h := unp_32 (b := 1) (by decide) W
    rw [show uN 2147483648 2139095040 1 = false by decide +kernel, show mg 2147483648 1 = 1 by decide +kernel, show cl 2139095040 1 = 2 by decide +kernel, show uM 2139095040 23 1 = 1 by decide +kernel, show uE 2139095040 23 (-149) 1 = -149 by decide +kernel, show ((1 : Nat) : Int) = 1 from rfl] at h
    exact h
  have HN : ∀ W, Calls Tryz.prog 127 #[.int .u64 16777215] W fun e w' => e = .returned (.int .i64 24) ∧ w' = W := fun W => by
    have h := len64_any 16777215 ⟨by decide, by decide⟩ W
    rw [show blen 16777215 = 24 by decide +kernel] at h
    exact h
  go_enter Tryz.func91, Tryz.ntmps91
  go_wp2_with fail
  refine (HM _).mono ?_
  rintro e w1 ⟨rfl, hb⟩
  have T1 : Hid (GrB w1 w.heap.size _ _ _) := (GrB.new w (.int .i64 0) (.int .i64 0) (.int .i64 0) 136).step hb
  have B1 : Hid (Below w.heap.size w w1) := ((Below.refl _ _).alloc (Nat.le_refl _) _).trans (hb.mono (by simp))
  clear hb
  go_wp2_with fail
  refine (HL _).mono ?_
  rintro e w2 ⟨rfl, hb⟩
  have T2 : Hid (GrB w2 w.heap.size _ _ _) := T1.out.step hb
  have B2 : Hid (Below w.heap.size w w2) := B1.out.trans (hb.mono B1.out.size)
  clear hb T1 B1
  go_wp2_with fail
  refine (U1 _).mono ?_
  rintro e w3 ⟨rfl, hb⟩
  have T3 : Hid (GrB w3 w.heap.size _ _ _) := T2.out.step hb
  have B3 : Hid (Below w.heap.size w w3) := B2.out.trans (hb.mono B2.out.size)
  have s3 : w.heap.size < w3.heap.size := T3.out.lt
  clear hb T2 B2
  go_wp2_with fail
  refine (U2 _).mono ?_
  rintro e w4 ⟨rfl, hb⟩
  have T4 : Hid (GrB w4 w.heap.size _ _ _) := (T3.out.al _).step hb
  have X4 : Hid (FlB w4 w3.heap.size _ _ _ _) := (FlB.new w3 _ _ _ _ _).step hb
  have B4 : Hid (Below w.heap.size w w4) := (B3.out.alloc B3.out.size _).trans (hb.mono (by have := B3.out.size; simp; omega))
  clear hb T3 B3
  have T5 : Hid (GrB (w4.alloc (.cells #[.bool false, .int .i64 2, .int .u64 1, .int .i64 (-149)] 90)) w.heap.size _ _ _) := T4.out.al _
  have X5 : Hid (FlB (w4.alloc (.cells #[.bool false, .int .i64 2, .int .u64 1, .int .i64 (-149)] 90)) w3.heap.size _ _ _ _) := X4.out.al _
  have Y5 : Hid (FlB (w4.alloc (.cells #[.bool false, .int .i64 2, .int .u64 1, .int .i64 (-149)] 90)) w4.heap.size _ _ _ _) := FlB.new w4 _ _ _ _ _
  have B5 : Hid (Below w.heap.size w (w4.alloc (.cells #[.bool false, .int .i64 2, .int .u64 1, .int .i64 (-149)] 90))) := B4.out.alloc B4.out.size _
  have s5 : Hid (w.heap.size < w3.heap.size ∧ w.heap.size < w4.heap.size) := ⟨s3, Nat.lt_of_lt_of_le T4.out.lt (Nat.le_refl _)⟩
  clear T4 X4 B4
  go_upto_region 7 with fail
  generalize w4.alloc (.cells #[.bool false, .int .i64 2, .int .u64 1, .int .i64 (-149)] 90) = v at *
  obtain ⟨s6, s7⟩ := s5.out
  have n3 : w3.heap.size ≠ w.heap.size := by omega
  have n4 : w4.heap.size ≠ w.heap.size := by omega
  obtain ⟨_, t0, t1, t2, g0, g1, g2⟩ := T5.out
  obtain ⟨_, _, _, x2, _, _, _, _, _⟩ := X5.out
  obtain ⟨_, _, _, _, y3, _, _, _, _⟩ := Y5.out
  go_region_held3 (fun w' => w'.cell? ⟨w3.heap.size, 2, none⟩ = some (.int .u64 16777215) ∧ w'.cell? ⟨w4.heap.size, 3, none⟩ = some (.int .i64 (-149)) ∧ w'.frozen? ⟨w.heap.size, 0, none⟩ = false ∧ w'.frozen? ⟨w.heap.size, 1, none⟩ = false ∧ w'.frozen? ⟨w.heap.size, 2, none⟩ = false) (simp [*, go_sem])
    (first
      | (go_at_call 127; refine (HN _).mono ?_; rintro x1 w2 ⟨rfl, hh⟩; subst hh))
  go_wp2
  exact bodyPost_ret (v := .tuple #[.agg #[.int .i64 32, .int .i64 24, .int .i64 (-149)], .nilIface]) (by simp [results, Tryz.results91, go_sem, World.cell?_setCell_same, World.cell?_setCell_other, *]) rfl ⟨rfl, ((B5.out.drew.setCell (Nat.le_refl _) _).setCell (Nat.le_refl _) _).setCell (Nat.le_refl _) _⟩
set_option maxRecDepth 100000 in
set_option maxHeartbeats 1000000 in
theorem gridOf_64 (w : World) : Calls Tryz.prog 91 #[.int .i64 64] w fun e w' => e = .returned (.tuple #[.agg #[.int .i64 64, .int .i64 53, .int .i64 (-1074)], .nilIface]) ∧ Below w.heap.size w w' := by
  have HM := fun W => bmost_64 W
  have HL := fun W => bleast_64 W
  have U1 : ∀ W, Calls Tryz.prog 80 #[.int .u64 9218868437227405311, .int .i64 64] W fun e w' => e = .returned (.tuple #[.agg #[.bool false, .int .i64 2, .int .u64 9007199254740991, .int .i64 (971)], .nilIface]) ∧ Below W.heap.size W w' := fun W => by
    have h := unp_64 (b := 9218868437227405311) (by decide) W
    rw [show uN 9223372036854775808 9218868437227405312 9218868437227405311 = false by decide +kernel, show mg 9223372036854775808 9218868437227405311 = 9218868437227405311 by decide +kernel, show cl 9218868437227405312 9218868437227405311 = 2 by decide +kernel, show uM 9218868437227405312 52 9218868437227405311 = 9007199254740991 by decide +kernel, show uE 9218868437227405312 52 (-1074) 9218868437227405311 = 971 by decide +kernel, show ((9218868437227405311 : Nat) : Int) = 9218868437227405311 from rfl, show ((9007199254740991 : Nat) : Int) = 9007199254740991 from rfl] at h
    exact h
  have U2 : ∀ W, Calls Tryz.prog 80 #[.int .u64 1, .int .i64 64] W fun e w' => e = .returned (.tuple #[.agg #[.bool false, .int .i64 2, .int .u64 1, .int .i64 (-1074)], .nilIface]) ∧ Below W.heap.size W w' := fun W => by
    have h := unp_64 (b := 1) (by decide) W
    rw [show uN 9223372036854775808 9218868437227405312 1 = false by decide +kernel, show mg 9223372036854775808 1 = 1 by decide +kernel, show cl 9218868437227405312 1 = 2 by decide +kernel, show uM 9218868437227405312 52 1 = 1 by decide +kernel, show uE 9218868437227405312 52 (-1074) 1 = -1074 by decide +kernel, show ((1 : Nat) : Int) = 1 from rfl] at h
    exact h
  have HN : ∀ W, Calls Tryz.prog 127 #[.int .u64 9007199254740991] W fun e w' => e = .returned (.int .i64 53) ∧ w' = W := fun W => by
    have h := len64_any 9007199254740991 ⟨by decide, by decide⟩ W
    rw [show blen 9007199254740991 = 53 by decide +kernel] at h
    exact h
  go_enter Tryz.func91, Tryz.ntmps91
  go_wp2_with fail
  refine (HM _).mono ?_
  rintro e w1 ⟨rfl, hb⟩
  have T1 : Hid (GrB w1 w.heap.size _ _ _) := (GrB.new w (.int .i64 0) (.int .i64 0) (.int .i64 0) 136).step hb
  have B1 : Hid (Below w.heap.size w w1) := ((Below.refl _ _).alloc (Nat.le_refl _) _).trans (hb.mono (by simp))
  clear hb
  go_wp2_with fail
  refine (HL _).mono ?_
  rintro e w2 ⟨rfl, hb⟩
  have T2 : Hid (GrB w2 w.heap.size _ _ _) := T1.out.step hb
  have B2 : Hid (Below w.heap.size w w2) := B1.out.trans (hb.mono B1.out.size)
  clear hb T1 B1
  go_wp2_with fail
  refine (U1 _).mono ?_
  rintro e w3 ⟨rfl, hb⟩
  have T3 : Hid (GrB w3 w.heap.size _ _ _) := T2.out.step hb
  have B3 : Hid (Below w.heap.size w w3) := B2.out.trans (hb.mono B2.out.size)
  have s3 : w.heap.size < w3.heap.size := T3.out.lt
  clear hb T2 B2
  go_wp2_with fail
  refine (U2 _).mono ?_
  rintro e w4 ⟨rfl, hb⟩
  have T4 : Hid (GrB w4 w.heap.size _ _ _) := (T3.out.al _).step hb
  have X4 : Hid (FlB w4 w3.heap.size _ _ _ _) := (FlB.new w3 _ _ _ _ _).step hb
  have B4 : Hid (Below w.heap.size w w4) := (B3.out.alloc B3.out.size _).trans (hb.mono (by have := B3.out.size; simp; omega))
  clear hb T3 B3
  have T5 : Hid (GrB (w4.alloc (.cells #[.bool false, .int .i64 2, .int .u64 1, .int .i64 (-1074)] 90)) w.heap.size _ _ _) := T4.out.al _
  have X5 : Hid (FlB (w4.alloc (.cells #[.bool false, .int .i64 2, .int .u64 1, .int .i64 (-1074)] 90)) w3.heap.size _ _ _ _) := X4.out.al _
  have Y5 : Hid (FlB (w4.alloc (.cells #[.bool false, .int .i64 2, .int .u64 1, .int .i64 (-1074)] 90)) w4.heap.size _ _ _ _) := FlB.new w4 _ _ _ _ _
  have B5 : Hid (Below w.heap.size w (w4.alloc (.cells #[.bool false, .int .i64 2, .int .u64 1, .int .i64 (-1074)] 90))) := B4.out.alloc B4.out.size _
  have s5 : Hid (w.heap.size < w3.heap.size ∧ w.heap.size < w4.heap.size) := ⟨s3, Nat.lt_of_lt_of_le T4.out.lt (Nat.le_refl _)⟩
  clear T4 X4 B4
  go_upto_region 7 with fail
  generalize w4.alloc (.cells #[.bool false, .int .i64 2, .int .u64 1, .int .i64 (-1074)] 90) = v at *
  obtain ⟨s6, s7⟩ := s5.out
  have n3 : w3.heap.size ≠ w.heap.size := by omega
  have n4 : w4.heap.size ≠ w.heap.size := by omega
  obtain ⟨_, t0, t1, t2, g0, g1, g2⟩ := T5.out
  obtain ⟨_, _, _, x2, _, _, _, _, _⟩ := X5.out
  obtain ⟨_, _, _, _, y3, _, _, _, _⟩ := Y5.out
  go_region_held3 (fun w' => w'.cell? ⟨w3.heap.size, 2, none⟩ = some (.int .u64 9007199254740991) ∧ w'.cell? ⟨w4.heap.size, 3, none⟩ = some (.int .i64 (-1074)) ∧ w'.frozen? ⟨w.heap.size, 0, none⟩ = false ∧ w'.frozen? ⟨w.heap.size, 1, none⟩ = false ∧ w'.frozen? ⟨w.heap.size, 2, none⟩ = false) (simp [*, go_sem])
    (first
      | (go_at_call 127; refine (HN _).mono ?_; rintro x1 w2 ⟨rfl, hh⟩; subst hh))
  go_wp2
  exact bodyPost_ret (v := .tuple #[.agg #[.int .i64 64, .int .i64 53, .int .i64 (-1074)], .nilIface]) (by simp [results, Tryz.results91, go_sem, World.cell?_setCell_same, World.cell?_setCell_other, *]) rfl ⟨rfl, ((B5.out.drew.setCell (Nat.le_refl _) _).setCell (Nat.le_refl _) _).setCell (Nat.le_refl _) _⟩
theorem bound_yes {e : Int} (h0 : -1099511627776 ≤ e) (h1 : e ≤ 1099511627776) (w : World) : Calls Tryz.prog 105 #[.int .i64 e] w fun x w' => x = .returned .nilIface ∧ w' = w := by
  have p1 : ¬ e < -1099511627776 := by omega
  have p2 : ¬ 1099511627776 < e := by omega
  clear h0 h1
  go_enter Tryz.func105, Tryz.ntmps105
  go_wp2
  go_ret
  exact ⟨rfl, rfl⟩
theorem gridOf_z {s : Int} {g n f T : Nat} {L : Int} (h : Fz s g n f T L) (w : World) : Calls Tryz.prog 91 #[.int .i64 s] w fun e w' => e = .returned (.tuple #[.agg #[.int .i64 s, .int .i64 ((f : Int) + 1), .int .i64 L], .nilIface]) ∧ Below w.heap.size w w' := by
  rcases h with ⟨rfl, rfl, rfl, rfl, rfl, rfl⟩ | ⟨rfl, rfl, rfl, rfl, rfl, rfl⟩
  · exact gridOf_32 w
  · exact gridOf_64 w
set_option maxRecDepth 100000 in
set_option maxHeartbeats 1000000 in
theorem drop_none {m : Nat} (more : Bool) (w : World) : Calls Tryz.prog 141 #[.int .u64 (m : Int), .int .i64 0, .bool more] w fun e w' => e = .returned (.int .u64 (m : Int)) ∧ w' = w := by
  go_enter Tryz.func141, Tryz.ntmps141
  go_wp2
  go_ret
  exact ⟨rfl, rfl⟩
set_option maxRecDepth 100000 in
set_option maxHeartbeats 1000000 in
theorem drop_far {m D : Nat} (hm : m < 18446744073709551616) (hD : 64 < D) (hD2 : D < 9223372036854775808) (more : Bool) (w : World) : Calls Tryz.prog 141 #[.int .u64 (m : Int), .int .i64 (D : Int), .bool more] w fun e w' => e = .returned (.int .u64 0) ∧ w' = w := by
  have p1 : ((D : Int) == 0) = false := by simp; omega
  have p2 : (64 : Int) < (D : Int) := by omega
  have p3 : ¬ (D : Int) < 0 := by omega
  go_enter Tryz.func141, Tryz.ntmps141
  go_wp2
  have e : (m : Int) / 2 ^ min D 64 = 0 := by
    rw [show min D 64 = 64 from by omega]
    omega
  rw [e]
  go_ret
  exact ⟨rfl, rfl⟩
set_option maxRecDepth 100000 in
set_option maxHeartbeats 1000000 in
theorem drop_some {m D : Nat} (hm : m < 18446744073709551616) (hD : D ≤ 64) (hD0 : D ≠ 0) (more : Bool) (w : World) : Calls Tryz.prog 141 #[.int .u64 (m : Int), .int .i64 (D : Int), .bool more] w fun e w' => e = .returned (.int .u64 ((dpK m D more : Nat) : Int)) ∧ Below w.heap.size w w' := by
  have p1 : ((D : Int) == 0) = false := by simp; omega
  have p2 : ¬ (64 : Int) < (D : Int) := by omega
  have p3 : ¬ (D : Int) < 0 := by omega
  have p4 : ¬ (D : Int) - 1 < 0 := by omega
  obtain ⟨Z, hZ⟩ : ∃ Z, Z = dpK m D more := ⟨_, rfl⟩
  rw [← hZ]
  have HZ : Hid (Z = dpK m D more) := hZ
  clear hZ
  go_enter Tryz.func141, Tryz.ntmps141
  go_wp2
  go_quiet (fail)
  have hu : dpU m D more = decide (2 ^ (D - 1) < m % 2 ^ D ∨ (m % 2 ^ D = 2 ^ (D - 1) ∧ (more = true ∨ m / 2 ^ D % 2 = 1))) := by
    unfold dpU
    simp [hD, hD0]
  have hp : 2 ^ (D - 1) < 18446744073709551616 := Nat.lt_of_le_of_lt (Nat.pow_le_pow_right (by omega) (show D - 1 ≤ 63 by omega)) (by decide)
  have e1 : (m : Int) / 2 ^ D = ((m / 2 ^ D : Nat) : Int) := by push_cast; rfl
  have e2 : (2 : Int) ^ (D - 1) = ((2 ^ (D - 1) : Nat) : Int) := by push_cast; rfl
  have e3 : ((m / 2 ^ D : Nat) : Int) * 2 ^ D = ((m / 2 ^ D * 2 ^ D : Nat) : Int) := by push_cast; rfl
  have e4 : m / 2 ^ D * 2 ^ D + m % 2 ^ D = m := by rw [Nat.mul_comm]; exact Nat.div_add_mod m (2 ^ D)
  have hk : m / 2 ^ D < 9223372036854775808 := by
    rw [Nat.div_lt_iff_lt_mul (Nat.two_pow_pos D), show D = D - 1 + 1 from by omega, Nat.pow_succ]
    have := Nat.two_pow_pos (D - 1)
    generalize 2 ^ (D - 1) = z at *
    omega
  have hZ := HZ.out
  clear HZ
  unfold dpK at hZ
  rw [e1, e2, e3]
  generalize m / 2 ^ D * 2 ^ D = P at *
  have w1 : IntKind.u64.wrap (P : Int) = (P : Int) := IntWalk.u64_in _ ⟨by omega, by omega⟩
  have w2 : IntKind.u64.wrap ((m : Int) - (P : Int)) = ((m % 2 ^ D : Nat) : Int) := by
    rw [show (m : Int) - (P : Int) = ((m % 2 ^ D : Nat) : Int) from by omega]
    exact IntWalk.u64_in _ ⟨by omega, by omega⟩
  have w3 : IntKind.u64.wrap ((2 ^ (D - 1) : Nat) : Int) = ((2 ^ (D - 1) : Nat) : Int) := by
    generalize 2 ^ (D - 1) = z at *
    exact IntWalk.u64_in _ ⟨by omega, by omega⟩
  rw [w1, w2, w3]
  clear w1 w2 w3 e1 e2 e3 e4 p1 p2 p3 p4 hD hD0
  generalize m % 2 ^ D = R at *
  generalize m / 2 ^ D = k at *
  generalize 2 ^ (D - 1) = H at *
  generalize dpU m D more = U at *
  subst hu
  have q : k % 2 = 0 ∨ k % 2 = 1 := by omega
  have fin : Below w.heap.size w (w.drewN nq) := below_drewN (Below.refl _ _) nq
  cases more
  · simp only [Bool.false_eq_true, false_or, decide_eq_true_eq] at hZ
    go_wp2
    all_goals go_ret
    all_goals simp only [beq_iff_eq, beq_eq_false_iff_ne, ne_eq] at *
    all_goals first
      | (refine ⟨congrArg (fun z : Int => Ending.returned (.int .u64 z)) (show (k : Int) + 1 = (Z : Int) from ?_), fin⟩; split at hZ <;> omega)
      | (refine ⟨congrArg (fun z : Int => Ending.returned (.int .u64 z)) (show (k : Int) = (Z : Int) from ?_), fin⟩; split at hZ <;> omega)
  · simp only [true_or, and_true, decide_eq_true_eq] at hZ
    go_wp2
    all_goals go_ret
    all_goals first
      | (refine ⟨congrArg (fun z : Int => Ending.returned (.int .u64 z)) (show (k : Int) + 1 = (Z : Int) from ?_), fin⟩; split at hZ <;> omega)
      | (refine ⟨congrArg (fun z : Int => Ending.returned (.int .u64 z)) (show (k : Int) = (Z : Int) from ?_), fin⟩; split at hZ <;> omega)
theorem dropped_any {m D : Nat} (hm : m < 18446744073709551616) (hD : D < 9223372036854775808) (more : Bool) (w : World) : Calls Tryz.prog 141 #[.int .u64 (m : Int), .int .i64 (D : Int), .bool more] w fun e w' => e = .returned (.int .u64 ((dpK m D more : Nat) : Int)) ∧ Below w.heap.size w w' := by
  by_cases h0 : D = 0
  · subst h0
    have e : dpK m 0 more = m := by unfold dpK dpU; simp
    rw [e]
    exact (drop_none more w).mono fun e w' q => ⟨q.1, by rw [q.2]; exact Below.refl _ _⟩
  by_cases h1 : D ≤ 64
  · exact drop_some hm h1 h0 more w
  · have e : dpK m D more = 0 := by
      unfold dpK dpU
      rw [if_neg (by simp [h1]), Nat.add_zero]
      exact Nat.div_eq_of_lt (Nat.lt_of_lt_of_le hm (Nat.le_trans (by decide : 18446744073709551616 ≤ 2 ^ 64) (Nat.pow_le_pow_right (by omega) (by omega))))
    rw [e]
    exact (drop_far hm (by omega) hD more w).mono fun e w' q => ⟨q.1, by rw [q.2]; exact Below.refl _ _⟩
/-- Bits and an error, by the answer. -/
def anV (g : Nat) (c : Bool) (p : Nat × Bool) : Value := .tuple #[.int .u64 ((sgd g c p.1 : Nat) : Int), if p.2 then .iface 74 (.int .i64 4) else .nilIface]
theorem zero_z {s : Int} {g n f T : Nat} {L : Int} (h : Fz s g n f T L) (c : Bool) (w : World) : Calls Tryz.prog 142 #[.bool c, .int .i64 s] w fun e w' => e = .returned (.tuple #[.int .u64 ((sgd g c 0 : Nat) : Int), .nilIface]) ∧ Below w.heap.size w w' := by
  rcases h with ⟨rfl, rfl, rfl, rfl, rfl, rfl⟩ | ⟨rfl, rfl, rfl, rfl, rfl, rfl⟩
  · exact bzero_32 c w
  · exact bzero_64 c w
theorem inf_z {s : Int} {g n f T : Nat} {L : Int} (h : Fz s g n f T L) (c : Bool) (w : World) : Calls Tryz.prog 76 #[.bool c, .int .i64 s] w fun e w' => e = .returned (.tuple #[.int .u64 ((sgd g c (T * 2 ^ f) : Nat) : Int), .nilIface]) ∧ Below w.heap.size w w' := by
  rcases h with ⟨rfl, rfl, rfl, rfl, rfl, rfl⟩ | ⟨rfl, rfl, rfl, rfl, rfl, rfl⟩
  · exact binf_32 c w
  · exact binf_64 c w
theorem pack_z {s : Int} {g n f T : Nat} {L : Int} (h : Fz s g n f T L) (c : Bool) {m : Nat} {p : Int} (hm : m < 18446744073709551616) (m0 : m ≠ 0) (hp0 : -9223372036854775808 ≤ p) (w : World) (hT : Tab w) : Calls Tryz.prog 143 #[.agg #[.bool c, .int .i64 2, .int .u64 (m : Int), .int .i64 p], .int .i64 s] w fun e w' => e = .returned (match pk f (T : Int) L m p with | some b => .tuple #[.int .u64 ((sgd g c b : Nat) : Int), .nilIface] | none => .tuple #[.int .u64 0, .iface 74 (.int .i64 4)]) ∧ Below w.heap.size w w' := by
  rcases h with ⟨rfl, rfl, rfl, rfl, rfl, rfl⟩ | ⟨rfl, rfl, rfl, rfl, rfl, rfl⟩
  · rw [show (((255 : Nat) : Int)) = 255 from rfl]
    cases h : pk 23 255 (-149) m p with
    | none => exact pk_of_32 w hT fun W hW => pack_none_32 c hm m0 hp0 h W hW
    | some b => exact pk_of_32 w hT fun W hW => pack_some_32 c hm m0 hp0 h W hW
  · rw [show (((2047 : Nat) : Int)) = 2047 from rfl]
    cases h : pk 52 2047 (-1074) m p with
    | none => exact pk_of_64 w hT fun W hW => pack_none_64 c hm m0 hp0 h W hW
    | some b => exact pk_of_64 w hT fun W hW => pack_some_64 c hm m0 hp0 h W hW
theorem dpK_lt {m D : Nat} {more : Bool} (hm : m < 18446744073709551616) : dpK m D more < 18446744073709551616 := by
  unfold dpK
  by_cases h : D = 0
  · subst h
    unfold dpU
    simpa using hm
  · have a : m / 2 ^ D ≤ m / 2 := Nat.div_le_div_left (by rw [show D = D - 1 + 1 from by omega, Nat.pow_succ]; have := Nat.two_pow_pos (D - 1); omega) (by omega)
    split <;> omega
set_option maxRecDepth 100000 in
set_option maxHeartbeats 1000000 in
theorem near_zero {s : Int} {g n f T : Nat} {L : Int} (hz : Fz s g n f T L) {m : Nat} {e : Int} (c : Bool) (more : Bool) (hm : m < 18446744073709551616) (h0 : -4398046511104 ≤ e) (h1 : e ≤ 4398046511104) (k0 : dpK m (dpD f L m e).toNat more = 0) (w : World) : Calls Tryz.prog 107 #[.agg #[.int .i64 s, .int .i64 ((f : Int) + 1), .int .i64 L], .bool c, .int .u64 (m : Int), .int .i64 e, .bool more] w fun e w' => e = .returned (.tuple #[.int .u64 ((sgd g c 0 : Nat) : Int), .nilIface]) ∧ Below w.heap.size w w' := by
  have HL := fun W => len64_any (m : Int) ⟨by omega, by omega⟩ W
  rw [show blen (m : Int) = (ln m : Int) from blen_ln m hm] at HL
  have hf : f ≤ 52 := by rcases hz with ⟨_, _, _, h, _⟩ | ⟨_, _, _, h, _⟩ <;> omega
  have hL : -1074 ≤ L ∧ L ≤ 0 := by rcases hz with ⟨_, _, _, _, _, h⟩ | ⟨_, _, _, _, _, h⟩ <;> omega
  have hl : ln m ≤ 64 := (ln_iff m 64).2 (by omega)
  obtain ⟨D, hD⟩ : ∃ D : Nat, (dpD f L m e).toNat = D := ⟨_, rfl⟩
  have hD' : dpD f L m e = (D : Int) := by rw [← hD]; unfold dpD; omega
  have hD2 : D < 9223372036854775808 := by rw [← hD]; unfold dpD; omega
  have HD := fun W => dropped_any hm hD2 more W
  have E : (if (if 0 < IntKind.i64.wrap ((ln m : Int) - ((f : Int) + 1)) then IntKind.i64.wrap ((ln m : Int) - ((f : Int) + 1)) else 0) < IntKind.i64.wrap (L - e) then IntKind.i64.wrap (L - e) else if 0 < IntKind.i64.wrap ((ln m : Int) - ((f : Int) + 1)) then IntKind.i64.wrap ((ln m : Int) - ((f : Int) + 1)) else 0) = (D : Int) := by
    rw [IntWalk.i64_in ((ln m : Int) - ((f : Int) + 1)) ⟨by omega, by omega⟩, IntWalk.i64_in (L - e) ⟨by omega, by omega⟩, ← hD']
    unfold dpD
    split <;> split <;> omega
  have HZ := fun W => zero_z hz c W
  rw [hD] at k0
  generalize sgd g c 0 = y at *
  rw [k0] at HD
  rw [show ((0 : Nat) : Int) = 0 from rfl] at HD
  have HE : Hid _ := E
  clear E hD hD' hD2 hL hl hf hz k0
  generalize ln m = l at *
  go_enter Tryz.func107, Tryz.ntmps107
  go_upto_region 1 with fail
  go_region_held3 (fun w' => w'.cell? ⟨w.heap.size, 0, none⟩ = some (.int .i64 s) ∧ w'.cell? ⟨w.heap.size, 1, none⟩ = some (.int .i64 ((f : Int) + 1)) ∧ w'.cell? ⟨w.heap.size, 2, none⟩ = some (.int .i64 L)) (simp [*, go_sem])
    (first
      | (go_at_call 127; refine (HL _).mono ?_; rintro x1 w2 ⟨rfl, hh⟩; subst hh))
  rw [HE.out]
  clear HE
  have B0 : Hid (Below w.heap.size w (w.alloc (.cells #[.int .i64 s, .int .i64 ((f : Int) + 1), .int .i64 L] 136)).drew) := ((Below.refl _ _).alloc (Nat.le_refl _) _).drew
  have G0 : Hid (GrB (w.alloc (.cells #[.int .i64 s, .int .i64 ((f : Int) + 1), .int .i64 L] 136)).drew w.heap.size _ _ _) := (GrB.new w _ _ _ _).step (Below.refl _ _).drew
  generalize (w.alloc (.cells #[.int .i64 s, .int .i64 ((f : Int) + 1), .int .i64 L] 136)).drew = v at *
  go_wp2_with fail
  refine (HD _).mono ?_
  rintro e w1 ⟨rfl, hb⟩
  have B1 : Hid (Below w.heap.size w w1) := B0.out.trans (hb.mono B0.out.size)
  have G1 : Hid (GrB w1 w.heap.size _ _ _) := G0.out.step hb
  clear hb B0 G0
  obtain ⟨_, a0, a1, a2, _, _, _⟩ := G1.out
  go_wp2_with fail
  refine (HZ _).mono ?_
  rintro e w2 ⟨rfl, hb⟩
  have B2 : Hid (Below w.heap.size w w2) := B1.out.trans (hb.mono B1.out.size)
  clear hb B1 G1
  go_wp2
  go_ret2
  exact ⟨rfl, B2.out⟩
set_option maxRecDepth 100000 in
set_option maxHeartbeats 1000000 in
theorem near_some {s : Int} {g n f T : Nat} {L : Int} (hz : Fz s g n f T L) {m : Nat} {e : Int} (c : Bool) (more : Bool) (hm : m < 18446744073709551616) (h0 : -4398046511104 ≤ e) (h1 : e ≤ 4398046511104) {b : Nat} (k0 : dpK m (dpD f L m e).toNat more ≠ 0) (hp : pk f (T : Int) L (dpK m (dpD f L m e).toNat more) (e + dpD f L m e) = some b) (w : World) (hT : Tab w) : Calls Tryz.prog 107 #[.agg #[.int .i64 s, .int .i64 ((f : Int) + 1), .int .i64 L], .bool c, .int .u64 (m : Int), .int .i64 e, .bool more] w fun e w' => e = .returned (.tuple #[.int .u64 ((sgd g c b : Nat) : Int), .nilIface]) ∧ Below w.heap.size w w' := by
  have HL := fun W => len64_any (m : Int) ⟨by omega, by omega⟩ W
  rw [show blen (m : Int) = (ln m : Int) from blen_ln m hm] at HL
  have hf : f ≤ 52 := by rcases hz with ⟨_, _, _, h, _⟩ | ⟨_, _, _, h, _⟩ <;> omega
  have hL : -1074 ≤ L ∧ L ≤ 0 := by rcases hz with ⟨_, _, _, _, _, h⟩ | ⟨_, _, _, _, _, h⟩ <;> omega
  have hl : ln m ≤ 64 := (ln_iff m 64).2 (by omega)
  obtain ⟨D, hD⟩ : ∃ D : Nat, (dpD f L m e).toNat = D := ⟨_, rfl⟩
  have hD' : dpD f L m e = (D : Int) := by rw [← hD]; unfold dpD; omega
  have hD2 : D < 9223372036854775808 := by rw [← hD]; unfold dpD; omega
  have HD := fun W => dropped_any hm hD2 more W
  have E : (if (if 0 < IntKind.i64.wrap ((ln m : Int) - ((f : Int) + 1)) then IntKind.i64.wrap ((ln m : Int) - ((f : Int) + 1)) else 0) < IntKind.i64.wrap (L - e) then IntKind.i64.wrap (L - e) else if 0 < IntKind.i64.wrap ((ln m : Int) - ((f : Int) + 1)) then IntKind.i64.wrap ((ln m : Int) - ((f : Int) + 1)) else 0) = (D : Int) := by
    rw [IntWalk.i64_in ((ln m : Int) - ((f : Int) + 1)) ⟨by omega, by omega⟩, IntWalk.i64_in (L - e) ⟨by omega, by omega⟩, ← hD']
    unfold dpD
    split <;> split <;> omega
  rw [hD] at k0
  rw [hD, hD'] at hp
  have kl : dpK m D more < 18446744073709551616 := dpK_lt hm
  have HP : ∀ W, Tab W → Calls Tryz.prog 143 #[.agg #[.bool c, .int .i64 2, .int .u64 ((dpK m D more : Nat) : Int), .int .i64 (e + (D : Int))], .int .i64 s] W fun e w' => e = .returned (.tuple #[.int .u64 ((sgd g c b : Nat) : Int), .nilIface]) ∧ Below W.heap.size W w' := fun W hW => by
    have h := pack_z (p := e + (D : Int)) hz c kl k0 (by omega) W hW
    rw [hp] at h
    exact h
  have q0 : (((dpK m D more : Nat) : Int) == 0) = false := by simp; omega
  have ei : -9223372036854775808 ≤ e + (D : Int) ∧ e + (D : Int) < 9223372036854775808 := by rw [← hD']; unfold dpD; omega
  obtain ⟨ei1, ei2⟩ := ei
  have HT : Hid (Tab w) := hT
  generalize sgd g c b = y at *
  have HE : Hid _ := E
  clear E hD hD' hD2 hL hl hf hz kl k0 hp hT
  generalize ln m = l at *
  generalize dpK m D more = k at *
  go_enter Tryz.func107, Tryz.ntmps107
  go_upto_region 1 with fail
  go_region_held3 (fun w' => w'.cell? ⟨w.heap.size, 0, none⟩ = some (.int .i64 s) ∧ w'.cell? ⟨w.heap.size, 1, none⟩ = some (.int .i64 ((f : Int) + 1)) ∧ w'.cell? ⟨w.heap.size, 2, none⟩ = some (.int .i64 L)) (simp [*, go_sem])
    (first
      | (go_at_call 127; refine (HL _).mono ?_; rintro x1 w2 ⟨rfl, hh⟩; subst hh))
  rw [HE.out]
  clear HE
  have B0 : Hid (Below w.heap.size w (w.alloc (.cells #[.int .i64 s, .int .i64 ((f : Int) + 1), .int .i64 L] 136)).drew) := ((Below.refl _ _).alloc (Nat.le_refl _) _).drew
  have G0 : Hid (GrB (w.alloc (.cells #[.int .i64 s, .int .i64 ((f : Int) + 1), .int .i64 L] 136)).drew w.heap.size _ _ _) := (GrB.new w _ _ _ _).step (Below.refl _ _).drew
  generalize (w.alloc (.cells #[.int .i64 s, .int .i64 ((f : Int) + 1), .int .i64 L] 136)).drew = v at *
  go_wp2_with fail
  refine (HD _).mono ?_
  rintro e w1 ⟨rfl, hb⟩
  have B1 : Hid (Below w.heap.size w w1) := B0.out.trans (hb.mono B0.out.size)
  have G1 : Hid (GrB w1 w.heap.size _ _ _) := G0.out.step hb
  clear hb B0 G0
  obtain ⟨_, a0, a1, a2, _, _, _⟩ := G1.out
  go_wp2_with fail
  refine (HP _ (HT.out.below B1.out HT.out.pos)).mono ?_
  rintro e w2 ⟨rfl, hb⟩
  have B2 : Hid (Below w.heap.size w w2) := B1.out.trans (hb.mono B1.out.size)
  clear hb B1 G1
  go_wp2
  go_ret2
  exact ⟨rfl, B2.out⟩
set_option maxRecDepth 100000 in
set_option maxHeartbeats 1000000 in
theorem near_none {s : Int} {g n f T : Nat} {L : Int} (hz : Fz s g n f T L) {m : Nat} {e : Int} (c : Bool) (more : Bool) (hm : m < 18446744073709551616) (h0 : -4398046511104 ≤ e) (h1 : e ≤ 4398046511104) (k0 : dpK m (dpD f L m e).toNat more ≠ 0) (hp : pk f (T : Int) L (dpK m (dpD f L m e).toNat more) (e + dpD f L m e) = none) (w : World) (hT : Tab w) : Calls Tryz.prog 107 #[.agg #[.int .i64 s, .int .i64 ((f : Int) + 1), .int .i64 L], .bool c, .int .u64 (m : Int), .int .i64 e, .bool more] w fun e w' => e = .returned (.tuple #[.int .u64 ((sgd g c (T * 2 ^ f) : Nat) : Int), .iface 74 (.int .i64 4)]) ∧ Below w.heap.size w w' := by
  have HL := fun W => len64_any (m : Int) ⟨by omega, by omega⟩ W
  rw [show blen (m : Int) = (ln m : Int) from blen_ln m hm] at HL
  have hf : f ≤ 52 := by rcases hz with ⟨_, _, _, h, _⟩ | ⟨_, _, _, h, _⟩ <;> omega
  have hL : -1074 ≤ L ∧ L ≤ 0 := by rcases hz with ⟨_, _, _, _, _, h⟩ | ⟨_, _, _, _, _, h⟩ <;> omega
  have hl : ln m ≤ 64 := (ln_iff m 64).2 (by omega)
  obtain ⟨D, hD⟩ : ∃ D : Nat, (dpD f L m e).toNat = D := ⟨_, rfl⟩
  have hD' : dpD f L m e = (D : Int) := by rw [← hD]; unfold dpD; omega
  have hD2 : D < 9223372036854775808 := by rw [← hD]; unfold dpD; omega
  have HD := fun W => dropped_any hm hD2 more W
  have E : (if (if 0 < IntKind.i64.wrap ((ln m : Int) - ((f : Int) + 1)) then IntKind.i64.wrap ((ln m : Int) - ((f : Int) + 1)) else 0) < IntKind.i64.wrap (L - e) then IntKind.i64.wrap (L - e) else if 0 < IntKind.i64.wrap ((ln m : Int) - ((f : Int) + 1)) then IntKind.i64.wrap ((ln m : Int) - ((f : Int) + 1)) else 0) = (D : Int) := by
    rw [IntWalk.i64_in ((ln m : Int) - ((f : Int) + 1)) ⟨by omega, by omega⟩, IntWalk.i64_in (L - e) ⟨by omega, by omega⟩, ← hD']
    unfold dpD
    split <;> split <;> omega
  rw [hD] at k0
  rw [hD, hD'] at hp
  have kl : dpK m D more < 18446744073709551616 := dpK_lt hm
  have HP : ∀ W, Tab W → Calls Tryz.prog 143 #[.agg #[.bool c, .int .i64 2, .int .u64 ((dpK m D more : Nat) : Int), .int .i64 (e + (D : Int))], .int .i64 s] W fun e w' => e = .returned (.tuple #[.int .u64 0, .iface 74 (.int .i64 4)]) ∧ Below W.heap.size W w' := fun W hW => by
    have h := pack_z (p := e + (D : Int)) hz c kl k0 (by omega) W hW
    rw [hp] at h
    exact h
  have HI := fun W => inf_z hz c W
  have q0 : (((dpK m D more : Nat) : Int) == 0) = false := by simp; omega
  have ei : -9223372036854775808 ≤ e + (D : Int) ∧ e + (D : Int) < 9223372036854775808 := by rw [← hD']; unfold dpD; omega
  obtain ⟨ei1, ei2⟩ := ei
  have HT : Hid (Tab w) := hT
  generalize sgd g c (T * 2 ^ f) = y at *
  have HE : Hid _ := E
  clear E hD hD' hD2 hL hl hf hz kl k0 hp hT
  generalize ln m = l at *
  generalize dpK m D more = k at *
  go_enter Tryz.func107, Tryz.ntmps107
  go_upto_region 1 with fail
  go_region_held3 (fun w' => w'.cell? ⟨w.heap.size, 0, none⟩ = some (.int .i64 s) ∧ w'.cell? ⟨w.heap.size, 1, none⟩ = some (.int .i64 ((f : Int) + 1)) ∧ w'.cell? ⟨w.heap.size, 2, none⟩ = some (.int .i64 L)) (simp [*, go_sem])
    (first
      | (go_at_call 127; refine (HL _).mono ?_; rintro x1 w2 ⟨rfl, hh⟩; subst hh))
  rw [HE.out]
  clear HE
  have B0 : Hid (Below w.heap.size w (w.alloc (.cells #[.int .i64 s, .int .i64 ((f : Int) + 1), .int .i64 L] 136)).drew) := ((Below.refl _ _).alloc (Nat.le_refl _) _).drew
  have G0 : Hid (GrB (w.alloc (.cells #[.int .i64 s, .int .i64 ((f : Int) + 1), .int .i64 L] 136)).drew w.heap.size _ _ _) := (GrB.new w _ _ _ _).step (Below.refl _ _).drew
  generalize (w.alloc (.cells #[.int .i64 s, .int .i64 ((f : Int) + 1), .int .i64 L] 136)).drew = v at *
  go_wp2_with fail
  refine (HD _).mono ?_
  rintro e w1 ⟨rfl, hb⟩
  have B1 : Hid (Below w.heap.size w w1) := B0.out.trans (hb.mono B0.out.size)
  have G1 : Hid (GrB w1 w.heap.size _ _ _) := G0.out.step hb
  clear hb B0 G0
  obtain ⟨_, a0, a1, a2, _, _, _⟩ := G1.out
  go_wp2_with fail
  refine (HP _ (HT.out.below B1.out HT.out.pos)).mono ?_
  rintro e w2 ⟨rfl, hb⟩
  have B2 : Hid (Below w.heap.size w w2) := B1.out.trans (hb.mono B1.out.size)
  have G2 : Hid (GrB w2 w.heap.size _ _ _) := G1.out.step hb
  clear hb B1 G1 a0 a1 a2
  obtain ⟨_, a0, a1, a2, _, _, _⟩ := G2.out
  go_wp2_with fail
  refine (HI _).mono ?_
  rintro e w3 ⟨rfl, hb⟩
  have B3 : Hid (Below w.heap.size w w3) := B2.out.trans (hb.mono B2.out.size)
  clear hb B2 G2
  go_wp2
  go_ret2
  exact ⟨rfl, B3.out⟩
theorem pnear_any {s : Int} {g n f T : Nat} {L : Int} (hz : Fz s g n f T L) {m : Nat} {e : Int} (c : Bool) (more : Bool) (hm : m < 18446744073709551616) (h0 : -4398046511104 ≤ e) (h1 : e ≤ 4398046511104) (w : World) (hT : Tab w) : Calls Tryz.prog 107 #[.agg #[.int .i64 s, .int .i64 ((f : Int) + 1), .int .i64 L], .bool c, .int .u64 (m : Int), .int .i64 e, .bool more] w fun x w' => x = .returned (anV g c (ndA f T L m e more)) ∧ Below w.heap.size w w' := by
  unfold ndA
  by_cases k0 : dpK m (dpD f L m e).toNat more = 0
  · rw [if_pos k0]
    exact near_zero hz c more hm h0 h1 k0 w
  · rw [if_neg k0]
    cases hp : pk f (T : Int) L (dpK m (dpD f L m e).toNat more) (e + dpD f L m e) with
    | none => exact near_none hz c more hm h0 h1 k0 hp w hT
    | some b => exact near_some hz c more hm h0 h1 k0 hp w hT
theorem nat_lt {w : World} {v : Value} {X : Nat} (h : NatV w v X) : X < B ^ 128 := by
  obtain ⟨ao, n, c, b, o, f, rfl, S, t, rfl, hn⟩ := h
  exact Nat.lt_of_lt_of_le (V_lt S.ws n) (Nat.pow_le_pow_right B_pos hn)
theorem bl_fit {X K : Nat} (h : X < B ^ K) : bl X ≤ 64 * K := by
  rw [twoB_pow] at h
  exact bl_mono_le h
theorem nat_bl {w : World} {v : Value} {X : Nat} (h : NatV w v X) : bl X ≤ 8192 := by
  have a := bl_fit (nat_lt h)
  omega
theorem or_one {q : Nat} (h : 2 * q < 18446744073709551616) : bits .or .u64 ((2 * q : Nat) : Int) 1 = ((2 * q + 1 : Nat) : Int) := by
  have h1 : (BitVec.ofInt 64 ((2 * q : Nat) : Int)).toNat = 2 * q := by rw [BitVec.ofInt_natCast, BitVec.toNat_ofNat]; exact Nat.mod_eq_of_lt (by omega)
  show IntKind.u64.wrap ((BitVec.ofInt 64 ((2 * q : Nat) : Int) ||| BitVec.ofInt 64 (1 : Int)).toNat : Int) = _
  have e := Nat.two_pow_add_eq_or_of_lt (i := 1) (b := 1) (by omega) q
  rw [Nat.pow_one] at e
  rw [BitVec.toNat_or, h1, show (BitVec.ofInt 64 (1 : Int)).toNat = 1 by decide, ← e, IntKind.wrap_u64]
  omega
theorem pow_fit {X s K : Nat} (h : bl X + s ≤ 64 * K) : X * 2 ^ s < B ^ K := by
  rw [twoB_pow]
  refine Nat.lt_of_lt_of_le (Nat.mul_lt_mul_of_pos_right (bl_lt X) (Nat.two_pow_pos s)) ?_
  rw [← Nat.pow_add]
  exact Nat.pow_le_pow_right (by omega) h
theorem nat_slice {w : World} {v : Value} {X : Nat} (h : NatV w v X) : ∃ ao n c, v = .slice ao n c ∧ (n = 0 ↔ X = 0) ∧ n ≤ 128 := by
  obtain ⟨ao, n, c, b, o, f, rfl, S, t, rfl, hn⟩ := h
  refine ⟨ao, n, c, rfl, ⟨fun z => by subst z; rfl, fun z => ?_⟩, hn⟩
  apply Nat.eq_zero_of_not_pos
  intro p
  have a := Top_ge t p
  have := Nat.pow_pos (n := n - 1) B_pos
  omega
theorem bits_nat {w : World} {va : Value} {X : Nat} (h : NatV w va X) : Calls Tryz.prog 137 #[va] w fun e w' => e = .returned (.tuple #[.int .i64 (bl X : Int), .nilIface]) ∧ Below w.heap.size w w' := by
  obtain ⟨ao, n, c, b, o, f, rfl, S, t, rfl, hn⟩ := h
  have T := bitsN_any S
  rw [verr_ok hn t, num2_zero] at T
  exact T
theorem word_natv {w : World} {va : Value} {X : Nat} (h : NatV w va X) (hX : X < 18446744073709551616) : Calls Tryz.prog 139 #[va] w fun e w' => e = .returned (.tuple #[.int .u64 (X : Int), .bool true]) ∧ Below w.heap.size w w' := by
  obtain ⟨ao, n, c, b, o, f, rfl, S, t, rfl, hn⟩ := h
  by_cases n0 : n = 0
  · subst n0
    exact word_none S (verr_ok hn t)
  by_cases n1 : n = 1
  · subst n1
    have T := word_one S (verr_ok hn t)
    rw [show V f 1 = f 0 from by rw [V_succ]; simp [V]]
    exact T
  · exfalso
    have a := Top_ge t (by omega)
    have c := Nat.pow_le_pow_right B_pos (show 1 ≤ n - 1 by omega)
    rw [Nat.pow_one] at c
    unfold B at a c
    omega
set_option maxRecDepth 100000 in
set_option maxHeartbeats 1000000 in
theorem next_low {w : World} {vr vd : Value} {q R Y : Nat} (hr : NatV w vr R) (hd : NatV w vd Y) (hq : q < 9223372036854775808) (h : 2 * R < Y) : Calls Tryz.prog 140 #[.int .u64 (q : Int), vr, vd] w fun e w' => ∃ v, e = .returned (.tuple #[.int .u64 ((2 * q : Nat) : Int), v]) ∧ NatV w' v (2 * R) ∧ Below w.heap.size w w' := by
  have H1 := sub_ok hd hr (by omega)
  have H0 : Hid (NatV w vr R ∧ NatV w vd Y ∧ 2 * R < Y) := ⟨hr, hd, h⟩
  have e1 : (q : Int) * 2 = ((2 * q : Nat) : Int) := by omega
  generalize hQ : 2 * q = Q at *
  have hQ2 : Q < 18446744073709551616 := by omega
  clear hr hd h hQ
  go_enter Tryz.func140, Tryz.ntmps140
  go_wp2_with fail
  refine H1.mono ?_
  rintro e w1 ⟨v1, rfl, n1, b1⟩
  have H2 := sub_below (H0.out.1.below b1) n1 (by have := H0.out.2.2; omega)
  have B1 : Hid (Below w.heap.size w w1) := b1
  clear H1 n1 b1
  go_wp2_with fail
  refine H2.mono ?_
  rintro e w2 ⟨rfl, b2⟩
  have B2 : Hid (Below w.heap.size w w2) := B1.out.trans (b2.mono B1.out.size)
  have H3 := add_ok (H0.out.1.below B2.out) (H0.out.1.below B2.out) (by have := nat_lt H0.out.2.1; have := H0.out.2.2; omega)
  clear H2 b2 B1
  go_wp2_with fail
  refine H3.mono ?_
  rintro e w3 ⟨v3, rfl, n3, b3⟩
  have B3 : Hid (NatV w3 v3 (R + R) ∧ Below w.heap.size w w3) := ⟨n3, B2.out.trans (b3.mono B2.out.size)⟩
  clear H3 n3 b3 B2
  go_wp2
  go_ret2
  exact ⟨v3, rfl, by rw [Nat.two_mul]; exact B3.out.1, B3.out.2⟩
set_option maxRecDepth 100000 in
set_option maxHeartbeats 1000000 in
theorem next_high {w : World} {vr vd : Value} {q R Y : Nat} (hr : NatV w vr R) (hd : NatV w vd Y) (hq : q < 9223372036854775808) (h : Y ≤ 2 * R) (hy : R < Y) : Calls Tryz.prog 140 #[.int .u64 (q : Int), vr, vd] w fun e w' => ∃ v, e = .returned (.tuple #[.int .u64 ((2 * q + 1 : Nat) : Int), v]) ∧ NatV w' v (2 * R - Y) ∧ Below w.heap.size w w' := by
  have H1 := sub_ok hd hr (by omega)
  have H0 : Hid (NatV w vr R ∧ NatV w vd Y ∧ Y ≤ 2 * R ∧ R < Y) := ⟨hr, hd, h, hy⟩
  have e1 : (q : Int) * 2 = ((2 * q : Nat) : Int) := by omega
  have e2 : bits .or .u64 ((2 * q : Nat) : Int) 1 = ((2 * q + 1 : Nat) : Int) := or_one (by omega)
  generalize hQ' : 2 * q + 1 = Q' at *
  generalize hQ : 2 * q = Q at *
  have hQ2 : Q < 18446744073709551616 := by omega
  clear hr hd h hQ hQ' hy
  go_enter Tryz.func140, Tryz.ntmps140
  go_wp2_with fail
  refine H1.mono ?_
  rintro e w1 ⟨v1, rfl, n1, b1⟩
  have H2 := sub_ok (H0.out.1.below b1) n1 (by have := H0.out.2.2; omega)
  have B1 : Hid (Below w.heap.size w w1) := b1
  clear H1 n1 b1
  go_wp2_with fail
  refine H2.mono ?_
  rintro e w2 ⟨v2, rfl, n2, b2⟩
  have B2 : Hid (NatV w2 v2 (R - (Y - R)) ∧ Below w.heap.size w w2) := ⟨n2, B1.out.trans (b2.mono B1.out.size)⟩
  clear H2 b2 n2 B1
  go_wp2
  go_ret2
  exact ⟨v2, rfl, by have := H0.out.2.2; rw [show 2 * R - Y = R - (Y - R) from by omega]; exact B2.out.1, B2.out.2⟩
theorem qt_top {X Y a b : Nat} (y0 : Y ≠ 0) (h : (a : Int) - (b : Int) = 63 + (bl Y : Int) - (bl X : Int)) : X * 2 ^ a < 2 ^ 64 * (Y * 2 ^ b) := by
  have p := bl_pos y0
  have l := bl_le y0
  refine Nat.lt_of_lt_of_le (Nat.mul_lt_mul_of_pos_right (bl_lt X) (Nat.two_pow_pos a)) ?_
  refine Nat.le_trans ?_ (Nat.mul_le_mul_left _ (Nat.mul_le_mul_right _ l))
  rw [← Nat.pow_add, ← Nat.pow_add, ← Nat.pow_add]
  exact Nat.pow_le_pow_right (by omega) (by omega)
theorem Qt.lt {X Y q r a b : Nat} (y0 : Y ≠ 0) (h : Qt X Y q r a b) : q < 2 ^ 64 := by
  have t := qt_top y0 h.2.2
  rw [← h.2.1] at t
  exact Nat.lt_of_mul_lt_mul_right (Nat.lt_of_le_of_lt (Nat.le_add_right _ r) t)
theorem Qt.ge {X Y q r a b : Nat} (x0 : X ≠ 0) (h : Qt X Y q r a b) : 2 ^ 62 ≤ q := by
  obtain ⟨h1, h2, h3⟩ := h
  have p := bl_pos x0
  have l := bl_le x0
  have low : 2 ^ 62 * (Y * 2 ^ b) ≤ X * 2 ^ a := by
    refine Nat.le_trans (Nat.mul_le_mul_left _ (Nat.mul_le_mul_right _ (Nat.le_of_lt (bl_lt Y)))) ?_
    refine Nat.le_trans ?_ (Nat.mul_le_mul_right _ l)
    rw [← Nat.pow_add, ← Nat.pow_add, ← Nat.pow_add]
    exact Nat.pow_le_pow_right (by omega) (by omega)
  rw [← h2] at low
  have k : 2 ^ 62 * (Y * 2 ^ b) < (q + 1) * (Y * 2 ^ b) := by
    rw [Nat.add_mul, Nat.one_mul]
    exact Nat.lt_of_le_of_lt low (Nat.add_lt_add_left h1 _)
  exact Nat.le_of_lt_succ (Nat.lt_of_mul_lt_mul_right k)
theorem Qt.eqv {X Y q r a b : Nat} {e : Int} (h : Qt X Y q r a b) : Eqv (X * (Y * 2 ^ b)) e ((q * (Y * 2 ^ b) + r) * Y) (e - (63 + (bl Y : Int) - (bl X : Int))) := by
  obtain ⟨h1, h2, h3⟩ := h
  rw [h2, ← h3]
  have s1 := Eqv.shl (X * Y) (e + b) b
  have s2 := Eqv.shl (X * Y) (e + b) a
  rw [show e + (b : Int) - b = e from by omega] at s1
  rw [show e + (b : Int) - (a : Int) = e - ((a : Int) - b) from by omega] at s2
  rw [show X * (Y * 2 ^ b) = X * Y * 2 ^ b from by rw [Nat.mul_assoc], show X * 2 ^ a * Y = X * Y * 2 ^ a from Nat.mul_right_comm _ _ _]
  exact s1.symm.trans s2
theorem qt_step {X lw q r i a : Nat} (h : q * lw + r = X * 2 ^ (a + i)) : (2 * q) * lw + 2 * r = X * 2 ^ (a + (i + 1)) := by
  rw [← Nat.add_assoc, Nat.pow_succ, ← Nat.mul_assoc, ← h, Nat.mul_assoc 2, Nat.add_mul]; omega
theorem qt_half {X lw q r i a l : Nat} (t : X * 2 ^ (a + l) < 2 ^ 64 * lw) (h : q * lw + r = X * 2 ^ (a + i)) (hi : i < l) : q < 9223372036854775808 := by
  have e : X * 2 ^ (a + l) = X * 2 ^ (a + i) * 2 ^ (l - i) := by rw [Nat.mul_assoc, ← Nat.pow_add]; congr 2; omega
  rw [e, ← h] at t
  have two : 2 ≤ 2 ^ (l - i) := by
    have := Nat.pow_le_pow_right (n := 2) (by omega) (show 1 ≤ l - i by omega)
    omega
  have t2 := Nat.lt_of_le_of_lt (Nat.mul_le_mul_left (q * lw + r) two) t
  apply Nat.lt_of_not_le
  intro c
  have := Nat.mul_le_mul_right lw c
  omega
set_option maxRecDepth 100000 in
set_option maxHeartbeats 1000000 in
theorem quot_ok {w : World} (hT : Tab w) {vn vd : Value} {X Y : Nat} (hn : NatV w vn X) (hd : NatV w vd Y) (y0 : Y ≠ 0) :
    Calls Tryz.prog 106 #[vn, vd] w fun e w' => ∃ q r a b : Nat, e = .returned (.tuple #[.int .u64 (q : Int), .int .i64 (63 + (bl Y : Int) - (bl X : Int)), .bool (decide (r ≠ 0))]) ∧ Qt X Y q r a b ∧ Below w.heap.size w w' := by
  have H1 := bits_nat hn
  have hN := nat_bl hn
  have hM := nat_bl hd
  have H0 : Hid (NatV w vn X ∧ NatV w vd Y ∧ Tab w ∧ Y ≠ 0) := ⟨hn, hd, hT, y0⟩
  clear hn hd hT y0
  obtain ⟨N, eN⟩ : ∃ N, bl X = N := ⟨_, rfl⟩
  obtain ⟨M, eM⟩ : ∃ M, bl Y = M := ⟨_, rfl⟩
  rw [eN] at H1 hN ⊢
  rw [eM] at hM ⊢
  have HM : Hid (bl X = N ∧ bl Y = M) := ⟨eN, eM⟩
  clear eN eM
  go_enter Tryz.func106, Tryz.ntmps106
  go_wp2_with fail
  refine H1.mono ?_
  rintro e w1 ⟨rfl, b1⟩
  have H2 := bits_nat (H0.out.2.1.below b1)
  rw [HM.out.2] at H2
  have B1 : Hid (Below w.heap.size w w1) := b1
  clear b1 H1
  go_wp2_with fail
  refine H2.mono ?_
  rintro e w2 ⟨rfl, b2⟩
  have B2 : Hid (Below w.heap.size w w2) := B1.out.trans (b2.mono B1.out.size)
  clear b2 H2 B1
  go_upto_region 4 with fail
  go_cut [11] (fun s wx => wx = w2 ∧ ∃ l : Nat, s = .int .i64 (l : Int) ∧ (l : Int) = max 0 (63 + (M : Int) - 8192))
  case first =>
    by_cases c : 8192 < 63 + (M : Int)
    · obtain ⟨l, hl⟩ : ∃ l : Nat, 63 + (M : Int) - 8192 = (l : Int) := ⟨(63 + (M : Int) - 8192).toNat, by omega⟩
      go_wp2
      all_goals first | (exfalso; omega) | skip
      go_meet
      exact ⟨rfl, l, rfl, by omega⟩
    · go_wp2
      all_goals first | (exfalso; omega) | skip
      go_meet
      exact ⟨rfl, 0, rfl, by omega⟩
  case rest =>
  obtain ⟨hcw, l, rfl, hl⟩ := hcut
  subst hcw
  have hl2 : l ≤ 63 := by omega
  have HL : Hid ((l : Int) = max 0 (63 + (M : Int) - 8192)) := hl
  clear hl
  go_upto_region 5 with fail
  go_cut [12, 13] (fun u v wx => v = .nilIface ∧ ∃ a : Nat, NatV wx u (X * 2 ^ a) ∧ Below w.heap.size w wx ∧ (a : Int) = max 0 (63 + (M : Int) - (N : Int) - (l : Int)))
  case first =>
    by_cases c : 0 < 63 + (M : Int) - (N : Int) - (l : Int)
    · obtain ⟨a, ha⟩ : ∃ a : Nat, 63 + (M : Int) - (N : Int) - (l : Int) = (a : Int) := ⟨(63 + (M : Int) - (N : Int) - (l : Int)).toNat, by omega⟩
      have e0 : a ≤ 8192 ∧ bl X + a ≤ 64 * 128 := by have := HM.out; have := HL.out; omega
      have T := shl_ok (H0.out.1.below B2.out) a (pow_fit e0.2) e0.1
      clear e0
      go_wp2_with fail
      all_goals first | (exfalso; omega) | skip
      refine T.mono ?_
      rintro e wa ⟨va, rfl, na, ba⟩
      have N1 : Hid (NatV wa va (X * 2 ^ a) ∧ Below wc.heap.size wc wa) := ⟨na, ba⟩
      clear na ba T
      go_wp2
      go_meet
      exact ⟨rfl, a, N1.out.1, B2.out.trans (N1.out.2.mono B2.out.size), by omega⟩
    · have e0 : bl X + 0 ≤ 64 * 128 := by have := HM.out; have := HL.out; omega
      have T := shl_ok (H0.out.1.below B2.out) 0 (pow_fit e0) (by omega)
      clear e0
      rw [show ((0 : Nat) : Int) = 0 from rfl] at T
      go_wp2_with fail
      all_goals first | (exfalso; omega) | skip
      refine T.mono ?_
      rintro e wa ⟨va, rfl, na, ba⟩
      have N1 : Hid (NatV wa va (X * 2 ^ 0) ∧ Below wc.heap.size wc wa) := ⟨na, ba⟩
      clear na ba T
      go_wp2
      go_meet
      exact ⟨rfl, 0, N1.out.1, B2.out.trans (N1.out.2.mono B2.out.size), by omega⟩
  case rest =>
  obtain ⟨rfl, a, na, ba, ha⟩ := hcut
  have N3 : Hid (NatV wc u12 (X * 2 ^ a) ∧ Below w.heap.size w wc ∧ (a : Int) = max 0 (63 + (M : Int) - (N : Int) - (l : Int))) := ⟨na, ba, ha⟩
  clear na ba ha
  go_upto_region 6 with fail
  go_cut [14, 15] (fun u v wx => v = .nilIface ∧ ∃ b : Nat, NatV wx u (Y * 2 ^ b) ∧ Below w.heap.size w wx ∧ NatV wx u12 (X * 2 ^ a) ∧ (b : Int) = max 0 ((l : Int) - (63 + (M : Int) - (N : Int))))
  case first =>
    by_cases c : 0 < (l : Int) - (63 + (M : Int) - (N : Int))
    · obtain ⟨b, hb⟩ : ∃ b : Nat, (l : Int) - (63 + (M : Int) - (N : Int)) = (b : Int) := ⟨((l : Int) - (63 + (M : Int) - (N : Int))).toNat, by omega⟩
      have e0 : b ≤ 8192 ∧ bl Y + b ≤ 64 * 128 := by have := HM.out; have := HL.out; omega
      have T := shl_ok (H0.out.2.1.below N3.out.2.1) b (pow_fit e0.2) e0.1
      clear e0
      go_wp2_with fail
      all_goals first | (exfalso; omega) | skip
      refine T.mono ?_
      rintro e wa ⟨va, rfl, na, ba⟩
      have N1 : Hid (NatV wa va (Y * 2 ^ b) ∧ Below wc.heap.size wc wa) := ⟨na, ba⟩
      clear na ba T
      go_wp2
      go_meet
      exact ⟨rfl, b, N1.out.1, N3.out.2.1.trans (N1.out.2.mono N3.out.2.1.size), N3.out.1.below N1.out.2, by omega⟩
    · have e0 : bl Y + 0 ≤ 64 * 128 := by have := HM.out; have := HL.out; omega
      have T := shl_ok (H0.out.2.1.below N3.out.2.1) 0 (pow_fit e0) (by omega)
      clear e0
      rw [show ((0 : Nat) : Int) = 0 from rfl] at T
      go_wp2_with fail
      all_goals first | (exfalso; omega) | skip
      refine T.mono ?_
      rintro e wa ⟨va, rfl, na, ba⟩
      have N1 : Hid (NatV wa va (Y * 2 ^ 0) ∧ Below wc.heap.size wc wa) := ⟨na, ba⟩
      clear na ba T
      go_wp2
      go_meet
      exact ⟨rfl, 0, N1.out.1, N3.out.2.1.trans (N1.out.2.mono N3.out.2.1.size), N3.out.1.below N1.out.2, by omega⟩
  case rest =>
  obtain ⟨rfl, b, nb, bb, nb2, hb⟩ := hcut
  have HT := H0.out.2.2.1.next bb
  have hl0 : Y * 2 ^ b ≠ 0 := Nat.mul_ne_zero H0.out.2.2.2 (Nat.ne_of_gt (Nat.two_pow_pos b))
  have D := div_ok HT nb2 nb hl0
  have hab : ((a + l : Nat) : Int) - (b : Int) = 63 + (bl Y : Int) - (bl X : Int) := by
    have h1 := N3.out.2.2
    have h2 := HM.out
    have h3 := HL.out
    rw [h2.1, h2.2]
    omega
  have top : X * 2 ^ (a + l) < 2 ^ 64 * (Y * 2 ^ b) := qt_top H0.out.2.2.2 hab
  have N4 : Hid (NatV wc u14 (Y * 2 ^ b) ∧ Below w.heap.size w wc ∧ Y * 2 ^ b ≠ 0 ∧ ((a + l : Nat) : Int) - (b : Int) = 63 + (bl Y : Int) - (bl X : Int) ∧ X * 2 ^ (a + l) < 2 ^ 64 * (Y * 2 ^ b)) := ⟨nb, bb, hl0, hab, top⟩
  clear nb bb nb2 hb HT hl0 hab top N3 B2
  generalize hlw : Y * 2 ^ b = lw at *
  have q0 : X * 2 ^ a / lw < 18446744073709551616 := by
    rw [Nat.div_lt_iff_lt_mul (Nat.pos_of_ne_zero N4.out.2.2.1)]
    refine Nat.lt_of_le_of_lt (Nat.mul_le_mul_left X (Nat.pow_le_pow_right (by omega) (Nat.le_add_right a l))) ?_
    exact N4.out.2.2.2.2
  have e0 : X * 2 ^ a / lw * lw + X * 2 ^ a % lw = X * 2 ^ (a + 0) := by rw [Nat.mul_comm]; exact Nat.div_add_mod _ _
  have r0 : X * 2 ^ a % lw < lw := Nat.mod_lt _ (Nat.pos_of_ne_zero N4.out.2.2.1)
  have N5 : Hid (X * 2 ^ a / lw * lw + X * 2 ^ a % lw = X * 2 ^ (a + 0) ∧ X * 2 ^ a % lw < lw ∧ Y * 2 ^ b = lw) := ⟨e0, r0, hlw⟩
  clear e0 r0 hlw
  generalize X * 2 ^ a / lw = q at *
  generalize X * 2 ^ a % lw = r at *
  go_wp2_with fail
  refine D.mono ?_
  rintro e w5 ⟨v1, v2, rfl, n1, n2, b5⟩
  have W := word_natv n1 q0
  have N6 : Hid (NatV w5 v2 r ∧ NatV w5 u14 lw ∧ Below w.heap.size w w5) := ⟨n2, N4.out.1.below b5, N4.out.2.1.trans (b5.mono N4.out.2.1.size)⟩
  clear n1 n2 b5 D
  go_wp2_with fail
  refine W.mono ?_
  rintro e w6 ⟨rfl, b6⟩
  have N7 : Hid (NatV w6 v2 r ∧ NatV w6 u14 lw ∧ Below w.heap.size w w6) := ⟨N6.out.1.below b6, N6.out.2.1.below b6, N6.out.2.2.trans (b6.mono N6.out.2.2.size)⟩
  clear b6 N6 W
  go_wp2
  go_loopw [4, 17, 68] (fun qv rv iv wr => ∃ (i q r : Nat), iv = .int .i64 (i : Int) ∧ qv = .int .u64 (q : Int) ∧ i ≤ l ∧ Hid (NatV wr rv r ∧ NatV wr u14 lw ∧ Below w.heap.size w wr ∧ q * lw + r = X * 2 ^ (a + i) ∧ r < lw)) (fun _ _ iv _ => (l - intOf iv).toNat)
  case atStart => exact ⟨0, q, r, rfl, rfl, by omega, N7.out.1, N7.out.2.1, N7.out.2.2, N5.out.1, N5.out.2.1⟩
  case round =>
    clear N7 q0
    have HY := N5.out.2.2
    clear N5
    obtain ⟨i, q, r, rfl, rfl, hi, HI⟩ := hrel
    by_cases c : i < l
    · have hq := qt_half N4.out.2.2.2.2 HI.out.2.2.2.1 c
      by_cases cc : 2 * r < lw
      · have T := next_low HI.out.1 HI.out.2.1 hq cc
        have F : Hid ((2 * q) * lw + 2 * r = X * 2 ^ (a + (i + 1)) ∧ 2 * r < lw) := ⟨qt_step HI.out.2.2.2.1, cc⟩
        clear hq cc
        generalize 2 * q = q' at *
        generalize 2 * r = r' at *
        go_wp2_with fail
        refine T.mono ?_
        rintro e w7 ⟨v7, rfl, n7, b7⟩
        have N8 : Hid (NatV w7 v7 r' ∧ NatV w7 u14 lw ∧ Below w.heap.size w w7) := ⟨n7, HI.out.2.1.below b7, HI.out.2.2.1.trans (b7.mono HI.out.2.2.1.size)⟩
        clear n7 b7 T
        go_wp2
        go_roundw
        case rel => exact ⟨i + 1, q', r', by push_cast; rfl, rfl, by omega, N8.out.1, N8.out.2.1, N8.out.2.2, F.out.1, F.out.2⟩
        case measure => simp [intOf]; omega
      · have T := next_high HI.out.1 HI.out.2.1 hq (by omega) HI.out.2.2.2.2
        have F : Hid ((2 * q + 1) * lw + (2 * r - lw) = X * 2 ^ (a + (i + 1)) ∧ 2 * r - lw < lw) := by
          have h := qt_step HI.out.2.2.2.1
          have h2 := HI.out.2.2.2.2
          refine ⟨?_, by omega⟩
          rw [← h, Nat.add_mul, Nat.one_mul]
          omega
        clear hq cc
        generalize 2 * q + 1 = q' at *
        generalize 2 * r - lw = r' at *
        go_wp2_with fail
        refine T.mono ?_
        rintro e w7 ⟨v7, rfl, n7, b7⟩
        have N8 : Hid (NatV w7 v7 r' ∧ NatV w7 u14 lw ∧ Below w.heap.size w w7) := ⟨n7, HI.out.2.1.below b7, HI.out.2.2.1.trans (b7.mono HI.out.2.2.1.size)⟩
        clear n7 b7 T
        go_wp2
        go_roundw
        case rel => exact ⟨i + 1, q', r', by push_cast; rfl, rfl, by omega, N8.out.1, N8.out.2.1, N8.out.2.2, F.out.1, F.out.2⟩
        case measure => simp [intOf]; omega
    · obtain rfl : i = l := by omega
      obtain ⟨ao, n, cp, rfl, hn0, hn⟩ := nat_slice HI.out.1
      have F : Hid (Qt X Y q r (a + i) b) := ⟨by rw [HY]; exact HI.out.2.2.2.2, by rw [HY]; exact HI.out.2.2.2.1, N4.out.2.2.2.1⟩
      have dn : decide (0 < n) = decide (r ≠ 0) := by
        rw [decide_eq_decide]; omega
      clear hn0
      go_wp2
      rw [show (!decide (r = 0)) = decide (r ≠ 0) from by simp]
      exact bodyPost_ret (v := .tuple #[.int .u64 (q : Int), .int .i64 (63 + (M : Int) - (N : Int)), .bool (decide (r ≠ 0))]) (by simp [results, Tryz.results106, go_sem]) rfl ⟨q, r, a + i, b, rfl, F.out, HI.out.2.2.1⟩
set_option maxRecDepth 100000 in
set_option maxHeartbeats 1000000 in
theorem fe_ok {w : World} {ao : Option Addr} {n cn bn on : Nat} {F : Nat → Nat} (S : Sl w ao n cn bn on F) {bo : Option Addr} {m cm bm om : Nat} {G : Nat → Nat} (S' : Sl w bo m cm bm om G) (h : verr F n = 0) (h' : verr G m = 0) : Calls Tryz.prog 104 #[.slice ao n cn, .slice bo m cm] w fun e w' => e = .returned (if m = 0 then errV 10 else errV 0) ∧ Below w.heap.size w w' := by
  have T := valid_any S
  rw [h, show errV 0 = Value.nilIface from rfl] at T
  have T2 : ∀ W, Below w.heap.size w W → _ := fun W hb => valid_any (S'.below hb)
  rw [h', show errV 0 = Value.nilIface from rfl] at T2
  have hm := S'.le
  have hm2 := S'.cap
  clear S S' h h'
  go_enter Tryz.func104, Tryz.ntmps104
  go_wp2_with fail
  refine T.mono ?_
  rintro e w1 ⟨rfl, b1⟩
  have T3 := T2 w1 b1
  have B1 : Hid (Below w.heap.size w w1) := b1
  clear b1 T2
  go_wp2_with fail
  refine T3.mono ?_
  rintro e w2 ⟨rfl, b2⟩
  have B2 : Hid (Below w.heap.size w w2) := B1.out.trans (b2.mono B1.out.size)
  clear b2 T3
  by_cases c : m = 0
  · subst c
    go_wp2
    go_ret
    exact ⟨rfl, B2.out⟩
  · have c2 : ((m : Int) == 0) = false := by simp; omega
    go_wp2
    go_ret
    exact ⟨rfl, B2.out⟩
set_option maxRecDepth 100000 in
set_option maxHeartbeats 1000000 in
theorem ratio_ok {s : Int} {g n' f T : Nat} {L : Int} (hz : Fz s g n' f T L) (c : Bool) {vn vd : Value} {X Y : Nat} {e : Int} (h0 : -1099511627776 ≤ e) (h1 : e ≤ 1099511627776) {w : World} (hT : Tab w) (hn : NatV w vn X) (hd : NatV w vd Y) (y0 : Y ≠ 0) : Calls Tryz.prog 78 #[.int .i64 s, .bool c, vn, vd, .int .i64 e] w fun x w' => x = .returned (anV g c (rdA f T L X Y e false)) ∧ Below w.heap.size w w' := by
  have hf : 0 < f ∧ f ≤ 52 ∧ 2 ≤ T := by rcases hz with ⟨_, _, _, h, h', _⟩ | ⟨_, _, _, h, h', _⟩ <;> omega
  have HF : ∀ W, Below w.heap.size w W → Calls Tryz.prog 104 #[vn, vd] W fun e w' => e = .returned .nilIface ∧ Below W.heap.size W w' := fun W hb => by
    have hs := nat_slice hd
    obtain ⟨ao, n, c, b, o, F, rfl, S, t, rfl, hn⟩ := hn
    obtain ⟨bo, m, c', b', o', G, rfl, S', t', rfl, hm⟩ := hd
    obtain ⟨_, _, _, e, hm0, _⟩ := hs
    cases e
    have h := fe_ok (S.below hb) (S'.below hb) (verr_ok hn t) (verr_ok hm t')
    rw [if_neg (fun z => y0 (hm0.1 z))] at h
    exact h
  have H := fun W => gridOf_z hz W
  have HE := fun W => bound_yes h0 h1 W
  have bX := nat_bl hn
  have bY := nat_bl hd
  have HT : Hid (Tab w ∧ NatV w vn X ∧ NatV w vd Y ∧ Y ≠ 0) := ⟨hT, hn, hd, y0⟩
  have HN : ∀ (q r a b : Nat), Qt X Y q r a b → ∀ W, Tab W → Calls Tryz.prog 107 #[.agg #[.int .i64 s, .int .i64 ((f : Int) + 1), .int .i64 L], .bool c, .int .u64 (q : Int), .int .i64 (e - (63 + (bl Y : Int) - (bl X : Int))), .bool (decide (r ≠ 0))] W fun x w' => x = .returned (anV g c (rdA f T L X Y e false)) ∧ Below W.heap.size W w' := fun q r a b h W hW => by
    have k : ndA f T L q (e - (63 + (bl Y : Int) - (bl X : Int))) (decide (r ≠ 0)) = rdA f T L X Y e false := by
      by_cases x0 : X = 0
      · subst x0
        obtain ⟨rfl, rfl⟩ := h.none y0
        rw [nd_whole hf.1 hf.2.2 _ (by omega)]
        unfold rdA
        rw [if_pos rfl, if_pos rfl]
      · exact nd_ratio hf.1 hf.2.1 hf.2.2 x0 y0 h.1 (h.ge x0) (h.lt y0) h.eqv
    rw [← k]
    exact pnear_any hz c (decide (r ≠ 0)) (by have := h.lt y0; omega) (by omega) (by omega) W hW
  unfold anV at HN ⊢
  generalize sgd g c (rdA f T L X Y e false).1 = y at *
  generalize (if (rdA f T L X Y e false).2 = true then Value.iface 74 (.int .i64 4) else .nilIface) = V at *
  clear hz hf hT hn hd y0
  generalize hN : bl X = N at *
  generalize hM : bl Y = M at *
  go_enter Tryz.func78, Tryz.ntmps78
  go_wp2_with fail
  refine (H _).mono ?_
  rintro e w1 ⟨rfl, b1⟩
  have B1 : Hid (Below w.heap.size w w1) := b1
  clear b1 H
  have B2 : Hid (Below w.heap.size w (w1.alloc (.cells #[.int .i64 s, .int .i64 ((f : Int) + 1), .int .i64 L] 136))) := B1.out.alloc B1.out.size _
  have G2 : Hid (GrB (w1.alloc (.cells #[.int .i64 s, .int .i64 ((f : Int) + 1), .int .i64 L] 136)) w1.heap.size _ _ _) := GrB.new w1 _ _ _ _
  have TF := HF _ B2.out
  clear B1 HF
  go_wp2_with fail
  refine TF.mono ?_
  rintro x w3 ⟨rfl, b3⟩
  have B3 : Hid (Below w.heap.size w w3) := B2.out.trans (b3.mono B2.out.size)
  have G3 : Hid (GrB w3 w1.heap.size _ _ _) := G2.out.step b3
  clear b3 TF B2 G2
  go_wp2_with fail
  refine (HE _).mono ?_
  rintro x w4 ⟨rfl, h4⟩
  subst h4
  have TQ := quot_ok (HT.out.1.next B3.out) (HT.out.2.1.below B3.out) (HT.out.2.2.1.below B3.out) HT.out.2.2.2
  rw [hN, hM] at TQ
  clear HE
  go_wp2_with fail
  refine TQ.mono ?_
  rintro x w5 ⟨q, r, a, b, rfl, hq, b5⟩
  have B5 : Hid (Below w.heap.size w w5) := B3.out.trans (b5.mono B3.out.size)
  have G5 : Hid (GrB w5 w1.heap.size _ _ _) := G3.out.step b5
  have TN := HN q r a b hq w5 (HT.out.1.next B5.out)
  clear b5 TQ B3 G3 HN hq
  generalize decide (r ≠ 0) = fl at *
  obtain ⟨_, a0, a1, a2, _, _, _⟩ := G5.out
  go_wp2_with fail
  refine TN.mono ?_
  rintro x w6 ⟨rfl, b6⟩
  have B6 : Hid (Below w.heap.size w w6) := B5.out.trans (b6.mono B5.out.size)
  clear b6
  go_wp2
  go_ret2
  exact ⟨rfl, B6.out⟩
theorem unp_z {s : Int} {g n f T : Nat} {L : Int} (h : Fz s g n f T L) {b : Nat} (hb : b < 2 * g) (w : World) : Calls Tryz.prog 80 #[.int .u64 (b : Int), .int .i64 s] w fun e w' => e = .returned (.tuple #[.agg #[.bool (uN g n b), .int .i64 (cl n (mg g b)), .int .u64 ((uM n f (mg g b) : Nat) : Int), .int .i64 (uE n f L (mg g b))], .nilIface]) ∧ Below w.heap.size w w' := by
  rcases h with ⟨rfl, rfl, rfl, rfl, rfl, rfl⟩ | ⟨rfl, rfl, rfl, rfl, rfl, rfl⟩
  · exact unp_32 hb w
  · exact unp_64 hb w
set_option maxRecDepth 100000 in
set_option maxHeartbeats 1000000 in
theorem finite_fine {s b : Int} {x0 : Bool} {x2 x3 : Int} {w : World} (H : ∀ W, Calls Tryz.prog 80 #[.int .u64 b, .int .i64 s] W fun e w' => e = .returned (.tuple #[.agg #[.bool x0, .int .i64 2, .int .u64 x2, .int .i64 x3], .nilIface]) ∧ Below W.heap.size W w') : Calls Tryz.prog 56 #[.int .u64 b, .int .i64 s] w fun e w' => e = .returned (.tuple #[.agg #[.bool x0, .int .i64 2, .int .u64 x2, .int .i64 x3], .nilIface]) ∧ Below w.heap.size w w' := by
  go_enter Tryz.func56, Tryz.ntmps56
  go_wp2_with fail
  refine (H _).mono ?_
  rintro e w1 ⟨rfl, hb⟩
  have X1 : Hid (FlB w1 w.heap.size _ _ _ _) := (FlB.new w (.bool false) (.int .i64 0) (.int .u64 0) (.int .i64 0) 90).step hb
  have B1 : Hid (Below w.heap.size w w1) := ((Below.refl _ _).alloc (Nat.le_refl _) _).trans (hb.mono (by simp))
  clear hb
  obtain ⟨l, a0, a1, a2, a3, f0, f1, f2, f3⟩ := X1.out
  go_wp2
  exact bodyPost_ret (v := .tuple #[.agg #[.bool x0, .int .i64 2, .int .u64 x2, .int .i64 x3], .nilIface]) (by simp [results, Tryz.results56, go_sem, World.cell?_setCell_same, World.cell?_setCell_other, World.cell?_alloc_lt, *]) rfl ⟨rfl, ((((B1.out.setCell (Nat.le_refl _) _).setCell (Nat.le_refl _) _).setCell (Nat.le_refl _) _).setCell (Nat.le_refl _) _).alloc (by simp; omega) _⟩
set_option maxRecDepth 100000 in
set_option maxHeartbeats 1000000 in
theorem finite_zero {s : Int} {g n f T : Nat} {L : Int} (hz : Fz s g n f T L) {b : Int} {x0 : Bool} {x2 x3 : Int} {w : World} (H : ∀ W, Calls Tryz.prog 80 #[.int .u64 b, .int .i64 s] W fun e w' => e = .returned (.tuple #[.agg #[.bool x0, .int .i64 1, .int .u64 x2, .int .i64 x3], .nilIface]) ∧ Below W.heap.size W w') : Calls Tryz.prog 56 #[.int .u64 b, .int .i64 s] w fun e w' => e = .returned (.tuple #[.agg #[.bool x0, .int .i64 1, .int .u64 x2, .int .i64 L], .nilIface]) ∧ Below w.heap.size w w' := by
  have HG := fun W => gridOf_z hz W
  clear hz
  go_enter Tryz.func56, Tryz.ntmps56
  go_wp2_with fail
  refine (H _).mono ?_
  rintro e w1 ⟨rfl, hb⟩
  have X1 : Hid (FlB w1 w.heap.size _ _ _ _) := (FlB.new w (.bool false) (.int .i64 0) (.int .u64 0) (.int .i64 0) 90).step hb
  have B1 : Hid (Below w.heap.size w w1) := ((Below.refl _ _).alloc (Nat.le_refl _) _).trans (hb.mono (by simp))
  clear hb
  go_wp2_with fail
  refine (HG _).mono ?_
  rintro e w2 ⟨rfl, hb⟩
  have X2 : Hid (FlB w2 w.heap.size _ _ _ _) := (X1.out.al _).step hb
  have Y2 : Hid (FlB w2 w1.heap.size _ _ _ _) := (FlB.new w1 _ _ _ _ _).step hb
  have B2 : Hid (Below w.heap.size w w2) := (B1.out.alloc B1.out.size _).trans (hb.mono (by have := B1.out.size; simp; omega))
  have s12 : w.heap.size < w1.heap.size := X1.out.lt
  have X3 : Hid (FlB (w2.alloc (.cells #[.int .i64 s, .int .i64 ((f : Int) + 1), .int .i64 L] 136)) w.heap.size _ _ _ _) := X2.out.al _
  have Y3 : Hid (FlB (w2.alloc (.cells #[.int .i64 s, .int .i64 ((f : Int) + 1), .int .i64 L] 136)) w1.heap.size _ _ _ _) := Y2.out.al _
  have s23 : w1.heap.size < w2.heap.size := Y2.out.lt
  have B3 : Hid (Below w.heap.size w (w2.alloc (.cells #[.int .i64 s, .int .i64 ((f : Int) + 1), .int .i64 L] 136))) := B2.out.alloc B2.out.size _
  clear hb X1 B1 X2 Y2 B2
  have Z3 : Hid (GrB (w2.alloc (.cells #[.int .i64 s, .int .i64 ((f : Int) + 1), .int .i64 L] 136)) w2.heap.size _ _ _) := GrB.new w2 _ _ _ _
  go_upto_region 8 with fail
  generalize w2.alloc (.cells #[.int .i64 s, .int .i64 ((f : Int) + 1), .int .i64 L] 136) = v at *
  have n1 : w.heap.size ≠ w1.heap.size := by omega
  have n2 : w1.heap.size ≠ w.heap.size := by omega
  obtain ⟨_, a0, a1, a2, a3, f0, f1, f2, f3⟩ := X3.out
  obtain ⟨_, c0, c1, c2, c3, g0, g1, g2, g3⟩ := Y3.out
  obtain ⟨_, _, _, z2, _, _, _⟩ := Z3.out
  go_wp2
  exact bodyPost_ret (v := .tuple #[.agg #[.bool x0, .int .i64 1, .int .u64 x2, .int .i64 L], .nilIface]) (by simp [results, Tryz.results56, go_sem, World.cell?_setCell_same, World.cell?_setCell_other, *]) rfl ⟨rfl, (((((B3.out.setCell (by show w.heap.size ≤ w1.heap.size; omega) _).setCell (Nat.le_refl _) _).setCell (Nat.le_refl _) _).setCell (Nat.le_refl _) _).setCell (Nat.le_refl _) _)⟩
theorem fin_yes {s : Int} {g n f T : Nat} {L : Int} (hz : Fz s g n f T L) {b : Nat} (hb : b < 2 * g) (hm : mg g b < n) (w : World) : Calls Tryz.prog 56 #[.int .u64 (b : Int), .int .i64 s] w fun e w' => e = .returned (.tuple #[.agg #[.bool (ng g b), .int .i64 (cl n (mg g b)), .int .u64 ((mt f (mg g b) : Nat) : Int), .int .i64 (xp f L (mg g b))], .nilIface]) ∧ Below w.heap.size w w' := by
  have H := fun W => unp_z hz hb W
  unfold uN uM uE at H
  rcases cl_cases n (mg g b) with ⟨q, k⟩ | ⟨_, _, k⟩ | ⟨_, q, k⟩ | ⟨q, k⟩
  · rw [k] at H ⊢
    rw [if_neg (by decide), if_neg (by decide), if_neg (by decide)] at H
    have e1 : mt f (mg g b) = 0 := by rw [q]; unfold mt; rw [if_pos (Nat.zero_div _)]
    have e2 : xp f L (mg g b) = L := by rw [q]; unfold xp; rw [if_pos (Nat.zero_div _)]
    rw [e1, e2]
    exact finite_zero hz H
  · rw [k] at H ⊢
    rw [if_neg (by decide), if_pos rfl, if_pos rfl] at H
    exact finite_fine H
  · omega
  · omega
/-- The shifts of a float's fraction. -/
def FrP (z : Nat) (e : Int) (t a b : Nat) : Prop := (t : Int) = max 0 (min (z : Int) (-e)) ∧ (a : Int) = max 0 e ∧ (b : Int) = max 0 (-e - (t : Int))
set_option maxRecDepth 100000 in
set_option maxHeartbeats 1000000 in
theorem frac_zero (e : Int) (w : World) : Calls Tryz.prog 57 #[.int .u64 0, .int .i64 e] w fun x w' => ∃ v2, x = .returned (.tuple #[.slice none 0 0, v2]) ∧ NatV w' v2 1 ∧ Below w.heap.size w w' := by
  have H := fun W => of_any 1 (by unfold B; decide) W
  go_enter Tryz.func57, Tryz.ntmps57
  go_wp2_with fail
  refine (H _).mono ?_
  rintro x w1 ⟨v, rfl, n1, b1⟩
  have N1 : Hid (NatV w1 v 1 ∧ Below w.heap.size w w1) := ⟨n1, b1⟩
  clear n1 b1
  go_wp2
  go_ret2
  exact ⟨v, rfl, N1.out.1, N1.out.2⟩
set_option maxRecDepth 100000 in
set_option maxHeartbeats 1000000 in
theorem frac_some {m : Nat} {e : Int} (hm : m < 18446744073709551616) (m0 : m ≠ 0) (h0 : -1100 ≤ e) (h1 : e ≤ 1000) (w : World) (hT : Tab w) : Calls Tryz.prog 57 #[.int .u64 (m : Int), .int .i64 e] w fun x w' => ∃ (v1 v2 : Value) (t a b : Nat), x = .returned (.tuple #[v1, v2]) ∧ NatV w' v1 (m / 2 ^ t * 2 ^ a) ∧ NatV w' v2 (1 * 2 ^ b) ∧ FrP (Lib.ctz 64 m) e t a b ∧ Below w.heap.size w w' := by
  have HZ := tz64_any (m : Int) ⟨by omega, by omega⟩ w hT
  have z1 : Lib.ctz 64 m < 64 := by
    obtain ⟨_, _, z1⟩ := ctz_odd m0 hm
    exact z1
  obtain ⟨z, hz⟩ : ∃ z, z = Lib.ctz 64 m := ⟨_, rfl⟩
  rw [← hz] at z1
  have hz' : ctzW (m : Int) = (z : Int) := by unfold ctzW; rw [Int.toNat_natCast, hz]
  rw [hz'] at HZ
  rw [← hz]
  have n0 : ((m : Int) == 0) = false := by simp; omega
  clear hz hz' m0 hT
  go_enter Tryz.func57, Tryz.ntmps57
  go_upto_region 3 with fail
  go_cut [6] (fun s wx => wx = w ∧ ∃ t : Nat, s = .int .i64 (t : Int) ∧ (t : Int) = max 0 (min (z : Int) (-e)))
  case first =>
    go_wp2_with fail
    refine HZ.mono ?_
    rintro x w1 ⟨rfl, rfl⟩
    clear HZ
    go_wp2
    all_goals go_meet
    all_goals first
      | (refine ⟨rfl, 0, rfl, ?_⟩; omega)
      | (refine ⟨rfl, z, rfl, ?_⟩; omega)
      | (refine ⟨rfl, (-e).toNat, by rw [Int.toNat_of_nonneg (by omega)], ?_⟩; omega)
  case rest =>
  clear HZ
  obtain ⟨hcw, t, rfl, ht⟩ := hcut
  subst wc
  have t63 : t ≤ 63 := by omega
  have HT : Hid ((t : Int) = max 0 (min (z : Int) (-e))) := ht
  clear ht
  have k1 : m / 2 ^ t < 18446744073709551616 := Nat.lt_of_le_of_lt (Nat.div_le_self _ _) hm
  have HO := fun W => of_any (m / 2 ^ t) k1 W
  have es : (m : Int) / 2 ^ t = ((m / 2 ^ t : Nat) : Int) := by push_cast; rfl
  have HS : Hid ((m : Int) / 2 ^ t = ((m / 2 ^ t : Nat) : Int)) := es
  have HK : Hid (bl (m / 2 ^ t) ≤ 64) := bl_mono_le k1
  have H1 : Hid (bl 1 ≤ 64) := (by decide : bl 1 ≤ 64)
  have HO1 : ∀ W, Calls Tryz.prog 92 #[.int .u64 1] W fun e w' => ∃ v, e = .returned v ∧ NatV w' v 1 ∧ Below W.heap.size W w' := fun W => of_any 1 (by unfold B; decide) W
  clear k1 es
  go_upto_region 4 with fail
  go_cut [7, 8] (fun u v wx => v = .nilIface ∧ ∃ a : Nat, NatV wx u (m / 2 ^ t * 2 ^ a) ∧ Below w.heap.size w wx ∧ (a : Int) = max 0 (e))
  case first =>
    by_cases c : 0 < e
    · obtain ⟨a, ha⟩ : ∃ a : Nat, (a : Int) = e := ⟨(e).toNat, by omega⟩
      have h8 : a ≤ 8192 := by omega
      have e0 : Hid (bl (m / 2 ^ t) + a ≤ 64 * 128) := (by have := HK.out; omega : bl (m / 2 ^ t) + a ≤ 64 * 128)
      have HA : Hid ((a : Int) = e) := ha
      clear ha
      go_wp2_with fail
      all_goals first | (exfalso; omega) | skip
      rw [HS.out]
      refine (HO _).mono ?_
      rintro x wa ⟨va, rfl, na, ba⟩
      have T := shl_ok na a (pow_fit e0.out) (by omega)
      have N1 : Hid (Below w.heap.size w wa) := ba
      clear na ba
      rw [HA.out] at T
      go_wp2_with fail
      all_goals first | (exfalso; omega) | skip
      refine T.mono ?_
      rintro x wb ⟨vb, rfl, nb, bb⟩
      have N2 : Hid (NatV wb vb (m / 2 ^ t * 2 ^ a) ∧ Below w.heap.size w wb) := ⟨nb, N1.out.trans (bb.mono N1.out.size)⟩
      clear nb bb T N1
      go_wp2
      go_meet
      exact ⟨rfl, a, N2.out.1, N2.out.2, by have := HA.out; omega⟩
    · have e0 : Hid (bl (m / 2 ^ t) + 0 ≤ 64 * 128) := (by have := HK.out; omega : bl (m / 2 ^ t) + 0 ≤ 64 * 128)
      go_wp2_with fail
      all_goals first | (exfalso; omega) | skip
      rw [HS.out]
      refine (HO _).mono ?_
      rintro x wa ⟨va, rfl, na, ba⟩
      have T := shl_ok na 0 (pow_fit e0.out) (by omega)
      have N1 : Hid (Below w.heap.size w wa) := ba
      clear na ba
      rw [show ((0 : Nat) : Int) = 0 from rfl] at T
      go_wp2_with fail
      all_goals first | (exfalso; omega) | skip
      refine T.mono ?_
      rintro x wb ⟨vb, rfl, nb, bb⟩
      have N2 : Hid (NatV wb vb (m / 2 ^ t * 2 ^ 0) ∧ Below w.heap.size w wb) := ⟨nb, N1.out.trans (bb.mono N1.out.size)⟩
      clear nb bb T N1
      go_wp2
      go_meet
      exact ⟨rfl, 0, N2.out.1, N2.out.2, by omega⟩
  case rest =>
  obtain ⟨rfl, a, na, ba, ha⟩ := hcut
  have N3 : Hid (NatV wc u7 (m / 2 ^ t * 2 ^ a) ∧ Below w.heap.size w wc ∧ (a : Int) = max 0 e) := ⟨na, ba, ha⟩
  clear na ba ha HO HS
  go_upto_region 5 with fail
  go_cut [9, 10] (fun u v wx => v = .nilIface ∧ ∃ b : Nat, NatV wx u (1 * 2 ^ b) ∧ Below w.heap.size w wx ∧ NatV wx u7 (m / 2 ^ t * 2 ^ a) ∧ (b : Int) = max 0 (-e - (t : Int)))
  case first =>
    by_cases c : 0 < -e - (t : Int)
    · obtain ⟨b, hb⟩ : ∃ b : Nat, (b : Int) = -e - (t : Int) := ⟨(-e - (t : Int)).toNat, by omega⟩
      have h8 : b ≤ 8192 := by omega
      have e0 : Hid (bl (1) + b ≤ 64 * 128) := (by have := H1.out; omega : bl (1) + b ≤ 64 * 128)
      have HA : Hid ((b : Int) = -e - (t : Int)) := hb
      clear hb
      go_wp2_with fail
      all_goals first | (exfalso; omega) | skip
      skip
      refine (HO1 _).mono ?_
      rintro x wa ⟨va, rfl, na, ba⟩
      have T := shl_ok na b (pow_fit e0.out) (by omega)
      have N1 : Hid (Below wc.heap.size wc wa) := ba
      clear na ba
      rw [HA.out] at T
      go_wp2_with fail
      all_goals first | (exfalso; omega) | skip
      refine T.mono ?_
      rintro x wb ⟨vb, rfl, nb, bb⟩
      have N2 : Hid (NatV wb vb (1 * 2 ^ b) ∧ Below wc.heap.size wc wb) := ⟨nb, N1.out.trans (bb.mono N1.out.size)⟩
      clear nb bb T N1
      go_wp2
      go_meet
      exact ⟨rfl, b, N2.out.1, N3.out.2.1.trans (N2.out.2.mono N3.out.2.1.size), N3.out.1.below N2.out.2, by have := HA.out; omega⟩
    · have e0 : Hid (bl (1) + 0 ≤ 64 * 128) := (by have := H1.out; omega : bl (1) + 0 ≤ 64 * 128)
      go_wp2_with fail
      all_goals first | (exfalso; omega) | skip
      skip
      refine (HO1 _).mono ?_
      rintro x wa ⟨va, rfl, na, ba⟩
      have T := shl_ok na 0 (pow_fit e0.out) (by omega)
      have N1 : Hid (Below wc.heap.size wc wa) := ba
      clear na ba
      rw [show ((0 : Nat) : Int) = 0 from rfl] at T
      go_wp2_with fail
      all_goals first | (exfalso; omega) | skip
      refine T.mono ?_
      rintro x wb ⟨vb, rfl, nb, bb⟩
      have N2 : Hid (NatV wb vb (1 * 2 ^ 0) ∧ Below wc.heap.size wc wb) := ⟨nb, N1.out.trans (bb.mono N1.out.size)⟩
      clear nb bb T N1
      go_wp2
      go_meet
      exact ⟨rfl, 0, N2.out.1, N3.out.2.1.trans (N2.out.2.mono N3.out.2.1.size), N3.out.1.below N2.out.2, by omega⟩
  case rest =>
  obtain ⟨rfl, b, nb, bb, nb2, hb⟩ := hcut
  have N4 : Hid (NatV wc u7 (m / 2 ^ t * 2 ^ a) ∧ NatV wc u9 (1 * 2 ^ b) ∧ FrP z e t a b ∧ Below w.heap.size w wc) := ⟨nb2, nb, ⟨HT.out, N3.out.2.2, hb⟩, bb⟩
  clear nb bb nb2 hb N3
  go_wp2
  go_ret2
  exact ⟨u7, u9, t, a, b, rfl, N4.out.1, N4.out.2.1, N4.out.2.2.1, N4.out.2.2.2⟩
theorem frc_of {m j t a b : Nat} {e : Int} {z : Nat} (hm : m = 2 ^ z * (2 * j + 1)) (h : FrP z e t a b) : Frc (m / 2 ^ t * 2 ^ a) (1 * 2 ^ b) m e := by
  obtain ⟨h1, h2, h3⟩ := h
  rw [Nat.one_mul]
  by_cases c : 0 ≤ e
  · obtain rfl : t = 0 := by omega
    obtain rfl : b = 0 := by omega
    have ea : e = (a : Int) := by omega
    subst ea
    refine ⟨⟨0, Int.le_refl _, by omega, ?_⟩, 0, rfl, .inr rfl⟩
    unfold ev
    simp
  · obtain ⟨p, rfl⟩ : ∃ p : Nat, e = -(p : Int) := ⟨(-e).toNat, by omega⟩
    obtain rfl : a = 0 := by omega
    have hb : p = t + b := by omega
    have tz : t ≤ z := by omega
    have dv : m / 2 ^ t = 2 ^ (z - t) * (2 * j + 1) := by
      rw [hm, show 2 ^ z = 2 ^ t * 2 ^ (z - t) from by rw [← Nat.pow_add]; congr 1; omega, Nat.mul_assoc, Nat.mul_div_cancel_left _ (Nat.two_pow_pos t)]
    refine ⟨⟨-(p : Int), by omega, Int.le_refl _, ?_⟩, b, rfl, ?_⟩
    · unfold ev
      rw [show (0 - -(p : Int)).toNat = p from by omega, show (-(p : Int) - -(p : Int)).toNat = 0 from by omega, Nat.pow_zero, Nat.mul_one, Nat.mul_one, dv, hm, hb, Nat.pow_add, show 2 ^ z = 2 ^ t * 2 ^ (z - t) from by rw [← Nat.pow_add]; congr 1; omega]
      generalize 2 ^ t = A
      generalize 2 ^ (z - t) = D
      generalize 2 * j + 1 = E
      generalize 2 ^ b = G
      rw [Nat.mul_comm (D * E) (A * G), Nat.mul_comm A G, Nat.mul_assoc, Nat.mul_assoc]
    · rw [Nat.pow_zero, Nat.mul_one, dv]
      by_cases q : t = z
      · left; subst q; rw [Nat.sub_self, Nat.pow_zero, Nat.one_mul]; omega
      · right; omega
theorem frac_ok {m : Nat} {e : Int} (hm : m < 18446744073709551616) (h0 : -1100 ≤ e) (h1 : e ≤ 1000) (w : World) (hT : Tab w) : Calls Tryz.prog 57 #[.int .u64 (m : Int), .int .i64 e] w fun x w' => ∃ (v1 v2 : Value) (N D : Nat), x = .returned (.tuple #[v1, v2]) ∧ NatV w' v1 N ∧ NatV w' v2 D ∧ Frc N D m e ∧ Below w.heap.size w w' := by
  by_cases m0 : m = 0
  · subst m0
    refine (frac_zero e w).mono ?_
    rintro x w' ⟨v2, rfl, n2, b2⟩
    refine ⟨_, v2, 0, 1, rfl, natv_nil w', n2, ⟨⟨min 0 e, by omega, by omega, ?_⟩, 0, rfl, .inr rfl⟩, b2⟩
    unfold ev
    simp
  · refine (frac_some hm m0 h0 h1 w hT).mono ?_
    rintro x w' ⟨v1, v2, t, a, b, rfl, n1, n2, h, hb⟩
    obtain ⟨j, hj, _⟩ := ctz_odd m0 hm
    exact ⟨v1, v2, _, _, rfl, n1, n2, frc_of hj h, hb⟩
set_option maxRecDepth 100000 in
set_option maxHeartbeats 1000000 in
theorem value_walk {s b : Int} {x0 : Bool} {x1 : Int} {x2 : Nat} {x3 : Int} {w : World} (hT : Tab w) (h2 : x2 < 18446744073709551616) (h0 : -1100 ≤ x3) (h1 : x3 ≤ 1000) (H : ∀ W, Calls Tryz.prog 56 #[.int .u64 b, .int .i64 s] W fun e w' => e = .returned (.tuple #[.agg #[.bool x0, .int .i64 x1, .int .u64 (x2 : Int), .int .i64 x3], .nilIface]) ∧ Below W.heap.size W w') : Calls Tryz.prog 31 #[.int .u64 b, .int .i64 s] w fun e w' => ∃ (v1 v2 : Value) (N D : Nat), e = .returned (.tuple #[.bool x0, v1, v2, .nilIface]) ∧ NatV w' v1 N ∧ NatV w' v2 D ∧ Frc N D x2 x3 ∧ Below w.heap.size w w' := by
  have HR := fun W hW => frac_ok h2 h0 h1 W hW
  have HT : Hid (Tab w) := hT
  clear h2 h0 h1 hT
  go_enter Tryz.func31, Tryz.ntmps31
  go_wp2_with fail
  refine (H _).mono ?_
  rintro e w1 ⟨rfl, hb⟩
  have B2 : Hid (Below w.heap.size w (w1.alloc (.cells #[.bool x0, .int .i64 x1, .int .u64 (x2 : Int), .int .i64 x3] 90))) := hb.alloc hb.size _
  have X2 : Hid (FlB (w1.alloc (.cells #[.bool x0, .int .i64 x1, .int .u64 (x2 : Int), .int .i64 x3] 90)) w1.heap.size _ _ _ _) := FlB.new w1 _ _ _ _ _
  have T := HR _ (HT.out.next B2.out)
  clear hb H HR
  go_wp2_with fail
  refine T.mono ?_
  rintro e w3 ⟨v1, v2, N, D, rfl, n1, n2, hf, hb⟩
  have N3 : Hid (NatV w3 v1 N ∧ NatV w3 v2 D ∧ Frc N D x2 x3 ∧ Below w.heap.size w w3) := ⟨n1, n2, hf, B2.out.trans (hb.mono B2.out.size)⟩
  have X3 : Hid (FlB w3 w1.heap.size _ _ _ _) := X2.out.step hb
  clear hb n1 n2 hf T B2 X2
  obtain ⟨_, a0, _, _, _, _, _, _, _⟩ := X3.out
  go_wp2
  exact bodyPost_ret (v := .tuple #[.bool x0, v1, v2, .nilIface]) (by simp [results, Tryz.results31, go_sem]) rfl ⟨v1, v2, N, D, rfl, N3.out.1, N3.out.2.1, N3.out.2.2.1, N3.out.2.2.2⟩
set_option maxRecDepth 100000 in
set_option maxHeartbeats 1000000 in
theorem half_walk {s b : Int} {x1 : Int} {x2 : Nat} {x3 : Int} {w : World} (hT : Tab w) (h2 : x2 < 9223372036854775808) (h0 : -1099 ≤ x3) (h1 : x3 ≤ 1000) (H : ∀ W, Calls Tryz.prog 56 #[.int .u64 b, .int .i64 s] W fun e w' => e = .returned (.tuple #[.agg #[.bool false, .int .i64 x1, .int .u64 (x2 : Int), .int .i64 x3], .nilIface]) ∧ Below W.heap.size W w') : Calls Tryz.prog 71 #[.int .u64 b, .int .i64 s] w fun e w' => ∃ (v1 v2 : Value) (N D : Nat), e = .returned (.tuple #[v1, v2, .nilIface]) ∧ NatV w' v1 N ∧ NatV w' v2 D ∧ Frc N D (2 * x2 + 1) (x3 - 1) ∧ Below w.heap.size w w' := by
  have HR := fun W hW => frac_ok (m := 2 * x2 + 1) (e := x3 - 1) (by omega) (by omega) (by omega) W hW
  have e1 : 2 * (x2 : Int) + 1 = ((2 * x2 + 1 : Nat) : Int) := by omega
  rw [← e1] at HR
  have HT : Hid (Tab w) := hT
  clear e1 hT
  go_enter Tryz.func71, Tryz.ntmps71
  go_wp2_with fail
  refine (H _).mono ?_
  rintro e w1 ⟨rfl, hb⟩
  have B2 : Hid (Below w.heap.size w (w1.alloc (.cells #[.bool false, .int .i64 x1, .int .u64 (x2 : Int), .int .i64 x3] 90))) := hb.alloc hb.size _
  have X2 : Hid (FlB (w1.alloc (.cells #[.bool false, .int .i64 x1, .int .u64 (x2 : Int), .int .i64 x3] 90)) w1.heap.size _ _ _ _) := FlB.new w1 _ _ _ _ _
  have T := HR _ (HT.out.next B2.out)
  clear hb H HR
  go_wp2_with fail
  refine T.mono ?_
  rintro e w3 ⟨v1, v2, N, D, rfl, n1, n2, hf, hb⟩
  have N3 : Hid (NatV w3 v1 N ∧ NatV w3 v2 D ∧ Frc N D (2 * x2 + 1) (x3 - 1) ∧ Below w.heap.size w w3) := ⟨n1, n2, hf, B2.out.trans (hb.mono B2.out.size)⟩
  clear hb n1 n2 hf T B2 X2
  go_wp2
  exact bodyPost_ret (v := .tuple #[v1, v2, .nilIface]) (by simp [results, Tryz.results71, go_sem]) rfl ⟨v1, v2, N, D, rfl, N3.out.1, N3.out.2.1, N3.out.2.2.1, N3.out.2.2.2⟩
theorem parts_in {s : Int} {g n f T : Nat} {L : Int} (hz : Fz s g n f T L) {m : Nat} (hm : m < n) : mt f m < 9007199254740992 ∧ -1074 ≤ xp f L m ∧ xp f L m ≤ 971 := by
  rcases hz with ⟨_, _, rfl, rfl, _, rfl⟩ | ⟨_, _, rfl, rfl, _, rfl⟩
  · rw [mt_32, xp_32]
    split <;> omega
  · rw [mt_64, xp_64]
    split <;> omega
theorem value_ok {s : Int} {g n f T : Nat} {L : Int} (hz : Fz s g n f T L) {b : Nat} (hb : b < 2 * g) (hm : mg g b < n) (w : World) (hT : Tab w) : Calls Tryz.prog 31 #[.int .u64 (b : Int), .int .i64 s] w fun e w' => ∃ (v1 v2 : Value) (N D : Nat), e = .returned (.tuple #[.bool (ng g b), v1, v2, .nilIface]) ∧ NatV w' v1 N ∧ NatV w' v2 D ∧ Frc N D (mt f (mg g b)) (xp f L (mg g b)) ∧ Below w.heap.size w w' := by
  obtain ⟨p1, p2, p3⟩ := parts_in hz hm
  exact value_walk hT (by omega) (by omega) (by omega) fun W => fin_yes hz hb hm W
theorem half_ok {s : Int} {g n f T : Nat} {L : Int} (hz : Fz s g n f T L) {b : Nat} (hb : b < g) (hm : b < n) (w : World) (hT : Tab w) : Calls Tryz.prog 71 #[.int .u64 (b : Int), .int .i64 s] w fun e w' => ∃ (v1 v2 : Value) (N D : Nat), e = .returned (.tuple #[v1, v2, .nilIface]) ∧ NatV w' v1 N ∧ NatV w' v2 D ∧ Frc N D (hM f b) (hX f L b) ∧ Below w.heap.size w w' := by
  obtain ⟨p1, p2, p3⟩ := parts_in hz hm
  have e1 : mg g b = b := Nat.mod_eq_of_lt hb
  have e2 : ng g b = false := by unfold ng; rw [decide_eq_false_iff_not]; omega
  have H := fun W => fin_yes hz (b := b) (by omega) (by rw [e1]; exact hm) W
  rw [e1, e2] at H
  exact half_walk hT (by omega) (by omega) (by omega) H
end Go.Proofs.YtfoaeholbidngaaGreatDoor
