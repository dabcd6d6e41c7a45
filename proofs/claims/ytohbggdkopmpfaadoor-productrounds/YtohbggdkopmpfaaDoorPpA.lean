/-
  What the calls of product.gridOf, dropped and pack answer.
-/
import Derived.Test.YtohbggdkopmpfaaDoorPb4
import Derived.Test.YtohbggdkopmpfaaDoorPrP
namespace Go.Proofs.YtohbggdkopmpfaaDoor
open Go.RowKit

set_option maxRecDepth 100000 in
set_option maxHeartbeats 1000000 in
theorem pgrid_no {s : Int} (h : Sn s) (w : World) : Calls Tryd.prog 10 #[.int .i64 s] w fun e w' => e = .returned (.tuple #[.agg #[.int .i64 0, .int .i64 0, .int .i64 0], .bool false]) ∧ Below w.heap.size w w' := by
  have p1 : (s == 32) = false := by simpa using h.1
  have p2 : (s == 64) = false := by simpa using h.2
  go_enter Tryd.func10, Tryd.ntmps10
  go_wp2
  exact bodyPost_ret (v := .tuple #[.agg #[.int .i64 0, .int .i64 0, .int .i64 0], .bool false]) (by simp [results, Tryd.results10, go_sem]) rfl ⟨rfl, (Below.refl _ _).alloc (Nat.le_refl _) _⟩
set_option maxRecDepth 100000 in
set_option maxHeartbeats 1000000 in
theorem pgrid_32 (w : World) : Calls Tryd.prog 10 #[.int .i64 32] w fun e w' => e = .returned (.tuple #[.agg #[.int .i64 32, .int .i64 24, .int .i64 (-149)], .bool true]) ∧ Below w.heap.size w w' := by
  go_enter Tryd.func10, Tryd.ntmps10
  go_wp2
  exact bodyPost_ret (v := .tuple #[.agg #[.int .i64 32, .int .i64 24, .int .i64 (-149)], .bool true]) (by simp [results, Tryd.results10, go_sem]) rfl ⟨rfl, (Below.refl _ _).alloc (Nat.le_refl _) _⟩
set_option maxRecDepth 100000 in
set_option maxHeartbeats 1000000 in
theorem pgrid_64 (w : World) : Calls Tryd.prog 10 #[.int .i64 64] w fun e w' => e = .returned (.tuple #[.agg #[.int .i64 64, .int .i64 53, .int .i64 (-1074)], .bool true]) ∧ Below w.heap.size w w' := by
  go_enter Tryd.func10, Tryd.ntmps10
  go_wp2
  exact bodyPost_ret (v := .tuple #[.agg #[.int .i64 64, .int .i64 53, .int .i64 (-1074)], .bool true]) (by simp [results, Tryd.results10, go_sem]) rfl ⟨rfl, (Below.refl _ _).alloc (Nat.le_refl _) _⟩
theorem pgrid_z {s : Int} {g n f T : Nat} {L : Int} (h : Fz s g n f T L) (w : World) : Calls Tryd.prog 10 #[.int .i64 s] w fun e w' => e = .returned (.tuple #[.agg #[.int .i64 s, .int .i64 ((f : Int) + 1), .int .i64 L], .bool true]) ∧ Below w.heap.size w w' := by
  rcases h with ⟨rfl, rfl, rfl, rfl, rfl, rfl⟩ | ⟨rfl, rfl, rfl, rfl, rfl, rfl⟩
  · exact pgrid_32 w
  · exact pgrid_64 w

set_option maxRecDepth 100000 in
set_option maxHeartbeats 1000000 in
theorem pdrop_far {m D : Nat} (t : Int) (hD : 64 < D) (w : World) : Calls Tryd.prog 25 #[.int .u64 (m : Int), .int .i64 (D : Int), .int .i64 t] w fun e w' => e = .returned (.int .u64 0) ∧ w' = w := by
  have p2 : (64 : Int) < (D : Int) := by omega
  go_enter Tryd.func25, Tryd.ntmps25
  go_wp2
  go_ret
  exact ⟨rfl, rfl⟩
set_option maxRecDepth 100000 in
set_option maxHeartbeats 2000000 in
theorem pdrop_some {m D : Nat} (hm : m < 18446744073709551616) (hD : D ≤ 64) (hD0 : D ≠ 0) {t : Int} (ht : t = -1 ∨ t = 0 ∨ t = 1) (w : World) : Calls Tryd.prog 25 #[.int .u64 (m : Int), .int .i64 (D : Int), .int .i64 t] w fun e w' => e = .returned (.int .u64 ((drp m D t : Nat) : Int)) ∧ Below w.heap.size w w' := by
  have p2 : ¬ (64 : Int) < (D : Int) := by omega
  have p3 : ¬ (D : Int) < 0 := by omega
  have p4 : ¬ (D : Int) - 1 < 0 := by omega
  obtain ⟨Z, hZ⟩ : ∃ Z, Z = drp m D t := ⟨_, rfl⟩
  rw [← hZ]
  have HZ : Hid (Z = drp m D t) := hZ
  clear hZ
  go_enter Tryd.func25, Tryd.ntmps25
  go_wp2
  go_quiet (fail)
  have hp : 2 ^ (D - 1) < 18446744073709551616 := Nat.lt_of_le_of_lt (Nat.pow_le_pow_right (by omega) (show D - 1 ≤ 63 by omega)) (by decide)
  have e1 : (m : Int) / 2 ^ D = ((m / 2 ^ D : Nat) : Int) := by push_cast; rfl
  have e2 : (2 : Int) ^ (D - 1) = ((2 ^ (D - 1) : Nat) : Int) := by push_cast; rfl
  have e3 : ((m / 2 ^ D : Nat) : Int) * 2 ^ D = ((m / 2 ^ D * 2 ^ D : Nat) : Int) := by push_cast; rfl
  have e4 : m / 2 ^ D * 2 ^ D + m % 2 ^ D = m := by rw [Nat.mul_comm]; exact Nat.div_add_mod m (2 ^ D)
  have hk : m / 2 ^ D < 9223372036854775808 := by
    rw [Nat.div_lt_iff_lt_mul (Nat.two_pow_pos D), show D = D - 1 + 1 from by omega, Nat.pow_succ]
    have := Nat.two_pow_pos (D - 1)
    generalize 2 ^ (D - 1) = z at *
    omega
  have hZ := HZ.out
  clear HZ
  unfold drp at hZ
  rw [if_neg (show ¬ 64 < D by omega)] at hZ
  rw [e1, e2, e3]
  generalize m / 2 ^ D * 2 ^ D = P at *
  have w1 : IntKind.u64.wrap (P : Int) = (P : Int) := IntWalk.u64_in _ ⟨by omega, by omega⟩
  have w2 : IntKind.u64.wrap ((m : Int) - (P : Int)) = ((m % 2 ^ D : Nat) : Int) := by
    rw [show (m : Int) - (P : Int) = ((m % 2 ^ D : Nat) : Int) from by omega]
    exact IntWalk.u64_in _ ⟨by omega, by omega⟩
  have w3 : IntKind.u64.wrap ((2 ^ (D - 1) : Nat) : Int) = ((2 ^ (D - 1) : Nat) : Int) := by
    generalize 2 ^ (D - 1) = z at *
    exact IntWalk.u64_in _ ⟨by omega, by omega⟩
  rw [w1, w2, w3]
  clear w1 w2 w3 e1 e2 e3 e4 p2 p3 p4 hD hD0
  generalize m % 2 ^ D = R at *
  generalize m / 2 ^ D = k at *
  generalize 2 ^ (D - 1) = H at *
  have q : k % 2 = 0 ∨ k % 2 = 1 := by omega
  have fin : Below w.heap.size w (w.drewN nq) := below_drewN (Below.refl _ _) nq
  have HZ : Hid _ := hZ
  clear hZ
  rcases ht with rfl | rfl | rfl
  all_goals
    go_wp2
    all_goals go_ret
    all_goals simp only [beq_iff_eq, beq_eq_false_iff_ne, ne_eq, true_and] at *
    all_goals have hZ := HZ.out
    all_goals split at hZ
    all_goals first
      | (refine ⟨congrArg (fun z : Int => Ending.returned (.int .u64 z)) (show (k : Int) + 1 = (Z : Int) from ?_), fin⟩; omega)
      | (exfalso; omega)
      | (refine ⟨congrArg (fun z : Int => Ending.returned (.int .u64 z)) (show (k : Int) = (Z : Int) from ?_), fin⟩; omega)
theorem pdrop_any {m D : Nat} (hm : m < 18446744073709551616) (hD0 : D ≠ 0) {t : Int} (ht : t = -1 ∨ t = 0 ∨ t = 1) (w : World) : Calls Tryd.prog 25 #[.int .u64 (m : Int), .int .i64 (D : Int), .int .i64 t] w fun e w' => e = .returned (.int .u64 ((drp m D t : Nat) : Int)) ∧ Below w.heap.size w w' := by
  by_cases h1 : D ≤ 64
  · exact pdrop_some hm h1 hD0 ht w
  · have e : drp m D t = 0 := by unfold drp; rw [if_pos (by omega)]
    rw [e]
    exact (pdrop_far t (by omega) w).mono fun e w' q => ⟨q.1, by rw [q.2]; exact Below.refl _ _⟩

/-- What pack answers. -/
def pkA (f T : Nat) (L : Int) (m : Nat) (p : Int) : Nat := if m = 0 then 0 else match pk f (T : Int) L m p with | some b => b | none => T * 2 ^ f
set_option maxRecDepth 100000 in
set_option maxHeartbeats 1000000 in
theorem ppack_any {s : Int} {g n f T : Nat} {L : Int} (hz : Fz s g n f T L) {m : Nat} {p : Int} (hm : m < 18446744073709551616) (hp0 : -9223372036854775808 ≤ p) (a b : Int) (w : World) (hT : Tab w) : Calls Tryd.prog 24 #[.agg #[.int .i64 s, .int .i64 a, .int .i64 b], .int .u64 (m : Int), .int .i64 p] w fun e w' => e = .returned (.int .u64 ((pkA f T L m p : Nat) : Int)) ∧ Below w.heap.size w w' := by
  have B0 : Hid (Below w.heap.size w (w.alloc (.cells #[.int .i64 s, .int .i64 a, .int .i64 b] 32))) := (Below.refl _ _).alloc (Nat.le_refl _) _
  have G0 : Hid (GrB (w.alloc (.cells #[.int .i64 s, .int .i64 a, .int .i64 b] 32)) w.heap.size _ _ _) := GrB.new w _ _ _ _
  by_cases m0 : m = 0
  · subst m0
    have e : pkA f T L 0 p = 0 := by unfold pkA; rw [if_pos rfl]
    rw [e]
    go_enter Tryd.func24, Tryd.ntmps24
    go_wp2
    go_ret
    exact ⟨rfl, B0.out⟩
  · have q0 : ((m : Int) == 0) = false := by simp; omega
    have HP := fun W hW => pack_z (p := p) hz false hm m0 hp0 W hW
    have HI := fun W => inf_z hz false W
    have HT : Hid (Tab w) := hT
    cases hk : pk f (T : Int) L m p with
    | some y =>
      have e : pkA f T L m p = y := by unfold pkA; rw [if_neg m0, hk]
      rw [e]
      simp only [hk, show sgd g false y = y from rfl] at HP
      clear hk hT
      go_enter Tryd.func24, Tryd.ntmps24
      go_wp2_with fail
      refine (HP _ (HT.out.below B0.out HT.out.pos)).mono ?_
      rintro e w1 ⟨rfl, hb⟩
      have B1 : Hid (Below w.heap.size w w1) := B0.out.trans (hb.mono B0.out.size)
      clear hb
      go_wp2
      go_ret
      exact ⟨rfl, B1.out⟩
    | none =>
      have e : pkA f T L m p = T * 2 ^ f := by unfold pkA; rw [if_neg m0, hk]
      rw [e]
      simp only [show sgd g false (T * 2 ^ f) = T * 2 ^ f from rfl] at HI
      simp only [hk] at HP
      generalize T * 2 ^ f = y at *
      clear hk hT
      go_enter Tryd.func24, Tryd.ntmps24
      go_wp2_with fail
      refine (HP _ (HT.out.below B0.out HT.out.pos)).mono ?_
      rintro e w1 ⟨rfl, hb⟩
      have B1 : Hid (Below w.heap.size w w1) := B0.out.trans (hb.mono B0.out.size)
      have G1 : Hid (GrB w1 w.heap.size _ _ _) := G0.out.step hb
      clear hb B0 G0
      obtain ⟨_, a0, a1, a2, _, _, _⟩ := G1.out
      go_wp2_with fail
      refine (HI _).mono ?_
      rintro e w2 ⟨rfl, hb⟩
      have B2 : Hid (Below w.heap.size w w2) := B1.out.trans (hb.mono B1.out.size)
      clear hb
      go_wp2
      go_ret
      exact ⟨rfl, B2.out⟩
end Go.Proofs.YtohbggdkopmpfaaDoor
