/-
  What Value and Half of round answer.
-/
import Derived.Test.YtealnajogkeckaaDoorRnG
namespace Go.Proofs.YtealnajogkeckaaDoor
open Go.RowKit

theorem frc_of {m j t a b : Nat} {e : Int} {z : Nat} (hm : m = 2 ^ z * (2 * j + 1)) (h : FrP z e t a b) : Frc (m / 2 ^ t * 2 ^ a) (1 * 2 ^ b) m e := by
  obtain ⟨h1, h2, h3⟩ := h
  rw [Nat.one_mul]
  by_cases c : 0 ≤ e
  · obtain rfl : t = 0 := by omega
    obtain rfl : b = 0 := by omega
    have ea : e = (a : Int) := by omega
    subst ea
    refine ⟨⟨0, Int.le_refl _, by omega, ?_⟩, 0, rfl, .inr rfl⟩
    unfold ev
    simp
  · obtain ⟨p, rfl⟩ : ∃ p : Nat, e = -(p : Int) := ⟨(-e).toNat, by omega⟩
    obtain rfl : a = 0 := by omega
    have hb : p = t + b := by omega
    have tz : t ≤ z := by omega
    have dv : m / 2 ^ t = 2 ^ (z - t) * (2 * j + 1) := by
      rw [hm, show 2 ^ z = 2 ^ t * 2 ^ (z - t) from by rw [← Nat.pow_add]; congr 1; omega, Nat.mul_assoc, Nat.mul_div_cancel_left _ (Nat.two_pow_pos t)]
    refine ⟨⟨-(p : Int), by omega, Int.le_refl _, ?_⟩, b, rfl, ?_⟩
    · unfold ev
      rw [show (0 - -(p : Int)).toNat = p from by omega, show (-(p : Int) - -(p : Int)).toNat = 0 from by omega, Nat.pow_zero, Nat.mul_one, Nat.mul_one, dv, hm, hb, Nat.pow_add, show 2 ^ z = 2 ^ t * 2 ^ (z - t) from by rw [← Nat.pow_add]; congr 1; omega]
      generalize 2 ^ t = A
      generalize 2 ^ (z - t) = D
      generalize 2 * j + 1 = E
      generalize 2 ^ b = G
      rw [Nat.mul_comm (D * E) (A * G), Nat.mul_comm A G, Nat.mul_assoc, Nat.mul_assoc]
    · rw [Nat.pow_zero, Nat.mul_one, dv]
      by_cases q : t = z
      · left; subst q; rw [Nat.sub_self, Nat.pow_zero, Nat.one_mul]; omega
      · right; omega
theorem frac_ok {m : Nat} {e : Int} (hm : m < 18446744073709551616) (h0 : -1100 ≤ e) (h1 : e ≤ 1000) (w : World) (hT : Tab w) : Calls Tryd.prog 40 #[.int .u64 (m : Int), .int .i64 e] w fun x w' => ∃ (v1 v2 : Value) (N D : Nat), x = .returned (.tuple #[v1, v2]) ∧ NatV w' v1 N ∧ NatV w' v2 D ∧ Frc N D m e ∧ Below w.heap.size w w' := by
  by_cases m0 : m = 0
  · subst m0
    refine (frac_zero e w).mono ?_
    rintro x w' ⟨v2, rfl, n2, b2⟩
    refine ⟨_, v2, 0, 1, rfl, natv_nil w', n2, ⟨⟨min 0 e, by omega, by omega, ?_⟩, 0, rfl, .inr rfl⟩, b2⟩
    unfold ev
    simp
  · refine (frac_some hm m0 h0 h1 w hT).mono ?_
    rintro x w' ⟨v1, v2, t, a, b, rfl, n1, n2, h, hb⟩
    obtain ⟨j, hj, _⟩ := ctz_odd m0 hm
    exact ⟨v1, v2, _, _, rfl, n1, n2, frc_of hj h, hb⟩
set_option maxRecDepth 100000 in
set_option maxHeartbeats 1000000 in
theorem value_err {s b : Int} {k : Int} {w : World} (H : ∀ W, Calls Tryd.prog 39 #[.int .u64 b, .int .i64 s] W fun e w' => e = .returned (.tuple #[.agg #[.bool false, .int .i64 0, .int .u64 0, .int .i64 0], .iface 76 (.int .i64 k)]) ∧ Below W.heap.size W w') : Calls Tryd.prog 17 #[.int .u64 b, .int .i64 s] w fun e w' => e = .returned (.tuple #[.bool false, .slice none 0 0, .slice none 0 0, .iface 76 (.int .i64 k)]) ∧ Below w.heap.size w w' := by
  go_enter Tryd.func17, Tryd.ntmps17
  go_wp2_with fail
  refine (H _).mono ?_
  rintro e w1 ⟨rfl, hb⟩
  have B1 : Hid (Below w.heap.size w w1) := hb
  clear hb
  go_wp2
  exact bodyPost_ret (v := .tuple #[.bool false, .slice none 0 0, .slice none 0 0, .iface 76 (.int .i64 k)]) (by simp [results, Tryd.results17, go_sem]) rfl ⟨rfl, B1.out.alloc B1.out.size _⟩
set_option maxRecDepth 100000 in
set_option maxHeartbeats 1000000 in
theorem half_err {s b : Int} {k : Int} {w : World} (H : ∀ W, Calls Tryd.prog 39 #[.int .u64 b, .int .i64 s] W fun e w' => e = .returned (.tuple #[.agg #[.bool false, .int .i64 0, .int .u64 0, .int .i64 0], .iface 76 (.int .i64 k)]) ∧ Below W.heap.size W w') : Calls Tryd.prog 19 #[.int .u64 b, .int .i64 s] w fun e w' => e = .returned (.tuple #[.slice none 0 0, .slice none 0 0, .iface 76 (.int .i64 k)]) ∧ Below w.heap.size w w' := by
  go_enter Tryd.func19, Tryd.ntmps19
  go_wp2_with fail
  refine (H _).mono ?_
  rintro e w1 ⟨rfl, hb⟩
  have B1 : Hid (Below w.heap.size w w1) := hb
  clear hb
  go_wp2
  exact bodyPost_ret (v := .tuple #[.slice none 0 0, .slice none 0 0, .iface 76 (.int .i64 k)]) (by simp [results, Tryd.results19, go_sem]) rfl ⟨rfl, B1.out.alloc B1.out.size _⟩
set_option maxRecDepth 100000 in
set_option maxHeartbeats 1000000 in
theorem half_neg {s b : Int} {x1 : Int} {x2 : Nat} {x3 : Int} {w : World} (H : ∀ W, Calls Tryd.prog 39 #[.int .u64 b, .int .i64 s] W fun e w' => e = .returned (.tuple #[.agg #[.bool true, .int .i64 x1, .int .u64 (x2 : Int), .int .i64 x3], .nilIface]) ∧ Below W.heap.size W w') : Calls Tryd.prog 19 #[.int .u64 b, .int .i64 s] w fun e w' => e = .returned (.tuple #[.slice none 0 0, .slice none 0 0, .iface 76 (.int .i64 1)]) ∧ Below w.heap.size w w' := by
  go_enter Tryd.func19, Tryd.ntmps19
  go_wp2_with fail
  refine (H _).mono ?_
  rintro e w1 ⟨rfl, hb⟩
  have B1 : Hid (Below w.heap.size w w1) := hb
  clear hb
  go_wp2
  exact bodyPost_ret (v := .tuple #[.slice none 0 0, .slice none 0 0, .iface 76 (.int .i64 1)]) (by simp [results, Tryd.results19, go_sem]) rfl ⟨rfl, B1.out.alloc B1.out.size _⟩
set_option maxRecDepth 100000 in
set_option maxHeartbeats 1000000 in
theorem value_walk {s b : Int} {x0 : Bool} {x1 : Int} {x2 : Nat} {x3 : Int} {w : World} (hT : Tab w) (h2 : x2 < 18446744073709551616) (h0 : -1100 ≤ x3) (h1 : x3 ≤ 1000) (H : ∀ W, Calls Tryd.prog 39 #[.int .u64 b, .int .i64 s] W fun e w' => e = .returned (.tuple #[.agg #[.bool x0, .int .i64 x1, .int .u64 (x2 : Int), .int .i64 x3], .nilIface]) ∧ Below W.heap.size W w') : Calls Tryd.prog 17 #[.int .u64 b, .int .i64 s] w fun e w' => ∃ (v1 v2 : Value) (N D : Nat), e = .returned (.tuple #[.bool x0, v1, v2, .nilIface]) ∧ NatV w' v1 N ∧ NatV w' v2 D ∧ Frc N D x2 x3 ∧ Below w.heap.size w w' := by
  have HR := fun W hW => frac_ok h2 h0 h1 W hW
  have HT : Hid (Tab w) := hT
  clear h2 h0 h1 hT
  go_enter Tryd.func17, Tryd.ntmps17
  go_wp2_with fail
  refine (H _).mono ?_
  rintro e w1 ⟨rfl, hb⟩
  have B2 : Hid (Below w.heap.size w (w1.alloc (.cells #[.bool x0, .int .i64 x1, .int .u64 (x2 : Int), .int .i64 x3] 80))) := hb.alloc hb.size _
  have X2 : Hid (FlB (w1.alloc (.cells #[.bool x0, .int .i64 x1, .int .u64 (x2 : Int), .int .i64 x3] 80)) w1.heap.size _ _ _ _) := FlB.new w1 _ _ _ _ _
  have T := HR _ (HT.out.next B2.out)
  clear hb H HR
  go_wp2_with fail
  refine T.mono ?_
  rintro e w3 ⟨v1, v2, N, D, rfl, n1, n2, hf, hb⟩
  have N3 : Hid (NatV w3 v1 N ∧ NatV w3 v2 D ∧ Frc N D x2 x3 ∧ Below w.heap.size w w3) := ⟨n1, n2, hf, B2.out.trans (hb.mono B2.out.size)⟩
  have X3 : Hid (FlB w3 w1.heap.size _ _ _ _) := X2.out.step hb
  clear hb n1 n2 hf T B2 X2
  obtain ⟨_, a0, _, _, _, _, _, _, _⟩ := X3.out
  go_wp2
  exact bodyPost_ret (v := .tuple #[.bool x0, v1, v2, .nilIface]) (by simp [results, Tryd.results17, go_sem]) rfl ⟨v1, v2, N, D, rfl, N3.out.1, N3.out.2.1, N3.out.2.2.1, N3.out.2.2.2⟩
set_option maxRecDepth 100000 in
set_option maxHeartbeats 1000000 in
theorem half_walk {s b : Int} {x1 : Int} {x2 : Nat} {x3 : Int} {w : World} (hT : Tab w) (h2 : x2 < 9223372036854775808) (h0 : -1099 ≤ x3) (h1 : x3 ≤ 1000) (H : ∀ W, Calls Tryd.prog 39 #[.int .u64 b, .int .i64 s] W fun e w' => e = .returned (.tuple #[.agg #[.bool false, .int .i64 x1, .int .u64 (x2 : Int), .int .i64 x3], .nilIface]) ∧ Below W.heap.size W w') : Calls Tryd.prog 19 #[.int .u64 b, .int .i64 s] w fun e w' => ∃ (v1 v2 : Value) (N D : Nat), e = .returned (.tuple #[v1, v2, .nilIface]) ∧ NatV w' v1 N ∧ NatV w' v2 D ∧ Frc N D (2 * x2 + 1) (x3 - 1) ∧ Below w.heap.size w w' := by
  have HR := fun W hW => frac_ok (m := 2 * x2 + 1) (e := x3 - 1) (by omega) (by omega) (by omega) W hW
  have e1 : 2 * (x2 : Int) + 1 = ((2 * x2 + 1 : Nat) : Int) := by omega
  rw [← e1] at HR
  have HT : Hid (Tab w) := hT
  clear e1 hT
  go_enter Tryd.func19, Tryd.ntmps19
  go_wp2_with fail
  refine (H _).mono ?_
  rintro e w1 ⟨rfl, hb⟩
  have B2 : Hid (Below w.heap.size w (w1.alloc (.cells #[.bool false, .int .i64 x1, .int .u64 (x2 : Int), .int .i64 x3] 80))) := hb.alloc hb.size _
  have X2 : Hid (FlB (w1.alloc (.cells #[.bool false, .int .i64 x1, .int .u64 (x2 : Int), .int .i64 x3] 80)) w1.heap.size _ _ _ _) := FlB.new w1 _ _ _ _ _
  have T := HR _ (HT.out.next B2.out)
  clear hb H HR
  go_wp2_with fail
  refine T.mono ?_
  rintro e w3 ⟨v1, v2, N, D, rfl, n1, n2, hf, hb⟩
  have N3 : Hid (NatV w3 v1 N ∧ NatV w3 v2 D ∧ Frc N D (2 * x2 + 1) (x3 - 1) ∧ Below w.heap.size w w3) := ⟨n1, n2, hf, B2.out.trans (hb.mono B2.out.size)⟩
  clear hb n1 n2 hf T B2 X2
  go_wp2
  exact bodyPost_ret (v := .tuple #[v1, v2, .nilIface]) (by simp [results, Tryd.results19, go_sem]) rfl ⟨v1, v2, N, D, rfl, N3.out.1, N3.out.2.1, N3.out.2.2.1, N3.out.2.2.2⟩
theorem parts_in {s : Int} {g n f T : Nat} {L : Int} (hz : Fz s g n f T L) {m : Nat} (hm : m < n) : mt f m < 9007199254740992 ∧ -1074 ≤ xp f L m ∧ xp f L m ≤ 971 := by
  rcases hz with ⟨_, _, rfl, rfl, _, rfl⟩ | ⟨_, _, rfl, rfl, _, rfl⟩
  · rw [mt_32, xp_32]
    split <;> omega
  · rw [mt_64, xp_64]
    split <;> omega
theorem value_ok {s : Int} {g n f T : Nat} {L : Int} (hz : Fz s g n f T L) {b : Nat} (hb : b < 2 * g) (hm : mg g b < n) (w : World) (hT : Tab w) : Calls Tryd.prog 17 #[.int .u64 (b : Int), .int .i64 s] w fun e w' => ∃ (v1 v2 : Value) (N D : Nat), e = .returned (.tuple #[.bool (ng g b), v1, v2, .nilIface]) ∧ NatV w' v1 N ∧ NatV w' v2 D ∧ Frc N D (mt f (mg g b)) (xp f L (mg g b)) ∧ Below w.heap.size w w' := by
  obtain ⟨p1, p2, p3⟩ := parts_in hz hm
  exact value_walk hT (by omega) (by omega) (by omega) fun W => fin_yes hz hb hm W
theorem half_ok {s : Int} {g n f T : Nat} {L : Int} (hz : Fz s g n f T L) {b : Nat} (hb : b < g) (hm : b < n) (w : World) (hT : Tab w) : Calls Tryd.prog 19 #[.int .u64 (b : Int), .int .i64 s] w fun e w' => ∃ (v1 v2 : Value) (N D : Nat), e = .returned (.tuple #[v1, v2, .nilIface]) ∧ NatV w' v1 N ∧ NatV w' v2 D ∧ Frc N D (hM f b) (hX f L b) ∧ Below w.heap.size w w' := by
  obtain ⟨p1, p2, p3⟩ := parts_in hz hm
  have e1 : mg g b = b := Nat.mod_eq_of_lt hb
  have e2 : ng g b = false := by unfold ng; rw [decide_eq_false_iff_not]; omega
  have H := fun W => fin_yes hz (b := b) (by omega) (by rw [e1]; exact hm) W
  rw [e1, e2] at H
  exact half_walk hT (by omega) (by omega) (by omega) H
theorem half_no {s : Int} {g n f T : Nat} {L : Int} (hz : Fz s g n f T L) {b : Nat} (hb : b < 2 * g) (hg : g ≤ b) (hm : mg g b < n) (w : World) : Calls Tryd.prog 19 #[.int .u64 (b : Int), .int .i64 s] w fun e w' => e = .returned (.tuple #[.slice none 0 0, .slice none 0 0, .iface 76 (.int .i64 1)]) ∧ Below w.heap.size w w' := by
  have e2 : ng g b = true := by unfold ng; rw [decide_eq_true_eq]; exact hg
  have H := fun W => fin_yes hz hb hm W
  rw [e2] at H
  exact half_neg H
end Go.Proofs.YtealnajogkeckaaDoor
