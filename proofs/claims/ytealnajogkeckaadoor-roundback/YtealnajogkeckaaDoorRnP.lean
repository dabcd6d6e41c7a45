/-
  Both sides' Value and Half answer the same.
-/
import Derived.Test.YtealnajogkeckaaDoorRnO
import Derived.Test.YtealnajogkeckaaDoorRnL
namespace Go.Proofs.YtealnajogkeckaaDoor
open Go.RowKit

theorem Eqv.none (a b : Int) : Eqv 0 a 0 b := ⟨min a b, by omega, by omega, by unfold ev; rw [Nat.zero_mul, Nat.zero_mul]⟩
theorem Frc.none {N D : Nat} {a : Int} (b : Int) (h : Frc N D 0 a) : Frc N D 0 b := ⟨vE_of_eqv h.1 (Eqv.none a b), h.2⟩
theorem mt_nought (f : Nat) : mt f 0 = 0 := by unfold mt; rw [if_pos (Nat.zero_div _)]
theorem xp_nought (f : Nat) (L : Int) : xp f L 0 = L := by unfold xp; rw [if_pos (Nat.zero_div _)]
theorem err_pv {b : Nat} {s k : Int} (H : ∀ W, Calls Tryd.prog 17 #[.int .u64 (b : Int), .int .i64 s] W fun e w' => e = .returned (.tuple #[.bool false, .slice none 0 0, .slice none 0 0, .iface 76 (.int .i64 k)]) ∧ Below W.heap.size W w') (W : World) : Calls Tryd.prog 17 #[.int .u64 (b : Int), .int .i64 s] W fun x w' => ∃ v1 v2, x = .returned (.tuple #[.bool false, v1, v2, .iface 76 (.int .i64 k)]) ∧ NatV w' v1 0 ∧ NatV w' v2 0 ∧ Below W.heap.size W w' :=
  (H W).mono fun _ w' q => ⟨_, _, q.1, natv_nil w', natv_nil w', q.2⟩
theorem err_rv {b : Nat} {s k : Int} (H : ∀ W, Calls Tryd.prog 18 #[.int .u64 (b : Int), .int .i64 s] W fun e w' => e = .returned (.tuple #[.bool false, .slice none 0 0, .slice none 0 0, .int .i64 k]) ∧ Below W.heap.size W w') (W : World) : Calls Tryd.prog 18 #[.int .u64 (b : Int), .int .i64 s] W fun x w' => ∃ v1 v2, x = .returned (.tuple #[.bool false, v1, v2, .int .i64 k]) ∧ NatV w' v1 0 ∧ NatV w' v2 0 ∧ Below W.heap.size W w' :=
  (H W).mono fun _ w' q => ⟨_, _, q.1, natv_nil w', natv_nil w', q.2⟩
theorem err_ph {b : Nat} {s k : Int} (H : ∀ W, Calls Tryd.prog 19 #[.int .u64 (b : Int), .int .i64 s] W fun e w' => e = .returned (.tuple #[.slice none 0 0, .slice none 0 0, .iface 76 (.int .i64 k)]) ∧ Below W.heap.size W w') (W : World) : Calls Tryd.prog 19 #[.int .u64 (b : Int), .int .i64 s] W fun x w' => ∃ v1 v2, x = .returned (.tuple #[v1, v2, .iface 76 (.int .i64 k)]) ∧ NatV w' v1 0 ∧ NatV w' v2 0 ∧ Below W.heap.size W w' :=
  (H W).mono fun _ w' q => ⟨_, _, q.1, natv_nil w', natv_nil w', q.2⟩
theorem err_rh {b : Nat} {s k : Int} (H : ∀ W, Calls Tryd.prog 20 #[.int .u64 (b : Int), .int .i64 s] W fun e w' => e = .returned (.tuple #[.slice none 0 0, .slice none 0 0, .int .i64 k]) ∧ Below W.heap.size W w') (W : World) : Calls Tryd.prog 20 #[.int .u64 (b : Int), .int .i64 s] W fun x w' => ∃ v1 v2, x = .returned (.tuple #[v1, v2, .int .i64 k]) ∧ NatV w' v1 0 ∧ NatV w' v2 0 ∧ Below W.heap.size W w' :=
  (H W).mono fun _ w' q => ⟨_, _, q.1, natv_nil w', natv_nil w', q.2⟩
/-- A size, bits that it has or not. -/
theorem bits_cases (b : Nat) (hb : b < 18446744073709551616) (s : Int) : Sn s ∨ (s = 32 ∧ 4294967296 ≤ b) ∨ ∃ g n f T L, Fz s g n f T L ∧ b < 2 * g := by
  rcases fz_of s with h | ⟨g, n, f, T, L, hz⟩
  · exact .inl h
  · have hz' := hz
    rcases hz with ⟨h1, h2, _⟩ | ⟨h1, h2, _⟩
    · by_cases q : b < 4294967296
      · exact .inr (.inr ⟨g, n, f, T, L, hz', by omega⟩)
      · exact .inr (.inl ⟨h1, by omega⟩)
    · exact .inr (.inr ⟨g, n, f, T, L, hz', by omega⟩)
theorem rfin_inf {s : Int} {g n f T : Nat} {L : Int} (hz : Fz s g n f T L) {b : Nat} (hb : b < 2 * g) (hm : ¬ mg g b < n) : ∃ (x0 : Bool) (x1 x2 x3 : Int), ∀ W, Calls Tryd.prog 41 #[.int .u64 (b : Int), .int .i64 s] W fun e w' => e = .returned (.tuple #[.agg #[.bool x0, .int .i64 x1, .int .u64 x2, .int .i64 x3], .int .i64 1]) ∧ Below W.heap.size W w' := by
  have H := fun W => runp_z hz hb W
  have n0 : 0 < n := by rcases hz with ⟨_, _, h, _⟩ | ⟨_, _, h, _⟩ <;> omega
  rcases cl_cases n (mg g b) with ⟨q, k⟩ | ⟨_, _, k⟩ | ⟨_, q, k⟩ | ⟨q, k⟩
  · omega
  · omega
  · rw [k] at H
    exact ⟨_, _, _, _, fun W => rfin_three H⟩
  · rw [k] at H
    exact ⟨_, _, _, _, fun W => rfin_four H⟩
theorem rfin_yes {s : Int} {g n f T : Nat} {L : Int} (hz : Fz s g n f T L) {b : Nat} (hb : b < 2 * g) (hm : mg g b < n) (W : World) : Calls Tryd.prog 41 #[.int .u64 (b : Int), .int .i64 s] W fun e w' => e = .returned (.tuple #[.agg #[.bool (ng g b), .int .i64 (cl n (mg g b)), .int .u64 ((uM n f (mg g b) : Nat) : Int), .int .i64 (uE n f L (mg g b))], .int .i64 0]) ∧ Below W.heap.size W w' := by
  have H := fun W => runp_z hz hb W
  have e0 : uN g n b = ng g b := by
    unfold uN
    rw [if_neg]
    intro q
    rcases cl_cases n (mg g b) with ⟨_, k⟩ | ⟨_, _, k⟩ | ⟨_, _, k⟩ | ⟨_, k⟩ <;> omega
  rw [e0] at H
  refine rfin_ok ?_ ?_ H
  · rcases cl_cases n (mg g b) with ⟨_, k⟩ | ⟨_, _, k⟩ | ⟨_, q, k⟩ | ⟨q, k⟩
    · rw [k]; decide
    · rw [k]; decide
    · omega
    · omega
  · rcases cl_cases n (mg g b) with ⟨_, k⟩ | ⟨_, _, k⟩ | ⟨_, q, k⟩ | ⟨q, k⟩
    · rw [k]; decide
    · rw [k]; decide
    · omega
    · omega
theorem value_both (b : Nat) (hb : b < 18446744073709551616) (s : Int) : ∃ (c : Bool) (k N D : Nat), (∀ W, Tab W → Calls Tryd.prog 17 #[.int .u64 (b : Int), .int .i64 s] W fun x w' => ∃ v1 v2, x = .returned (.tuple #[.bool c, v1, v2, errV k]) ∧ NatV w' v1 N ∧ NatV w' v2 D ∧ Below W.heap.size W w') ∧ (∀ W, Calls Tryd.prog 18 #[.int .u64 (b : Int), .int .i64 s] W fun x w' => ∃ v1 v2, x = .returned (.tuple #[.bool c, v1, v2, .int .i64 (k : Int)]) ∧ NatV w' v1 N ∧ NatV w' v2 D ∧ Below W.heap.size W w') := by
  rcases bits_cases b hb s with h | ⟨rfl, h⟩ | ⟨g, n, f, T, L, hz, hb2⟩
  · exact ⟨false, 5, 0, 0, fun W _ => err_pv (fun W => value_err fun W => fin_size h _ W) W, fun W => err_rv (fun W => rvalue_err (by decide) fun W => rfin_err (by decide) fun W => runp_no h _ W) W⟩
  · exact ⟨false, 1, 0, 0, fun W _ => err_pv (fun W => value_err fun W => fin_big h W) W, fun W => err_rv (fun W => rvalue_err (by decide) fun W => rfin_err (by decide) fun W => runp_big h W) W⟩
  · by_cases hm : mg g b < n
    · obtain ⟨p1, p2, p3⟩ := parts_in hz hm
      refine ⟨ng g b, 0, exN (mt f (mg g b)) (xp f L (mg g b)), exD (mt f (mg g b)) (xp f L (mg g b)), fun W hW => ?_, fun W => ?_⟩
      · refine (value_ok hz hb2 hm W hW).mono ?_
        rintro x w' ⟨v1, v2, N, D, h1, n1, n2, hf, h2⟩
        obtain ⟨rfl, rfl⟩ := hf.uniq (ex_frc _ _)
        exact ⟨v1, v2, h1, n1, n2, h2⟩
      · have H := fun W => rfin_yes hz hb2 hm W
        have fin : ∀ {N D : Nat}, Frc N D (uM n f (mg g b)) (uE n f L (mg g b)) → Frc N D (mt f (mg g b)) (xp f L (mg g b)) := by
          intro N D h
          rcases cl_cases n (mg g b) with ⟨q, k⟩ | ⟨_, _, k⟩ | ⟨_, q, k⟩ | ⟨q, k⟩
          · unfold uM uE at h
            rw [k, if_neg (by decide), if_neg (by decide)] at h
            rw [q, mt_nought]
            exact h.none _
          · unfold uM uE at h
            rw [k, if_pos rfl, if_pos rfl] at h
            exact h
          · omega
          · omega
        have b1 : uM n f (mg g b) < 18446744073709551616 := by unfold uM; split <;> omega
        have b2 : -1100 ≤ uE n f L (mg g b) ∧ uE n f L (mg g b) ≤ 1000 := by unfold uE; split <;> omega
        refine (rvalue_walk (w := W) b1 b2.1 b2.2 H).mono ?_
        rintro x w' ⟨v1, v2, N, D, h1, n1, n2, hf, h2⟩
        obtain ⟨rfl, rfl⟩ := (fin hf).uniq (ex_frc _ _)
        exact ⟨v1, v2, h1, n1, n2, h2⟩
    · obtain ⟨x0, x1, x2, x3, H⟩ := rfin_inf hz hb2 hm
      exact ⟨false, 1, 0, 0, fun W _ => err_pv (fun W => value_err fun W => fin_no hz hb2 hm W) W, fun W => err_rv (fun W => rvalue_err (by decide) H) W⟩
theorem half_both (b : Nat) (hb : b < 18446744073709551616) (s : Int) : ∃ (k N D : Nat), (∀ W, Tab W → Calls Tryd.prog 19 #[.int .u64 (b : Int), .int .i64 s] W fun x w' => ∃ v1 v2, x = .returned (.tuple #[v1, v2, errV k]) ∧ NatV w' v1 N ∧ NatV w' v2 D ∧ Below W.heap.size W w') ∧ (∀ W, Calls Tryd.prog 20 #[.int .u64 (b : Int), .int .i64 s] W fun x w' => ∃ v1 v2, x = .returned (.tuple #[v1, v2, .int .i64 (k : Int)]) ∧ NatV w' v1 N ∧ NatV w' v2 D ∧ Below W.heap.size W w') := by
  rcases bits_cases b hb s with h | ⟨rfl, h⟩ | ⟨g, n, f, T, L, hz, hb2⟩
  · exact ⟨5, 0, 0, fun W _ => err_ph (fun W => half_err fun W => fin_size h _ W) W, fun W => err_rh (fun W => rhalf_err (by decide) fun W => rfin_err (by decide) fun W => runp_no h _ W) W⟩
  · exact ⟨1, 0, 0, fun W _ => err_ph (fun W => half_err fun W => fin_big h W) W, fun W => err_rh (fun W => rhalf_err (by decide) fun W => rfin_err (by decide) fun W => runp_big h W) W⟩
  · by_cases hm : mg g b < n
    · by_cases hg : g ≤ b
      · have e2 : ng g b = true := by unfold ng; rw [decide_eq_true_eq]; exact hg
        have H := fun W => rfin_yes hz hb2 hm W
        rw [e2] at H
        exact ⟨1, 0, 0, fun W _ => err_ph (fun W => half_no hz hb2 hg hm W) W, fun W => err_rh (fun W => rhalf_neg H) W⟩
      · have e1 : mg g b = b := Nat.mod_eq_of_lt (by omega)
        have e2 : ng g b = false := by unfold ng; rw [decide_eq_false_iff_not]; omega
        have H := fun W => rfin_yes hz hb2 hm W
        rw [e1] at hm
        rw [e1, e2] at H
        obtain ⟨p1, p2, p3⟩ := parts_in hz hm
        refine ⟨0, exN (hM f b) (hX f L b), exD (hM f b) (hX f L b), fun W hW => ?_, fun W => ?_⟩
        · refine (half_ok hz (by omega) hm W hW).mono ?_
          rintro x w' ⟨v1, v2, N, D, h1, n1, n2, hf, h2⟩
          obtain ⟨rfl, rfl⟩ := hf.uniq (ex_frc _ _)
          exact ⟨v1, v2, h1, n1, n2, h2⟩
        · rcases cl_cases n b with ⟨q, k⟩ | ⟨_, _, k⟩ | ⟨_, q, k⟩ | ⟨q, k⟩
          · rw [k] at H
            unfold uM uE at H
            rw [k, if_neg (by decide), if_neg (by decide), show ((0 : Nat) : Int) = 0 from rfl] at H
            refine (rhalf_zero (w := W) hz H).mono ?_
            rintro x w' ⟨v1, v2, N, D, h1, n1, n2, hf, h2⟩
            have e3 : hM f b = 1 ∧ hX f L b = L - 1 := by unfold hM hX; rw [q, mt_nought, xp_nought]; exact ⟨rfl, rfl⟩
            rw [e3.1, e3.2]
            obtain ⟨rfl, rfl⟩ := hf.uniq (ex_frc _ _)
            exact ⟨v1, v2, h1, n1, n2, h2⟩
          · rw [k] at H
            unfold uM uE at H
            rw [k, if_pos rfl, if_pos rfl] at H
            refine (rhalf_fine (w := W) hz (by decide) (by omega) (by omega) (by omega) H).mono ?_
            rintro x w' ⟨v1, v2, N, D, h1, n1, n2, hf, h2⟩
            obtain ⟨rfl, rfl⟩ := hf.uniq (ex_frc _ _)
            exact ⟨v1, v2, h1, n1, n2, h2⟩
          · omega
          · omega
    · obtain ⟨x0, x1, x2, x3, H⟩ := rfin_inf hz hb2 hm
      exact ⟨1, 0, 0, fun W _ => err_ph (fun W => half_err fun W => fin_no hz hb2 hm W) W, fun W => err_rh (fun W => rhalf_err (by decide) H) W⟩
end Go.Proofs.YtealnajogkeckaaDoor
