/-
  What the calls of nat.guessWord and quotientWord answer: how often the divisor goes into a part that is one word longer.
-/
import Derived.Test.YtkkgancmodhghaaDoorNatF
import Derived.Test.YtkkgancmodhghaaDoorDiv3
import Derived.Lib.SliceRun
namespace Go.Proofs.YtkkgancmodhghaaDoor
open Go.RowKit

theorem zero_u64 (w : World) : (zeroValue 35).run Tryd.prog w = .ok (.int .u64 0) w := by kernel_rfl

theorem zeroed_row {g N : Nat} : ∀ (n o : Nat) (w : World) (F : Nat → Nat), Row w g N F → Row (w.setCells g o (List.replicate n (.int .u64 0))) g N (fun i => if o ≤ i ∧ i < o + n then 0 else F i)
  | 0, o, w, F, R => ⟨R.row.congr fun i _ => by rw [if_neg (by omega)], fun i => by show (if o ≤ i ∧ i < o + 0 then 0 else F i) < B; rw [if_neg (by omega)]; exact R.ws i⟩
  | n + 1, o, w, F, R => by
    have h := zeroed_row n (o + 1) _ _ (R.set o (r := 0) B_pos)
    rw [List.replicate_succ]
    refine ⟨h.row.congr fun i _ => ?_, fun i => ?_⟩
    · unfold put
      by_cases c : i = o
      · subst c; rw [if_neg (by omega), if_pos rfl, if_pos (by omega)]
      · by_cases d : o ≤ i ∧ i < o + (n + 1)
        · rw [if_pos (by omega), if_pos d]
        · rw [if_neg (by omega), if_neg c, if_neg d]
    · show (if o ≤ i ∧ i < o + (n + 1) then 0 else F i) < B
      split
      · exact B_pos
      · exact R.ws i
theorem zeroed_grown {w0 : World} {g : Nat} : ∀ (n o : Nat) (w : World), w0.grownBy w (some g) → w0.grownBy (w.setCells g o (List.replicate n (.int .u64 0))) (some g)
  | 0, _, _, h => h
  | n + 1, o, w, h => by rw [List.replicate_succ]; exact zeroed_grown n (o + 1) _ (grown_set h _)

/-- The guess of a quotient's word. -/
def gW (hi lo d : Nat) : Nat := if d ≤ hi then B - 1 else (hi * B + lo) / d
theorem gW_lt {hi lo d : Nat} (hlo : lo < B) : gW hi lo d < B := by
  unfold gW
  split
  · unfold B; omega
  · rename_i h
    rw [Nat.div_lt_iff_lt_mul (by omega)]
    have : (hi + 1) * B ≤ d * B := Nat.mul_le_mul_right _ (by omega)
    rw [Nat.add_mul, Nat.one_mul] at this
    rw [Nat.mul_comm B d]
    omega
theorem guess_gen {u a b p c : Nat} : u + a * p + b * (p * c) = u + (b * c + a) * p := by grind
theorem guess_ge {f g : Nat → Nat} (hf : Ws f) {t : Nat} (h0 : g t ≠ 0) (hlt : V f (t + 1 + 1) < V g (t + 1) * B) : V f (t + 1 + 1) / V g (t + 1) ≤ gW (f (t + 1)) (f t) (g t) := by
  have hD : 0 < V g (t + 1) := Nat.lt_of_lt_of_le (Bp_pos t) (V_ge h0)
  unfold gW
  split
  · have : V f (t + 1 + 1) / V g (t + 1) < B := by rw [Nat.div_lt_iff_lt_mul hD, Nat.mul_comm]; exact hlt
    omega
  · have a : g t * B ^ t ≤ V g (t + 1) := by rw [V_succ]; omega
    have p : 0 < g t * B ^ t := Nat.mul_pos (by omega) (Bp_pos t)
    refine Nat.le_trans (Nat.div_le_div_left a p) ?_
    have e : V f (t + 1 + 1) = V f t + (f (t + 1) * B + f t) * B ^ t := by
      rw [V_succ, V_succ, Nat.pow_succ]
      exact guess_gen
    rw [e, Nat.mul_comm (g t), ← Nat.div_div_eq_div_mul, Nat.add_mul_div_right _ _ (Bp_pos t), Nat.div_eq_of_lt (V_lt hf t), Nat.zero_add]
    exact Nat.le_refl _

set_option maxHeartbeats 400000 in
theorem guess_any (hi lo d : Nat) (h1 : hi < B) (h2 : lo < B) (h3 : d < B) (w : World) :
    Calls Tryd.prog 98 #[.int .u64 (hi : Int), .int .u64 (lo : Int), .int .u64 (d : Int)] w fun e w' => e = .returned (.int .u64 ((gW hi lo d : Nat) : Int)) ∧ Below w.heap.size w w' := by
  by_cases c : d ≤ hi
  · have e : gW hi lo d = 18446744073709551615 := by unfold gW; rw [if_pos c]; rfl
    rw [e]
    go_enter Tryd.func98, Tryd.ntmps98
    go_wp2
    go_ret
    exact ⟨rfl, Below.refl _ _⟩
  · have e : gW hi lo d = (hi * B + lo) / d := by unfold gW; rw [if_neg c]
    unfold B at h1 h2 h3 e
    have T := div64_any (hi : Int) (lo : Int) (d : Int) ⟨by omega, by omega⟩ ⟨by omega, by omega⟩ ⟨by omega, by omega⟩ (by omega) w
    have eq : dvQ (hi : Int) (lo : Int) (d : Int) = ((gW hi lo d : Nat) : Int) := by rw [e]; unfold dvQ; rw [Int.natCast_ediv, Int.natCast_add, Int.natCast_mul]; rfl
    rw [eq] at T
    generalize gW hi lo d = gg at *
    generalize dvR (hi : Int) (lo : Int) (d : Int) = rr at *
    clear e eq
    have c' : ¬ ((d : Int) ≤ (hi : Int)) := by omega
    go_enter Tryd.func98, Tryd.ntmps98
    go_wp2_with fail
    refine T.mono ?_
    rintro e wa ⟨rfl, hba⟩
    go_wp2
    go_ret
    exact ⟨rfl, hba⟩

end Go.Proofs.YtkkgancmodhghaaDoor
