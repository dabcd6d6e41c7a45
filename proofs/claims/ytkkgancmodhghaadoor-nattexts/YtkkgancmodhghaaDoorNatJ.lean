/-
  What the calls of nat.Div, Of and math/bits.Len answer where nothing is refused.
-/
import Derived.Test.YtkkgancmodhghaaDoorNatI
namespace Go.Proofs.YtkkgancmodhghaaDoor
open Go.RowKit

theorem natv_pos {w : World} {ao : Option Addr} {n c b o : Nat} {f : Nat → Nat} (S : Sl w ao n c b o f) (h : V f n ≠ 0) : 0 < n := by
  rcases Nat.eq_zero_or_pos n with q | q
  · subst q; exact absurd rfl h
  · exact q

set_option maxHeartbeats 1000000 in
theorem div_ok {w : World} (hT : Tab w) {va vb : Value} {X Y : Nat} (ha : NatV w va X) (hb : NatV w vb Y) (h : Y ≠ 0) :
    Calls Tryd.prog 24 #[va, vb] w fun e w' => ∃ v1 v2, e = .returned (.tuple #[v1, v2, .nilIface]) ∧ NatV w' v1 (X / Y) ∧ NatV w' v2 (X % Y) ∧ Below w.heap.size w w' := by
  obtain ⟨ao, n, c, b, o, f, rfl, S, t, rfl, hn⟩ := ha
  obtain ⟨bo, m, cb, bb, ob, G, rfl, S', t', rfl, hm⟩ := hb
  have hm0 := natv_pos S' h
  have h1 := both_any S S'
  rw [verr2_ok hn t hm t'] at h1
  unfold errV at h1
  have hz : ((m : Int) == 0) = false := beq_eq_false_iff_ne.mpr (by omega)
  go_enter Tryd.func24, Tryd.ntmps24
  go_wp2_with fail
  refine h1.mono ?_
  rintro e wa ⟨rfl, hba⟩
  have T := divide_any (hT.next hba) (S.below hba) hn (S'.below hba) hm hm0 (t'.resolve_left (by omega))
  go_wp2_with fail
  refine T.mono ?_
  rintro e wb ⟨v1, v2, rfl, n1, n2, hbb⟩
  go_wp2
  refine bodyPost_ret (v := .tuple #[v1, v2, .nilIface]) (by simp [results, Tryd.results24, go_sem]) rfl ⟨_, _, rfl, n1, n2, hba.trans (hbb.mono hba.size)⟩

theorem nat_one {x : Nat} : V (fun i => if i = 0 then x else 0) 1 = x := by rw [V_succ, V_zero, Nat.pow_zero]; simp

/-- A new slice of one word. -/
theorem natv_lit {w : World} {x : Nat} (hx : x < B) (h0 : x ≠ 0) (t : TypeId) : NatV (w.alloc (.cells #[.int .u64 (x : Int)] t)) (.slice (some ⟨w.heap.size, 0, none⟩) 1 1) x := by
  refine ⟨_, 1, 1, w.heap.size, 0, fun i => if i = 0 then x else 0, rfl, ⟨Nat.le_refl _, by unfold maxLen; omega, fun _ => rfl, fun _ => by simp, fun i hi => ?_, fun i => ?_⟩, Or.inr h0, nat_one, by omega⟩
  · obtain rfl : i = 0 := by omega
    simp
  · show (if i = 0 then x else 0) < B
    split
    · exact hx
    · exact B_pos
theorem natv_nil (w : World) : NatV w (.slice none 0 0) 0 :=
  ⟨none, 0, 0, 0, 0, fun _ => 0, rfl, ⟨Nat.le_refl _, Nat.zero_le _, fun h => absurd h (by omega), fun h => absurd h (by omega), fun i h => absurd h (by omega), fun _ => B_pos⟩, Or.inl rfl, rfl, by omega⟩

theorem of_any (x : Nat) (hx : x < B) (w : World) :
    Calls Tryd.prog 30 #[.int .u64 (x : Int)] w fun e w' => ∃ v, e = .returned v ∧ NatV w' v x ∧ Below w.heap.size w w' := by
  by_cases c : x = 0
  · subst c
    go_enter Tryd.func30, Tryd.ntmps30
    go_wp2
    go_ret
    exact ⟨_, rfl, natv_nil w, Below.refl _ _⟩
  · have c' : ((x : Int) == 0) = false := beq_eq_false_iff_ne.mpr (by omega)
    go_enter Tryd.func30, Tryd.ntmps30
    go_wp2
    go_ret
    exact ⟨_, rfl, natv_lit hx c _, (Below.refl _ _).alloc (Nat.le_refl _) _⟩

theorem len_any (x : Nat) (hx : x < B) (w : World) :
    Calls Tryd.prog 60 #[.int .u64 (x : Int)] w fun e w' => e = .returned (.int .i64 (blen (x : Int))) ∧ w' = w := by
  unfold B at hx
  have T := len64_any (x : Int) ⟨by omega, by omega⟩ w
  go_enter Tryd.func60, Tryd.ntmps60
  go_wp2_with fail
  refine T.mono ?_
  rintro e wa ⟨rfl, rfl⟩
  go_wp2
  go_ret
  exact ⟨rfl, rfl⟩

end Go.Proofs.YtkkgancmodhghaaDoor
