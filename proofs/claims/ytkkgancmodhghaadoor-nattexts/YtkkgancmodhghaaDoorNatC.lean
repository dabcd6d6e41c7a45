/-
  What the calls of nat.compare and of the statements' same, num and of the document's Valid answer.
-/
import Derived.Test.YtkkgancmodhghaaDoorNatS
import Derived.RegionTactic
import Derived.ChangeAlike
import Derived.BigRegion
namespace Go.Proofs.YtkkgancmodhghaaDoor
open Go.RowKit

theorem ret_int {a b : Int} (h : a = b) : Ending.returned (.int .i64 a) = .returned (.int .i64 b) := by rw [h]

set_option maxHeartbeats 1000000 in
theorem compare_any {w : World} {ao : Option Addr} {n c b o : Nat} {f : Nat → Nat} (S : Sl w ao n c b o f) {ao' : Option Addr} {n' c' b' o' : Nat} {f' : Nat → Nat} (S' : Sl w ao' n' c' b' o' f') (t : Top f n) (t' : Top f' n') :
    Calls Tryd.prog 50 #[.slice ao n c, .slice ao' n' c'] w fun e w' => e = .returned (.int .i64 (ord (V f n) (V f' n'))) ∧ Below w.heap.size w w' := by
  have hn : n ≤ maxLen := Nat.le_trans S.le S.cap
  have hn' : n' ≤ maxLen := Nat.le_trans S'.le S'.cap
  unfold maxLen at hn hn'
  rcases Nat.lt_trichotomy n n' with d | d | d
  · have e := ord_lt (len_lt S.ws t' d)
    rw [e]
    have d1 : ((n : Int) == (n' : Int)) = false := beq_eq_false_iff_ne.mpr (by omega)
    clear e
    go_enter Tryd.func50, Tryd.ntmps50
    go_wp2
    go_ret
    exact ⟨rfl, Below.refl _ _⟩
  · subst d
    have HS : Hid (Sl w ao n c b o f) := S
    have HS' : Hid (Sl w ao' n c' b' o' f') := S'
    clear S S' t t'
    go_enter Tryd.func50, Tryd.ntmps50
    go_wp2
    go_loopw [5] (fun i wr => ∃ k : Nat, i = .int .i64 ((k : Int) - 1) ∧ k ≤ n ∧ Below w.heap.size w wr ∧ ∀ j, k ≤ j → j < n → f j = f' j) (fun i _ => (intOf i + 1).toNat)
    case atStart => exact ⟨n, rfl, Nat.le_refl _, Below.refl _ _, fun j a b => absurd a (by omega)⟩
    case round =>
      obtain ⟨k, rfl, hk, al, heq⟩ := hrel
      have HA : Hid (Below w.heap.size w wr) := al
      have HE : Hid (∀ j, k ≤ j → j < n → f j = f' j) := heq
      clear heq
      by_cases c1 : 0 < k
      · obtain rfl := HS.out.addr (by omega)
        obtain rfl := HS'.out.addr (by omega)
        have hc := (HS.out.below al).cell (k - 1) (by omega)
        have hc' := (HS'.out.below al).cell (k - 1) (by omega)
        clear al
        have ix : ((k : Int) - 1).toNat = k - 1 := by omega
        rcases Nat.lt_trichotomy (f (k - 1)) (f' (k - 1)) with q | q | q
        · have r := ord_lt (V_lt_at HS.out.ws q (n := n) (by omega) (fun j a b => HE.out j (by omega) b))
          have HR : Hid (ord (V f n) (V f' n) = -1) := r
          have q1 : (((f (k - 1) : Nat) : Int) == ((f' (k - 1) : Nat) : Int)) = false := beq_eq_false_iff_ne.mpr (by omega)
          have q2 : ((f (k - 1) : Nat) : Int) < ((f' (k - 1) : Nat) : Int) := by omega
          clear r q
          go_wp2
          go_region
          all_goals
            go_wp2
            all_goals
              try go_region
              all_goals
                try go_wp2
                go_ret
                first | exact ⟨by rw [HR.out]; rfl, HA.out.drew⟩ | exact ⟨by rw [HR.out]; rfl, HA.out.drew.drew⟩
        · have q1 : (((f (k - 1) : Nat) : Int) == ((f' (k - 1) : Nat) : Int)) = true := beq_iff_eq.mpr (by omega)
          have HQ : Hid (f (k - 1) = f' (k - 1)) := q
          clear q
          go_wp2
          go_region
          all_goals
            go_wp2
            go_roundw
            case rel =>
              refine ⟨k - 1, by go_num, by omega, HA.out.drew, fun j a b => ?_⟩
              by_cases z : j = k - 1
              · rw [z]; exact HQ.out
              · exact HE.out j (by omega) b
            case measure => simp [intOf]; omega
        · have r := ord_gt (V_lt_at HS'.out.ws q (n := n) (by omega) (fun j a b => (HE.out j (by omega) b).symm))
          have HR : Hid (ord (V f n) (V f' n) = 1) := r
          have q1 : (((f (k - 1) : Nat) : Int) == ((f' (k - 1) : Nat) : Int)) = false := beq_eq_false_iff_ne.mpr (by omega)
          have q2 : ¬ ((f (k - 1) : Nat) : Int) < ((f' (k - 1) : Nat) : Int) := by omega
          clear r q
          go_wp2
          go_region
          all_goals
            go_wp2
            all_goals
              try go_region
              all_goals
                try go_wp2
                go_ret
                first | exact ⟨by rw [HR.out]; rfl, HA.out.drew⟩ | exact ⟨by rw [HR.out]; rfl, HA.out.drew.drew⟩
      · obtain rfl : k = 0 := by omega
        have HR : Hid (ord (V f n) (V f' n) = 0) := ord_eq (V_congr fun i hi => HE.out i (Nat.zero_le _) hi)
        clear HE c1
        go_wp2
        go_ret
        exact ⟨by rw [HR.out]; rfl, HA.out⟩
  · have e := ord_gt (len_lt S'.ws t d)
    rw [e]
    have d1 : ((n : Int) == (n' : Int)) = false := beq_eq_false_iff_ne.mpr (by omega)
    clear e
    go_enter Tryd.func50, Tryd.ntmps50
    go_wp2
    go_ret
    exact ⟨rfl, Below.refl _ _⟩

set_option maxHeartbeats 1000000 in
theorem same_yes {w : World} {ao : Option Addr} {n c b o : Nat} {f : Nat → Nat} (S : Sl w ao n c b o f) {ao' : Option Addr} {c' b' o' : Nat} {f' : Nat → Nat} (S' : Sl w ao' n c' b' o' f') (h : ∀ i, i < n → f i = f' i) :
    Calls Tryd.prog 18 #[.slice ao n c, .slice ao' n c'] w fun e w' => e = .returned (.bool true) ∧ Below w.heap.size w w' := by
  have hn : n ≤ maxLen := Nat.le_trans S.le S.cap
  unfold maxLen at hn
  have HS : Hid (Sl w ao n c b o f) := S
  have HS' : Hid (Sl w ao' n c' b' o' f') := S'
  have HH : Hid (∀ i, i < n → f i = f' i) := h
  clear S S' h
  go_enter Tryd.func18, Tryd.ntmps18
  go_wp2
  go_loopw [5] (fun i wr => ∃ k : Nat, i = .int .i64 k ∧ k ≤ n ∧ Below w.heap.size w wr) (fun i _ => n - (intOf i).toNat)
  case atStart => exact ⟨0, rfl, Nat.zero_le _, Below.refl _ _⟩
  case round =>
    obtain ⟨k, rfl, hk, al⟩ := hrel
    have HA : Hid (Below w.heap.size w wr) := al
    by_cases c1 : k < n
    · obtain rfl := HS.out.addr (by omega)
      obtain rfl := HS'.out.addr (by omega)
      have hc := (HS.out.below al).cell k c1
      have hc' := (HS'.out.below al).cell k c1
      clear al
      rw [← HH.out k c1] at hc'
      go_wp2
      go_region
      all_goals
        go_wp2
        go_roundw
        case rel => exact ⟨k + 1, by go_num, by omega, HA.out.drew⟩
        case measure => simp [intOf]; omega
    · go_wp2
      go_ret
      exact ⟨rfl, HA.out⟩

set_option maxRecDepth 100000 in
theorem num2_nil (w : World) : Calls Tryd.prog 19 #[.nilIface] w fun e w' => e = .returned (.int .i64 0) ∧ w' = w := by
  go_enter Tryd.func19, Tryd.ntmps19
  go_wp2
  go_ret
  exact ⟨rfl, rfl⟩
set_option maxRecDepth 100000 in
theorem num2_errno (k : Int) (w : World) : Calls Tryd.prog 19 #[.iface 82 (.int .i64 k)] w fun e w' => e = .returned (.int .i64 k) ∧ w' = w := by
  have ta : ∀ w, (Instr.typeAssert (.iface 82 (.int .i64 k)) 26 82 true).run Tryd.prog w = .ok (.tuple #[.int .i64 k, .bool true]) w := fun w => by kernel_rfl
  go_enter Tryd.func19, Tryd.ntmps19
  go_wp2
  go_ret
  exact ⟨rfl, rfl⟩

set_option maxHeartbeats 400000 in
theorem rvalid_any {w : World} {ao : Option Addr} {n c b o : Nat} {f : Nat → Nat} (S : Sl w ao n c b o f) :
    Calls Tryd.prog 17 #[.slice ao n c] w fun e w' => e = .returned (.int .i64 (verr f n : Int)) ∧ w' = w := by
  have hn : n ≤ maxLen := Nat.le_trans S.le S.cap
  unfold maxLen at hn
  by_cases c1 : 128 < n
  · have e : verr f n = 20 := by unfold verr; rw [if_pos c1]
    rw [e]
    clear e
    go_enter Tryd.func17, Tryd.ntmps17
    go_wp2
    go_ret
    exact ⟨rfl, rfl⟩
  · by_cases c2 : 0 < n
    · obtain rfl := S.addr c2
      have hc := S.cell (n - 1) (by omega)
      by_cases c3 : f (n - 1) = 0
      · have e : verr f n = 1 := by unfold verr; rw [if_neg c1, if_pos ⟨c2, c3⟩]
        rw [e]
        rw [c3] at hc
        clear e
        go_enter Tryd.func17, Tryd.ntmps17
        go_wp2
        go_ret
        exact ⟨rfl, rfl⟩
      · have e : verr f n = 0 := by unfold verr; rw [if_neg c1, if_neg (fun x => c3 x.2)]
        rw [e]
        clear e
        have c3' : (((f (n - 1) : Nat) : Int) == 0) = false := beq_eq_false_iff_ne.mpr (by omega)
        go_enter Tryd.func17, Tryd.ntmps17
        go_wp2
        go_ret
        exact ⟨rfl, rfl⟩
    · have e : verr f n = 0 := by unfold verr; rw [if_neg c1, if_neg (fun x => c2 x.1)]
      rw [e]
      clear e
      obtain rfl : n = 0 := by omega
      go_enter Tryd.func17, Tryd.ntmps17
      go_wp2
      go_ret
      exact ⟨rfl, rfl⟩

end Go.Proofs.YtkkgancmodhghaaDoor
