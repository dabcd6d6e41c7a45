/-
  Holds: VNatS.
-/
import Derived.Test.YtjagnfddmlkalaaGreatDoorRows
import Derived.Laws.Externs
import Derived.WalkKit
import Derived.WalkSpells
import Derived.WalkLawsBesides
import Derived.Lib.Mul64
import Derived.Deep.OwnRows
import Derived.Laws.CopyOwn
import Derived.Test.YtjagnfddmlkalaaGreatDoorKj3
set_option maxRecDepth 100000
set_option maxHeartbeats 4000000
namespace Go.Proofs.YtjagnfddmlkalaaGreatDoor
open Go.RowKit
structure Sl (w : World) (ao : Option Addr) (n c : Nat) (b o : Nat) (f : Nat → Nat) : Prop where
 le : n ≤ c
 cap : c ≤ maxLen
 addr : 0 < n → ao = some ⟨b, o, none⟩
 blk : 0 < n → b < w.heap.size
 cell : ∀ i, i < n → w.cell? ⟨b, o + i, none⟩ = some (.int .u64 (f i : Int))
 ws : Ws f
theorem Sl.below {w w' : World} {ao : Option Addr} {n c b o : Nat} {f : Nat → Nat} (S : Sl w ao n c b o f) (hb : Below w.heap.size w w') : Sl w' ao n c b o f :=
 ⟨S.le, S.cap, S.addr, fun h => Nat.lt_of_lt_of_le (S.blk h) hb.size, fun i hi => (hb.cell (p := ⟨b, o + i, none⟩) (S.blk (by omega))).trans (S.cell i hi), S.ws⟩
def errV : Nat → Value
 | 0 => .nilIface
 | k + 1 => .iface 42 (.int .i64 ((k + 1 : Nat) : Int))
def verr (f : Nat → Nat) (n : Nat) : Nat := if 128 < n then 20 else if 0 < n ∧ f (n - 1) = 0 then 1 else 0
theorem verr_ok {f : Nat → Nat} {n : Nat} (h : n ≤ 128) (t : Top f n) : verr f n = 0 := by
 unfold verr
 rw [if_neg (by omega), if_neg]
 rintro ⟨a, b⟩
 rcases t with t | t
 · omega
 · exact t b
theorem valid_any {w : World} {ao : Option Addr} {n c b o : Nat} {f : Nat → Nat} (S : Sl w ao n c b o f) :
 Calls Tryz.prog 93 #[.slice ao n c] w fun e w' => e = .returned (errV (verr f n)) ∧ Below w.heap.size w w' := by
 have hn : n ≤ maxLen := Nat.le_trans S.le S.cap
 unfold maxLen at hn
 by_cases c1 : 128 < n
 · have e : errV (verr f n) = .iface 42 (.int .i64 20) := by unfold verr; rw [if_pos c1]; rfl
   rw [e]
   clear e
   have c1' : (128 : Int) < (n : Int) := by omega
   go_enter Tryz.func93, Tryz.ntmps93
   go_wp2
   go_ret
   exact ⟨rfl, Below.refl _ _⟩
 · by_cases c2 : 0 < n
   · obtain rfl := S.addr c2
     have hc := S.cell (n - 1) (by omega)
     by_cases c3 : f (n - 1) = 0
     · have e : errV (verr f n) = .iface 42 (.int .i64 1) := by unfold verr; rw [if_neg c1, if_pos ⟨c2, c3⟩]; rfl
       rw [e]
       rw [c3] at hc
       clear e
       go_enter Tryz.func93, Tryz.ntmps93
       go_wp2
       go_ret
       exact ⟨rfl, Below.refl _ _⟩
     · have e : errV (verr f n) = .nilIface := by unfold verr; rw [if_neg c1, if_neg (fun x => c3 x.2)]; rfl
       rw [e]
       clear e
       have c3' : (((f (n - 1) : Nat) : Int) == 0) = false := beq_eq_false_iff_ne.mpr (by omega)
       go_enter Tryz.func93, Tryz.ntmps93
       go_wp2
       go_ret
       exact ⟨rfl, Below.refl _ _⟩
   · have e : errV (verr f n) = .nilIface := by unfold verr; rw [if_neg c1, if_neg (fun x => c2 x.1)]; rfl
     rw [e]
     clear e
     obtain rfl : n = 0 := by omega
     go_enter Tryz.func93, Tryz.ntmps93
     go_wp2
     go_ret
     exact ⟨rfl, Below.refl _ _⟩
def verr2 (f : Nat → Nat) (n : Nat) (g : Nat → Nat) (m : Nat) : Nat := if verr f n = 0 then verr g m else verr f n
theorem verr2_ok {f g : Nat → Nat} {n m : Nat} (h : n ≤ 128) (t : Top f n) (h' : m ≤ 128) (t' : Top g m) : verr2 f n g m = 0 := by
 unfold verr2; rw [if_pos (verr_ok h t), verr_ok h' t']
theorem both_any {w : World} {ao : Option Addr} {n c b o : Nat} {f : Nat → Nat} (S : Sl w ao n c b o f) {ao' : Option Addr} {n' c' b' o' : Nat} {f' : Nat → Nat} (S' : Sl w ao' n' c' b' o' f') :
    Calls Tryz.prog 92 #[.slice ao n c, .slice ao' n' c'] w fun e w' => e = .returned (errV (verr2 f n f' n')) ∧ Below w.heap.size w w' := by
  have h1 := valid_any S
  cases q : verr f n with
  | zero =>
    rw [q] at h1
    have e : verr2 f n f' n' = verr f' n' := by unfold verr2; rw [if_pos q]
    rw [e]
    clear q e
    go_enter Tryz.func92, Tryz.ntmps92
    go_wp2_with fail
    refine h1.mono ?_
    rintro e wa ⟨rfl, hba⟩
    unfold errV
    have S2 := S'.below hba
    go_wp2_with fail
    refine (valid_any S2).mono ?_
    rintro e wb ⟨rfl, hbb⟩
    go_wp2
    go_ret
    exact ⟨rfl, hba.trans (hbb.mono hba.size)⟩
  | succ k =>
    rw [q] at h1
    have e : verr2 f n f' n' = k + 1 := by unfold verr2; rw [if_neg (by omega), q]
    rw [e]
    clear q e
    go_enter Tryz.func92, Tryz.ntmps92
    go_wp2_with fail
    refine h1.mono ?_
    rintro e wa ⟨rfl, hba⟩
    unfold errV
    go_wp2
    go_ret
    exact ⟨rfl, hba⟩
theorem trim_any {w : World} {ao : Option Addr} {n c b o : Nat} {f : Nat → Nat} (S : Sl w ao n c b o f) :
    Calls Tryz.prog 95 #[.slice ao n c] w fun e w' => e = .returned (.slice ao (tl f n) (tl f n)) ∧ w' = w := by
  have hn : n ≤ maxLen := Nat.le_trans S.le S.cap
  have hnc := S.le
  unfold maxLen at hn
  have HS : Hid (Sl w ao n c b o f) := S
  clear S
  go_enter Tryz.func95, Tryz.ntmps95
  go_wp2
  go_loop [3] (fun i => ∃ k : Nat, i = .int .i64 k ∧ k ≤ n ∧ tl f n = tl f k) (fun i => (intOf i).toNat)
  case atStart => exact ⟨n, rfl, Nat.le_refl _, rfl⟩
  case round =>
    obtain ⟨k, rfl, hk, htl⟩ := hrel
    have HT : Hid (tl f n = tl f k) := htl
    clear htl
    by_cases c1 : 0 < k
    · obtain rfl := HS.out.addr (by omega)
      have hc := HS.out.cell (k - 1) (by omega)
      by_cases c3 : f (k - 1) = 0
      · rw [c3] at hc
        have HT2 : Hid (tl f n = tl f (k - 1)) := by
          have a := tl_zero (f := f) (n := k - 1) c3
          rw [show k - 1 + 1 = k by omega] at a
          exact HT.out.trans a
        clear c3
        go_wp2
        go_round
        case rel => exact ⟨k - 1, by go_num, by omega, HT2.out⟩
        case measure => simp [intOf]; omega
      · have c3' : (((f (k - 1) : Nat) : Int) == 0) = false := beq_eq_false_iff_ne.mpr (by omega)
        have HT2 : Hid (tl f n = k) := by
          have a := tl_stop (f := f) (n := k - 1) c3
          rw [show k - 1 + 1 = k by omega] at a
          exact HT.out.trans a
        clear c3
        go_wp2
        go_ret
        exact ⟨by rw [HT2.out]; rfl, rfl⟩
    · obtain rfl : k = 0 := by omega
      have HT2 : Hid (tl f n = 0) := HT.out
      clear HT c1
      cases ao with
      | none =>
        go_wp2
        go_ret
        exact ⟨by rw [HT2.out]; rfl, rfl⟩
      | some a =>
        go_wp2
        go_ret
        exact ⟨by rw [HT2.out]; rfl, rfl⟩
theorem fit_ok {w : World} {ao : Option Addr} {n c b o : Nat} {f : Nat → Nat} (S : Sl w ao n c b o f) (h : tl f n ≤ 128) :
 Calls Tryz.prog 91 #[.slice ao n c] w fun e w' => e = .returned (.tuple #[.slice ao (tl f n) (tl f n), .nilIface]) ∧ w' = w := by
 generalize hm : tl f n = m at *
 have h1 := trim_any S
 rw [hm] at h1
 clear hm
 go_enter Tryz.func91, Tryz.ntmps91
 go_wp2_with fail
 refine h1.mono ?_
 rintro e wa ⟨rfl, rfl⟩
 go_wp2
 refine bodyPost_ret (v := .tuple #[.slice ao m m, .nilIface]) (by simp [results, Tryz.results91, go_sem]) rfl ⟨rfl, rfl⟩
end Go.Proofs.YtjagnfddmlkalaaGreatDoor
