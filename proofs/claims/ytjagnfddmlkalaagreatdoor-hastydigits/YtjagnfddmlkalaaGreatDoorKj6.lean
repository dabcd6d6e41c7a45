/-
  Holds: VNatW.
-/
import Derived.Test.YtjagnfddmlkalaaGreatDoorRows
import Derived.Laws.Externs
import Derived.WalkKit
import Derived.WalkSpells
import Derived.WalkLawsBesides
import Derived.Lib.Mul64
import Derived.Deep.OwnRows
import Derived.Laws.CopyOwn
import Derived.BigQuiet
import Derived.Deep.RegionHeld3
import Derived.Test.YtjagnfddmlkalaaGreatDoorKj4
import Derived.Test.YtjagnfddmlkalaaGreatDoorKj5
set_option maxRecDepth 100000
set_option maxHeartbeats 4000000
namespace Go.Proofs.YtjagnfddmlkalaaGreatDoor
open Go.RowKit
structure Row (w : World) (g N : Nat) (F : Nat → Nat) : Prop where
 row : w.rowIs g 22 N (fun i => .int .u64 (F i : Int))
 ws : Ws F
theorem Row.set {w : World} {g N : Nat} {F : Nat → Nat} (R : Row w g N F) (i : Nat) {r : Nat} (hr : r < B) : Row (w.setCell ⟨g, i, none⟩ (.int .u64 (r : Int))) g N (put F i r) := by
 refine ⟨(R.row.set i (.int .u64 (r : Int))).congr fun j hj => ?_, put_Ws R.ws hr⟩
 unfold put
 by_cases c : j = i
 · rw [if_pos c, if_pos c]
 · rw [if_neg c, if_neg c]
theorem Row.drew {w : World} {g N : Nat} {F : Nat → Nat} (R : Row w g N F) : Row w.drew g N F := ⟨R.row.drew, R.ws⟩
theorem Row.kept {w w' : World} {g g' N : Nat} {F : Nat → Nat} (R : Row w g N F) (h : w.grownBy w' (some g')) (hne : g ≠ g') : Row w' g N F :=
 ⟨R.row.of_block (h.block g R.row.lt (fun e => hne (Option.some.inj e))), R.ws⟩
theorem Row.below {w w' : World} {g N : Nat} {F : Nat → Nat} (R : Row w g N F) (h : Below w.heap.size w w') : Row w' g N F :=
 ⟨R.row.of_block (h.block g R.row.lt), R.ws⟩
theorem Row.sl {w : World} {g N : Nat} {F : Nat → Nat} (R : Row w g N F) {o n c : Nat} (h : o + n ≤ N) (hc : n ≤ c) (hm : c ≤ maxLen) : Sl w (some ⟨g, o, none⟩) n c g o (fun i => F (o + i)) :=
 ⟨hc, hm, fun _ => rfl, fun _ => R.row.lt, fun i hi => R.row.cell (by omega), fun i => R.ws _⟩
theorem Sl.kept {w w' : World} {ao : Option Addr} {n c b o g : Nat} {f : Nat → Nat} (S : Sl w ao n c b o f) (h : w.grownBy w' (some g)) (hne : 0 < n → b ≠ g) : Sl w' ao n c b o f :=
 ⟨S.le, S.cap, S.addr, fun q => Nat.lt_of_lt_of_le (S.blk q) h.size, fun i hi => by
  rw [World.cell?_of_block (w := w) (h.block b (S.blk (by omega)) (fun e => hne (by omega) (Option.some.inj e)))]; exact S.cell i hi, S.ws⟩
theorem grown_set {w wr : World} {g i : Nat} (h : w.grownBy wr (some g)) (v : Value) : w.grownBy (wr.setCell ⟨g, i, none⟩ v) (some g) :=
 ⟨h.os, h.tape, h.output, by rw [World.size_setCell]; exact h.size, fun k hk hne => (Below.heap_setCell _ _ _ _ (fun e => hne (by rw [e]))).trans (h.block k hk hne)⟩
theorem grown_drew {w wr : World} {row : Option Nat} (h : w.grownBy wr row) : w.grownBy wr.drew row := ⟨h.os, h.tape, h.output, h.size, h.block⟩
theorem grown_trans {a b c : World} {row : Option Nat} (h : a.grownBy b row) (k : b.grownBy c row) : a.grownBy c row :=
 ⟨k.os.trans h.os, k.tape.trans h.tape, k.output.trans h.output, Nat.le_trans h.size k.size, fun i hi hne => (k.block i (Nat.lt_of_lt_of_le hi h.size) hne).trans (h.block i hi hne)⟩
theorem add64N (x y c : Nat) (hx : x < B) (hy : y < B) (hc : c ≤ 1) (w : World) :
 (callFunc 119 #[.int .u64 (x : Int), .int .u64 (y : Int), .int .u64 (c : Int)]).run Tryz.prog w = .ok (.value (.tuple #[.int .u64 (((x + y + c) % B : Nat) : Int), .int .u64 (((x + y + c) / B : Nat) : Int)])) w := by
 unfold B at *
 rw [add64 x y c ⟨by omega, by omega⟩ ⟨by omega, by omega⟩ (by omega) (by omega)]
 unfold a3Lo a3C
 rfl
def dW (x y c : Nat) : Nat := (x + B - y - c) % B
def dC (x y c : Nat) : Nat := if x < y + c then 1 else 0
theorem dW_lt (x y c : Nat) : dW x y c < B := Nat.mod_lt _ B_pos
theorem dC_le (x y c : Nat) : dC x y c ≤ 1 := by unfold dC; split <;> omega
theorem dW_eq {x y c : Nat} (hx : x < B) (hy : y < B) (hc : c ≤ 1) : dW x y c + y + c = x + dC x y c * B := by
 unfold dW dC B at *; split <;> omega
theorem sub64N (x y c : Nat) (hx : x < B) (hy : y < B) (hc : c ≤ 1) (w : World) :
 (callFunc 157 #[.int .u64 (x : Int), .int .u64 (y : Int), .int .u64 (c : Int)]).run Tryz.prog w = .ok (.value (.tuple #[.int .u64 ((dW x y c : Nat) : Int), .int .u64 ((dC x y c : Nat) : Int)])) w := by
 unfold dW dC B at *
 rw [sub64 x y c ⟨by omega, by omega⟩ ⟨by omega, by omega⟩ (by omega) (by omega)]
 have e1 : s3Lo (x : Int) y c = (((x + 18446744073709551616 - y - c) % 18446744073709551616 : Nat) : Int) := by unfold s3Lo; omega
 have e2 : s3B (x : Int) y c = ((if x < y + c then 1 else 0 : Nat) : Int) := by unfold s3B; split <;> split <;> omega
 rw [e1, e2]
theorem V_tail {f g : Nat → Nat} {k n a b : Nat} (hk : k ≤ n) (h : V f k + a = V g k + b) (e : ∀ i, k ≤ i → i < n → f i = g i) : V f n + a = V g n + b := by
 have n1 : n = k + (n - k) := by omega
 have s1 := V_split f k (n - k)
 have s2 := V_split g k (n - k)
 have c : V (fun i => f (k + i)) (n - k) = V (fun i => g (k + i)) (n - k) := V_congr fun i hi => e (k + i) (by omega) (by omega)
 rw [← n1] at s1 s2
 rw [s1, s2, c]
 omega
theorem decrease_any {w : World} {g N o n c : Nat} {F : Nat → Nat} (R : Row w g N F) (hoN : o + n ≤ N) (hnc : n ≤ c) (hcm : c ≤ maxLen)
 {bo : Option Addr} {m cb bb ob : Nat} {G : Nat → Nat} (S : Sl w bo m cb bb ob G) (hne : 0 < m → bb ≠ g) (hmn : m ≤ n) (hfit : V G m ≤ V (fun i => F (o + i)) n) :
 Calls Tryz.prog 145 #[.slice (some ⟨g, o, none⟩) n c, .slice bo m cb] w fun e w' => e = .returned (.tuple #[]) ∧ w.grownBy w' (some g) ∧
  ∃ F', Row w' g N F' ∧ (∀ i, i < o ∨ o + n ≤ i → F' i = F i) ∧ V (fun i => F' (o + i)) n + V G m = V (fun i => F (o + i)) n := by
 have hm : m ≤ maxLen := Nat.le_trans S.le S.cap
 unfold maxLen at hm hcm
 go_enter Tryz.func145, Tryz.ntmps145
 go_wp2
 have HS : Hid (Sl w bo m cb bb ob G) := S
 have HN : Hid (0 < m → bb ≠ g) := hne
 have HFIT : Hid (V G m ≤ V (fun i => F (o + i)) n) := hfit
 clear S hne hfit
 go_loopw [4, 9] (fun cy i wr => ∃ (k x : Nat) (F' : Nat → Nat), cy = .int .u64 (x : Int) ∧ i = .int .i64 (k : Int) ∧ k ≤ m ∧ x ≤ 1 ∧ Row wr g N F' ∧ w.grownBy wr (some g) ∧ (∀ i, i < o ∨ o + k ≤ i → F' i = F i) ∧ V (fun i => F' (o + i)) k + V G k = V (fun i => F (o + i)) k + x * B ^ k) (fun _ i _ => m - (intOf i).toNat)
 case atStart => exact ⟨0, 0, F, rfl, rfl, Nat.zero_le _, by omega, R, World.grownBy.refl _ _, fun i _ => rfl, by simp [V]⟩
 case round =>
  obtain ⟨k, x, F', rfl, rfl, hk, hx, R', hgr, hfr, hv⟩ := hrel
  have HF : Hid (∀ i, i < o ∨ o + k ≤ i → F' i = F i) := hfr
  have HV : Hid (V (fun i => F' (o + i)) k + V G k = V (fun i => F (o + i)) k + x * B ^ k) := hv
  have HR : Hid (Row wr g N F') := R'
  have HG : Hid (w.grownBy wr (some g)) := hgr
  clear hfr hv
  by_cases c1 : k < m
  · obtain rfl := HS.out.addr (by omega)
    have hb := HS.out.blk (by omega)
    have cb0 := HS.out.cell k c1
    have ne := HN.out (by omega)
    have cb1 : wr.cell? ⟨bb, ob + k, none⟩ = some (.int .u64 (G k : Int)) := by
     rw [World.cell?_of_block (w := w) (hgr.block bb hb (by intro e; exact ne (Option.some.inj e)))]; exact cb0
    have cz := R'.row.cell (i := o + k) (by omega)
    have fz := R'.row.frozen (o + k)
    have ad := fun W => sub64N (F' (o + k)) (G k) x (R'.ws _) (HS.out.ws _) hx W
    have hr : dW (F' (o + k)) (G k) x < B := dW_lt _ _ _
    have hq : dC (F' (o + k)) (G k) x ≤ 1 := dC_le _ _ _
    have st := sub_step HV.out (dW_eq (R'.ws _) (HS.out.ws _) hx : dW (F' (o + k)) (G k) x + G k + x = F' (o + k) + dC (F' (o + k)) (G k) x * B)
    have hF : F' (o + k) = F (o + k) := HF.out _ (Or.inr (by omega))
    have HFK : Hid (F' (o + k) = F (o + k)) := hF
    clear R' hgr cb0 hF
    generalize dW (F' (o + k)) (G k) x = r at *
    generalize dC (F' (o + k)) (G k) x = q at *
    have HST := (show Hid _ from st)
    clear st
    go_wp2
    go_region
    all_goals
     go_wp2
     go_roundw
     case rel =>
      refine ⟨k + 1, q, put F' (o + k) r, rfl, by go_num, by omega, hq, (HR.out.set (o + k) hr).drew, grown_drew (grown_set HG.out _), ?_, ?_⟩
      · intro i hi
        rw [put_ne (by omega)]
        exact HF.out i (by omega)
      · have e : V (fun i => put F' (o + k) r (o + i)) (k + 1) = V (fun i => F' (o + i)) k + r * B ^ k := by
         rw [V_succ, V_congr (f := fun i => put F' (o + k) r (o + i)) (g := fun i => F' (o + i)) (fun i hi => put_ne (by omega)), put_at]
        rw [e, V_succ (fun i => F (o + i)), V_succ G, Nat.pow_succ]
        have s := HST.out
        rw [HFK.out] at s
        exact s
     case measure => simp [intOf]; omega
  · obtain rfl : k = m := by omega
    clear R' hgr c1 hk
    go_wp2
    go_loopw [4, 6] (fun cy i wr => ∃ (k2 x : Nat) (F' : Nat → Nat), cy = .int .u64 (x : Int) ∧ i = .int .i64 (k2 : Int) ∧ k2 ≤ n ∧ x ≤ 1 ∧ Row wr g N F' ∧ w.grownBy wr (some g) ∧ (∀ i, i < o ∨ o + k2 ≤ i → F' i = F i) ∧ V (fun i => F' (o + i)) k2 + V G k = V (fun i => F (o + i)) k2 + x * B ^ k2) (fun _ i _ => n - (intOf i).toNat)
    case atStart => exact ⟨k, x, F', rfl, rfl, hmn, hx, HR.out, HG.out, HF.out, HV.out⟩
    case round =>
     clear HF HV HR HG hx
     obtain ⟨k2, x, F', rfl, rfl, hk, hx, R', hgr, hfr, hv⟩ := hrel
     have HF : Hid (∀ i, i < o ∨ o + k2 ≤ i → F' i = F i) := hfr
     have HV : Hid (V (fun i => F' (o + i)) k2 + V G k = V (fun i => F (o + i)) k2 + x * B ^ k2) := hv
     have HR : Hid (Row wr g N F') := R'
     have HG : Hid (w.grownBy wr (some g)) := hgr
     clear hfr hv
     by_cases c1 : x = 0
     · subst c1
       clear R' hgr
       go_wp2
       refine bodyPost_end (v := .tuple #[]) (by simp [results, Tryz.results145, go_sem]) rfl ⟨rfl, HG.out, F', HR.out, fun i hi => HF.out i (by omega), ?_⟩
       have a := HV.out
       rw [Nat.zero_mul, Nat.add_zero] at a
       exact V_tail (b := 0) hk a (fun i p q => HF.out (o + i) (Or.inr (by omega)))
     · have hlt : k2 < n := by
        rcases Nat.lt_or_ge k2 n with z | z
        · exact z
        · exfalso
          obtain rfl : k2 = n := by omega
          obtain rfl : x = 1 := by omega
          have a := HV.out
          have b := HFIT.out
          have l1 := V_lt (f := fun i => F' (o + i)) (fun i => R'.ws _) k2
          rw [Nat.one_mul] at a
          omega
       have c1' : ((x : Int) == 0) = false := beq_eq_false_iff_ne.mpr (by omega)
       have cz := R'.row.cell (i := o + k2) (by omega)
       have fz := R'.row.frozen (o + k2)
       have ad : ∀ W, (callFunc 157 #[.int .u64 ((F' (o + k2) : Nat) : Int), .int .u64 0, .int .u64 (x : Int)]).run Tryz.prog W = .ok (.value (.tuple #[.int .u64 ((dW (F' (o + k2)) (0) x : Nat) : Int), .int .u64 ((dC (F' (o + k2)) (0) x : Nat) : Int)])) W := fun W => sub64N (F' (o + k2)) 0 x (R'.ws _) B_pos hx W
       have hr : dW (F' (o + k2)) (0) x < B := dW_lt _ _ _
       have hq : dC (F' (o + k2)) (0) x ≤ 1 := dC_le _ _ _
       have st := sub_step HV.out (dW_eq (R'.ws _) B_pos hx : dW (F' (o + k2)) (0) x + 0 + x = F' (o + k2) + dC (F' (o + k2)) (0) x * B)
       have hF : F' (o + k2) = F (o + k2) := HF.out _ (Or.inr (by omega))
       have HFK : Hid (F' (o + k2) = F (o + k2)) := hF
       clear R' hgr hF c1
       generalize dW (F' (o + k2)) (0) x = r at *
       generalize dC (F' (o + k2)) (0) x = q at *
       have HST := (show Hid _ from st)
       clear st
       go_wp2
       all_goals
        go_roundw
        case rel =>
         refine ⟨k2 + 1, q, put F' (o + k2) r, rfl, by go_num, by omega, hq, HR.out.set (o + k2) hr, grown_set HG.out _, ?_, ?_⟩
         · intro i hi
           rw [put_ne (by omega)]
           exact HF.out i (by omega)
         · have e : V (fun i => put F' (o + k2) r (o + i)) (k2 + 1) = V (fun i => F' (o + i)) k2 + r * B ^ k2 := by
            rw [V_succ, V_congr (f := fun i => put F' (o + k2) r (o + i)) (g := fun i => F' (o + i)) (fun i hi => put_ne (by omega)), put_at]
           rw [e, V_succ (fun i => F (o + i)), Nat.pow_succ]
           have s := HST.out
           rw [HFK.out, Nat.zero_mul, Nat.add_zero] at s
           exact s
        case measure => simp [intOf]; omega
end Go.Proofs.YtjagnfddmlkalaaGreatDoor
