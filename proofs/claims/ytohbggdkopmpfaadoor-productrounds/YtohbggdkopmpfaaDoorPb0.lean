/-
  What bits.Pack and Inf and the document's answers of layer 11 are, as far as layer 15 asks them.
-/
import Derived.Test.YtohbggdkopmpfaaDoorBtZ
import Derived.Test.YtohbggdkopmpfaaDoorLen
import Derived.Test.YtohbggdkopmpfaaDoorMath2
import Derived.Test.YtohbggdkopmpfaaDoorRdA
import Derived.Test.YtohbggdkopmpfaaDoorRows
import Derived.Laws.Externs
import Derived.WalkKit
import Derived.WalkSpells
import Derived.WalkLawsBesides
import Derived.Lib.Mul64
import Derived.Laws.Bits64b
import Derived.Lib.ItoaNum
import Derived.OwnWalk
import Derived.Lib.TrailingZeros
import Derived.Laws.BitsAllLaws
import Derived.BigQuiet
import Derived.Deep.QuietTactic
import Derived.Deep.RegionHeld3
import Derived.Deep.DeepCutAuto
namespace Go.Proofs.YtohbggdkopmpfaaDoor
open Go.RowKit

/-- A shape in the call's own box. -/
structure ShB (w W : World) (a b c d : Value) : Prop where
  sz : w.heap.size + 1 ≤ W.heap.size
  bel : Below w.heap.size w W
  a0 : W.cell? ⟨w.heap.size, 0, none⟩ = some a
  a1 : W.cell? ⟨w.heap.size, 1, none⟩ = some b
  a2 : W.cell? ⟨w.heap.size, 2, none⟩ = some c
  a3 : W.cell? ⟨w.heap.size, 3, none⟩ = some d
theorem ShB.step {w W W' : World} {a b c d : Value} (h : ShB w W a b c d) (hb : Below W.heap.size W W') : ShB w W' a b c d := by
  have z := h.sz
  have k : ∀ o, W'.cell? ⟨w.heap.size, o, none⟩ = W.cell? ⟨w.heap.size, o, none⟩ := fun o => hb.cell (p := ⟨w.heap.size, o, none⟩) (by show w.heap.size < W.heap.size; omega)
  exact ⟨Nat.le_trans z hb.size, h.bel.trans (hb.mono (by omega)), (k 0).trans h.a0, (k 1).trans h.a1, (k 2).trans h.a2, (k 3).trans h.a3⟩
theorem ShB.start (w : World) (a b c d : Value) (T : TypeId) : ShB w (w.alloc (.cells #[a, b, c, d] T)) a b c d :=
  ⟨by simp, (Below.refl _ _).alloc (Nat.le_refl _) _, by simp, by simp, by simp, by simp⟩
theorem ShB.drew {w W : World} {a b c d : Value} (h : ShB w W a b c d) : ShB w W.drew a b c d := h.step (Below.refl _ _).drew
set_option maxRecDepth 100000 in
set_option maxHeartbeats 1000000 in
theorem single_any (w : World) : Calls Tryd.prog 80 #[] w fun e w' => e = .returned (.agg #[.int .u64 2147483648, .int .u64 2139095040, .int .i64 23, .int .i64 (-149)]) ∧ Below w.heap.size w w' := by
  go_enter Tryd.func80, Tryd.ntmps80
  go_wp2
  exact bodyPost_ret (v := .agg #[.int .u64 2147483648, .int .u64 2139095040, .int .i64 23, .int .i64 (-149)]) (by simp [results, Tryd.results80, go_sem]) rfl ⟨rfl, (Below.refl _ _).alloc (Nat.le_refl _) _⟩
set_option maxRecDepth 100000 in
set_option maxHeartbeats 1000000 in
theorem double_any (w : World) : Calls Tryd.prog 81 #[] w fun e w' => e = .returned (.agg #[.int .u64 9223372036854775808, .int .u64 9218868437227405312, .int .i64 52, .int .i64 (-1074)]) ∧ Below w.heap.size w w' := by
  go_enter Tryd.func81, Tryd.ntmps81
  go_wp2
  exact bodyPost_ret (v := .agg #[.int .u64 9223372036854775808, .int .u64 9218868437227405312, .int .i64 52, .int .i64 (-1074)]) (by simp [results, Tryd.results81, go_sem]) rfl ⟨rfl, (Below.refl _ _).alloc (Nat.le_refl _) _⟩
set_option maxRecDepth 100000 in
set_option maxHeartbeats 1000000 in
theorem most_32 (w : World) : Calls Tryd.prog 91 #[.agg #[.int .u64 2147483648, .int .u64 2139095040, .int .i64 23, .int .i64 (-149)]] w fun e w' => e = .returned (.int .i64 104) ∧ Below w.heap.size w w' := by
  go_enter Tryd.func91, Tryd.ntmps91
  go_wp2
  go_region_held3 (fun w' => w'.cell? ⟨w.heap.size, 1, none⟩ = some (.int .u64 2139095040) ∧ w'.cell? ⟨w.heap.size, 2, none⟩ = some (.int .i64 23) ∧ w'.cell? ⟨w.heap.size, 3, none⟩ = some (.int .i64 (-149))) (simp [*, go_sem]) (fail)
  go_wp2
  go_ret
  exact ⟨rfl, ((Below.refl _ _).alloc (Nat.le_refl _) _).drew⟩
set_option maxRecDepth 100000 in
set_option maxHeartbeats 1000000 in
theorem signed_32 {x : Nat} (h : x < 2147483648) (c : Bool) (w : World) : Calls Tryd.prog 66 #[.agg #[.int .u64 2147483648, .int .u64 2139095040, .int .i64 23, .int .i64 (-149)], .int .u64 (x : Int), .bool c] w fun e w' => e = .returned (.int .u64 ((sgd 2147483648 c x : Nat) : Int)) ∧ Below w.heap.size w w' := by
  have hA := or_sign_32 h
  have H : Hid (sgd 2147483648 true x = x + 2147483648 ∧ sgd 2147483648 false x = x) := ⟨rfl, rfl⟩
  clear h
  cases c
  all_goals
    go_enter Tryd.func66, Tryd.ntmps66
    go_wp2
    go_ret
    exact ⟨rfl, (Below.refl _ _).alloc (Nat.le_refl _) _⟩
set_option maxRecDepth 100000 in
set_option maxHeartbeats 1000000 in
theorem most_64 (w : World) : Calls Tryd.prog 91 #[.agg #[.int .u64 9223372036854775808, .int .u64 9218868437227405312, .int .i64 52, .int .i64 (-1074)]] w fun e w' => e = .returned (.int .i64 971) ∧ Below w.heap.size w w' := by
  go_enter Tryd.func91, Tryd.ntmps91
  go_wp2
  go_region_held3 (fun w' => w'.cell? ⟨w.heap.size, 1, none⟩ = some (.int .u64 9218868437227405312) ∧ w'.cell? ⟨w.heap.size, 2, none⟩ = some (.int .i64 52) ∧ w'.cell? ⟨w.heap.size, 3, none⟩ = some (.int .i64 (-1074))) (simp [*, go_sem]) (fail)
  go_wp2
  go_ret
  exact ⟨rfl, ((Below.refl _ _).alloc (Nat.le_refl _) _).drew⟩
set_option maxRecDepth 100000 in
set_option maxHeartbeats 1000000 in
theorem signed_64 {x : Nat} (h : x < 9223372036854775808) (c : Bool) (w : World) : Calls Tryd.prog 66 #[.agg #[.int .u64 9223372036854775808, .int .u64 9218868437227405312, .int .i64 52, .int .i64 (-1074)], .int .u64 (x : Int), .bool c] w fun e w' => e = .returned (.int .u64 ((sgd 9223372036854775808 c x : Nat) : Int)) ∧ Below w.heap.size w w' := by
  have hA := or_sign_64 h
  have H : Hid (sgd 9223372036854775808 true x = x + 9223372036854775808 ∧ sgd 9223372036854775808 false x = x) := ⟨rfl, rfl⟩
  clear h
  cases c
  all_goals
    go_enter Tryd.func66, Tryd.ntmps66
    go_wp2
    go_ret
    exact ⟨rfl, (Below.refl _ _).alloc (Nat.le_refl _) _⟩
/-- A struct of four fields in a block that may be written. -/
structure FlBPb (W : World) (K : Nat) (a b c d : Value) : Prop where
  lt : K < W.heap.size
  a0 : W.cell? ⟨K, 0, none⟩ = some a
  a1 : W.cell? ⟨K, 1, none⟩ = some b
  a2 : W.cell? ⟨K, 2, none⟩ = some c
  a3 : W.cell? ⟨K, 3, none⟩ = some d
  f0 : W.frozen? ⟨K, 0, none⟩ = false
  f1 : W.frozen? ⟨K, 1, none⟩ = false
  f2 : W.frozen? ⟨K, 2, none⟩ = false
  f3 : W.frozen? ⟨K, 3, none⟩ = false
theorem FlBPb.step {W W' : World} {K : Nat} {a b c d : Value} (h : FlBPb W K a b c d) (hb : Below W.heap.size W W') : FlBPb W' K a b c d := by
  have k := fun o => hb.cell (p := ⟨K, o, none⟩) h.lt
  have j := fun o => hb.frozen (p := ⟨K, o, none⟩) h.lt
  exact ⟨Nat.lt_of_lt_of_le h.lt hb.size, (k 0).trans h.a0, (k 1).trans h.a1, (k 2).trans h.a2, (k 3).trans h.a3, (j 0).trans h.f0, (j 1).trans h.f1, (j 2).trans h.f2, (j 3).trans h.f3⟩
theorem FlBPb.new (W : World) (a b c d : Value) (T : TypeId) : FlBPb (W.alloc (.cells #[a, b, c, d] T)) W.heap.size a b c d :=
  ⟨by simp, by simp, by simp, by simp, by simp, World.frozen?_alloc_new _ _ _ _, World.frozen?_alloc_new _ _ _ _, World.frozen?_alloc_new _ _ _ _, World.frozen?_alloc_new _ _ _ _⟩
theorem FlBPb.newAt (W : World) (a b c d : Value) (T : TypeId) {K : Nat} (h : K = W.heap.size) : FlBPb (W.alloc (.cells #[a, b, c, d] T)) K a b c d := by
  subst h; exact FlBPb.new W a b c d T
theorem FlBPb.drew {W : World} {K : Nat} {a b c d : Value} (h : FlBPb W K a b c d) : FlBPb W.drew K a b c d := h.step (Below.refl _ _).drew
theorem FlBPb.al {W : World} {K : Nat} {a b c d : Value} (h : FlBPb W K a b c d) (o : Obj) : FlBPb (W.alloc o) K a b c d := h.step ((Below.refl _ _).alloc (Nat.le_refl _) _)
set_option maxRecDepth 100000 in
set_option maxHeartbeats 1000000 in
theorem shapeOf_32 (w : World) : Calls Tryd.prog 64 #[.int .i64 32] w fun e w' => e = .returned (.tuple #[.agg #[.int .u64 2147483648, .int .u64 2139095040, .int .i64 23, .int .i64 (-149)], .nilIface]) ∧ Below w.heap.size w w' := by
  have H := fun W => single_any W
  go_enter Tryd.func64, Tryd.ntmps64
  go_wp2_with fail
  refine (H _).mono ?_
  rintro e w1 ⟨rfl, hb⟩
  have T : Hid (FlBPb w1 w.heap.size _ _ _ _) := (FlBPb.new w (.int .u64 0) (.int .u64 0) (.int .i64 0) (.int .i64 0) 117).step hb
  have B : Hid (Below w.heap.size w w1) := ((Below.refl _ _).alloc (Nat.le_refl _) _).trans (hb.mono (by simp))
  clear hb
  obtain ⟨l, a0, a1, a2, a3, f0, f1, f2, f3⟩ := T.out
  go_wp2
  exact bodyPost_ret (v := .tuple #[.agg #[.int .u64 2147483648, .int .u64 2139095040, .int .i64 23, .int .i64 (-149)], .nilIface]) (by simp [results, Tryd.results64, go_sem, World.cell?_setCell_same, World.cell?_setCell_other, *]) rfl ⟨rfl, (((B.out.setCell (Nat.le_refl _) _).setCell (Nat.le_refl _) _).setCell (Nat.le_refl _) _).setCell (Nat.le_refl _) _⟩
set_option maxRecDepth 100000 in
set_option maxHeartbeats 1000000 in
theorem shapeOf_64 (w : World) : Calls Tryd.prog 64 #[.int .i64 64] w fun e w' => e = .returned (.tuple #[.agg #[.int .u64 9223372036854775808, .int .u64 9218868437227405312, .int .i64 52, .int .i64 (-1074)], .nilIface]) ∧ Below w.heap.size w w' := by
  have H := fun W => double_any W
  go_enter Tryd.func64, Tryd.ntmps64
  go_wp2_with fail
  refine (H _).mono ?_
  rintro e w1 ⟨rfl, hb⟩
  have T : Hid (FlBPb w1 w.heap.size _ _ _ _) := (FlBPb.new w (.int .u64 0) (.int .u64 0) (.int .i64 0) (.int .i64 0) 117).step hb
  have B : Hid (Below w.heap.size w w1) := ((Below.refl _ _).alloc (Nat.le_refl _) _).trans (hb.mono (by simp))
  clear hb
  obtain ⟨l, a0, a1, a2, a3, f0, f1, f2, f3⟩ := T.out
  go_wp2
  exact bodyPost_ret (v := .tuple #[.agg #[.int .u64 9223372036854775808, .int .u64 9218868437227405312, .int .i64 52, .int .i64 (-1074)], .nilIface]) (by simp [results, Tryd.results64, go_sem, World.cell?_setCell_same, World.cell?_setCell_other, *]) rfl ⟨rfl, (((B.out.setCell (Nat.le_refl _) _).setCell (Nat.le_refl _) _).setCell (Nat.le_refl _) _).setCell (Nat.le_refl _) _⟩
set_option maxRecDepth 100000 in
set_option maxHeartbeats 1000000 in
theorem binf_32 (c : Bool)  (w : World) : Calls Tryd.prog 43 #[.bool c, .int .i64 32] w fun e w' => e = .returned (.tuple #[.int .u64 ((sgd 2147483648 c 2139095040 : Nat) : Int), .nilIface]) ∧ Below w.heap.size w w' := by
  have H := fun W => shapeOf_32 W
  have HS := fun W => signed_32 (x := 2139095040) (by decide) c W
  rw [show ((2139095040 : Nat) : Int) = 2139095040 from rfl] at HS
  generalize sgd 2147483648 c 2139095040 = r at *
  go_enter Tryd.func43, Tryd.ntmps43
  go_wp2_with fail
  refine (H _).mono ?_
  rintro e w1 ⟨rfl, hb⟩
  have B : Hid (Below w.heap.size w w1) := hb
  have l := hb.size
  clear hb
  go_wp2_with fail
  refine (HS _).mono ?_
  rintro e w2 ⟨rfl, hb⟩
  have B2 : Hid (Below w.heap.size w w2) := (B.out.alloc l _).trans (hb.mono (by simp; omega))
  clear hb
  go_wp2
  go_ret2
  exact ⟨rfl, B2.out⟩
set_option maxRecDepth 100000 in
set_option maxHeartbeats 1000000 in
theorem binf_64 (c : Bool)  (w : World) : Calls Tryd.prog 43 #[.bool c, .int .i64 64] w fun e w' => e = .returned (.tuple #[.int .u64 ((sgd 9223372036854775808 c 9218868437227405312 : Nat) : Int), .nilIface]) ∧ Below w.heap.size w w' := by
  have H := fun W => shapeOf_64 W
  have HS := fun W => signed_64 (x := 9218868437227405312) (by decide) c W
  rw [show ((9218868437227405312 : Nat) : Int) = 9218868437227405312 from rfl] at HS
  generalize sgd 9223372036854775808 c 9218868437227405312 = r at *
  go_enter Tryd.func43, Tryd.ntmps43
  go_wp2_with fail
  refine (H _).mono ?_
  rintro e w1 ⟨rfl, hb⟩
  have B : Hid (Below w.heap.size w w1) := hb
  have l := hb.size
  clear hb
  go_wp2_with fail
  refine (HS _).mono ?_
  rintro e w2 ⟨rfl, hb⟩
  have B2 : Hid (Below w.heap.size w w2) := (B.out.alloc l _).trans (hb.mono (by simp; omega))
  clear hb
  go_wp2
  go_ret2
  exact ⟨rfl, B2.out⟩
end Go.Proofs.YtohbggdkopmpfaaDoor
