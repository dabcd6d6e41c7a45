/-
  Holds: HaC HaD.
-/
import Derived.Test.YtjagnfddmlkalaaGreatDoorRows
import Derived.Laws.Externs
import Derived.WalkKit
import Derived.WalkSpells
import Derived.WalkLawsBesides
import Derived.Lib.Mul64
import Derived.Stop.Asserts
import Derived.RowKitTokens
import Derived.Lib.Strings
import Derived.Lib.BufferWrite
import Derived.Deep.OwnRows
import Derived.Deep.RegionHeld3
import Derived.BigQuiet
import Derived.Lib.ConvBytes
import Derived.Laws.CopyOwn
import Derived.Lib.TrailingZeros
import Derived.Lib.ItoaNum
import Derived.Deep.LoopGhost
import Derived.Deep.AppendLies
import Derived.Deep.DeepCutAuto
import Derived.Test.YtjagnfddmlkalaaGreatDoorShelf
import Derived.Test.YtjagnfddmlkalaaGreatDoorKj26
set_option maxRecDepth 100000
set_option maxHeartbeats 4000000
namespace Go.Proofs.YtjagnfddmlkalaaGreatDoor
open Go.RowKit
theorem hr_up0 {w : World} {u t ts r lim y : Nat} {e : Bool} {p n : Int} {tx tr : ByteArray} (hP : ∀ w', Below w.heap.size w w' → Pow w') (l9 : lim ≤ 1000000000000000000) (hl : Hid (¬ 2 * lim ≤ u)) (q1 : IntKind.u64.wrap ((u : Int) / 2) = (t : Int)) (q2 : IntKind.u64.wrap ((t : Int) * 2) = (ts : Int)) (q3 : IntKind.u64.wrap ((u : Int) - (ts : Int)) = (r : Int)) (q5 : IntKind.u64.wrap ((t : Int) + 1) = (y : Int)) (p1 : -10000 ≤ p) (p2 : p ≤ 10000) (t1 : tx.size ≤ 100) (hc : Hid (1 < r ∨ (¬ 1 < r ∧ r = 1 ∧ (e = true ∨ (e = false ∧ t % 2 = 1))))) (HT : ∀ W, Calls Tryz.prog 73 #[.int .i64 n] W fun e w' => e = .returned (.tuple #[.int .u64 (lim : Int), .nilIface]) ∧ Below W.heap.size W w') (HF : ∀ W, Pow W → Calls Tryz.prog 74 #[.int .u64 (y : Int), .int .i64 10] W fun e w' => e = .returned (.string tx) ∧ Below W.heap.size W w') (HR : ∀ W, Calls Tryz.prog 59 #[.string tx, .string ⟨#[48]⟩] W fun e w' => e = .returned (.string tr) ∧ Below W.heap.size W w') :
 Calls Tryz.prog 35 #[.agg #[.int .u64 (u : Int), .bool e], .int .i64 p, .int .i64 n] w fun x w' => x = .returned (.agg #[.string tr, .int .i64 ((tx.size : Int) + p), .bool false]) ∧ Below w.heap.size w w' := by
 have F0 : Hid (Bk ((w.alloc (.cells #[.int .u64 (u : Int), .bool e] 76)).alloc (.cells #[.string ⟨#[]⟩, .int .i64 0, .bool false] 24)) (w.heap.size) [.int .u64 (u : Int), .bool e] ∧ Bk ((w.alloc (.cells #[.int .u64 (u : Int), .bool e] 76)).alloc (.cells #[.string ⟨#[]⟩, .int .i64 0, .bool false] 24)) (w.heap.size + 1) [.string ⟨#[]⟩, .int .i64 0, .bool false] ∧ Below w.heap.size w ((w.alloc (.cells #[.int .u64 (u : Int), .bool e] 76)).alloc (.cells #[.string ⟨#[]⟩, .int .i64 0, .bool false] 24))) := ⟨(Bk.newL w [.int .u64 (u : Int), .bool e] 76).step ((Below.refl _ _).alloc (Nat.le_refl _) _), ((by have q := Bk.newL (w.alloc (.cells #[.int .u64 (u : Int), .bool e] 76)) [.string ⟨#[]⟩, .int .i64 0, .bool false] 24; simpa using q) : Bk ((w.alloc (.cells #[.int .u64 (u : Int), .bool e] 76)).alloc (.cells #[.string ⟨#[]⟩, .int .i64 0, .bool false] 24)) (w.heap.size + 1) [.string ⟨#[]⟩, .int .i64 0, .bool false]), (((Below.refl w.heap.size w)).alloc (Nat.le_refl _) _).alloc ((((Below.refl w.heap.size w)).alloc (Nat.le_refl _) _).size) _⟩
 go_enter Tryz.func35, Tryz.ntmps35
 go_upto_region 1 with fail
 generalize ((w.alloc (.cells #[.int .u64 (u : Int), .bool e] 76)).alloc (.cells #[.string ⟨#[]⟩, .int .i64 0, .bool false] 24)) = w1 at *
 have l1_0 := F0.out.1.lt
 have a1_0_0 := F0.out.1.cell 0 _ rfl
 have f1_0_0 := F0.out.1.fz 0
 have a1_0_1 := F0.out.1.cell 1 _ rfl
 have f1_0_1 := F0.out.1.fz 1
 have l1_1 := F0.out.2.1.lt
 have a1_1_0 := F0.out.2.1.cell 0 _ rfl
 have f1_1_0 := F0.out.2.1.fz 0
 have a1_1_1 := F0.out.2.1.cell 1 _ rfl
 have f1_1_1 := F0.out.2.1.fz 1
 have a1_1_2 := F0.out.2.1.cell 2 _ rfl
 have f1_1_2 := F0.out.2.1.fz 2
 have ne1_0_1 : ¬ w.heap.size = w.heap.size + 1 := by omega
 have ne1_1_0 : ¬ w.heap.size + 1 = w.heap.size := by omega
 go_wp2_with fail
 all_goals first | (exfalso; omega) | skip
 refine (HT _).mono ?_
 rintro o2 w2 ⟨rfl, bb⟩
 have F1 : Hid (Bk w2 (w.heap.size) [.int .u64 (u : Int), .bool e] ∧ Bk w2 (w.heap.size + 1) [.string ⟨#[]⟩, .int .i64 0, .bool false] ∧ Below w.heap.size w w2) := ⟨(F0.out.1).step bb, (F0.out.2.1).step bb, (F0.out.2.2).trans (bb.mono (F0.out.2.2).size)⟩
 clear F0
 clear bb
 clear l1_0 a1_0_0 f1_0_0 a1_0_1 f1_0_1 l1_1 a1_1_0 f1_1_0 a1_1_1 f1_1_1 a1_1_2 f1_1_2
 have l2_0 := F1.out.1.lt
 have a2_0_0 := F1.out.1.cell 0 _ rfl
 have f2_0_0 := F1.out.1.fz 0
 have a2_0_1 := F1.out.1.cell 1 _ rfl
 have f2_0_1 := F1.out.1.fz 1
 have l2_1 := F1.out.2.1.lt
 have a2_1_0 := F1.out.2.1.cell 0 _ rfl
 have f2_1_0 := F1.out.2.1.fz 0
 have a2_1_1 := F1.out.2.1.cell 1 _ rfl
 have f2_1_1 := F1.out.2.1.fz 1
 have a2_1_2 := F1.out.2.1.cell 2 _ rfl
 have f2_1_2 := F1.out.2.1.fz 2
 have ne2_0_1 : ¬ w.heap.size = w.heap.size + 1 := by omega
 have ne2_1_0 : ¬ w.heap.size + 1 = w.heap.size := by omega
 have hlim := hl.out
 rcases hc.out with hq | ⟨hq, rfl, he | ⟨he, hc2⟩⟩
 all_goals (
  clear hc hl
  go_wp2_with fail
  all_goals first | (exfalso; omega) | skip
  refine (HF _ (hP _ F1.out.2.2)).mono ?_
  rintro o3 w3 ⟨rfl, bb⟩
  have F2 : Hid (Bk w3 (w.heap.size) [.int .u64 (u : Int), .bool e] ∧ Bk w3 (w.heap.size + 1) [.string ⟨#[]⟩, .int .i64 0, .bool false] ∧ Below w.heap.size w w3) := ⟨(F1.out.1).step bb, (F1.out.2.1).step bb, (F1.out.2.2).trans (bb.mono (F1.out.2.2).size)⟩
  clear F1
  clear bb
  clear l2_0 a2_0_0 f2_0_0 a2_0_1 f2_0_1 l2_1 a2_1_0 f2_1_0 a2_1_1 f2_1_1 a2_1_2 f2_1_2
  have l3_0 := F2.out.1.lt
  have a3_0_0 := F2.out.1.cell 0 _ rfl
  have f3_0_0 := F2.out.1.fz 0
  have a3_0_1 := F2.out.1.cell 1 _ rfl
  have f3_0_1 := F2.out.1.fz 1
  have l3_1 := F2.out.2.1.lt
  have a3_1_0 := F2.out.2.1.cell 0 _ rfl
  have f3_1_0 := F2.out.2.1.fz 0
  have a3_1_1 := F2.out.2.1.cell 1 _ rfl
  have f3_1_1 := F2.out.2.1.fz 1
  have a3_1_2 := F2.out.2.1.cell 2 _ rfl
  have f3_1_2 := F2.out.2.1.fz 2
  have ne3_0_1 : ¬ w.heap.size = w.heap.size + 1 := by omega
  have ne3_1_0 : ¬ w.heap.size + 1 = w.heap.size := by omega
  go_wp2_with fail
  all_goals first | (exfalso; omega) | skip
  refine (HR _).mono ?_
  rintro o4 w4 ⟨rfl, bb⟩
  have F3 : Hid (Bk w4 (w.heap.size) [.int .u64 (u : Int), .bool e] ∧ Bk w4 (w.heap.size + 1) [.string ⟨#[]⟩, .int .i64 0, .bool false] ∧ Below w.heap.size w w4) := ⟨(F2.out.1).step bb, (F2.out.2.1).step bb, (F2.out.2.2).trans (bb.mono (F2.out.2.2).size)⟩
  clear F2
  clear bb
  clear l3_0 a3_0_0 f3_0_0 a3_0_1 f3_0_1 l3_1 a3_1_0 f3_1_0 a3_1_1 f3_1_1 a3_1_2 f3_1_2
  have l4_0 := F3.out.1.lt
  have a4_0_0 := F3.out.1.cell 0 _ rfl
  have f4_0_0 := F3.out.1.fz 0
  have a4_0_1 := F3.out.1.cell 1 _ rfl
  have f4_0_1 := F3.out.1.fz 1
  have l4_1 := F3.out.2.1.lt
  have a4_1_0 := F3.out.2.1.cell 0 _ rfl
  have f4_1_0 := F3.out.2.1.fz 0
  have a4_1_1 := F3.out.2.1.cell 1 _ rfl
  have f4_1_1 := F3.out.2.1.fz 1
  have a4_1_2 := F3.out.2.1.cell 2 _ rfl
  have f4_1_2 := F3.out.2.1.fz 2
  have ne4_0_1 : ¬ w.heap.size = w.heap.size + 1 := by omega
  have ne4_1_0 : ¬ w.heap.size + 1 = w.heap.size := by omega
  go_wp2
  refine bodyPost_ret (v := .agg #[.string tr, .int .i64 ((tx.size : Int) + p), .bool false]) (by simp [results, Tryz.results35, go_sem, World.cell?_setCell_same, World.cell?_setCell_other, *]) rfl ⟨rfl, ?_⟩
  repeat (first | refine Below.setCell ?_ (by first | exact Nat.le_refl _ | (dsimp only; omega)) _ | refine Below.alloc ?_ (by first | exact Nat.le_refl _ | omega | (simp; omega)) _ | refine Below.drew ?_)
  exact F3.out.2.2)
theorem hr_dn0 {w : World} {u t ts r lim : Nat} {e : Bool} {p n : Int} {tx tr : ByteArray} (hP : ∀ w', Below w.heap.size w w' → Pow w') (l9 : lim ≤ 1000000000000000000) (hl : Hid (¬ 2 * lim ≤ u)) (q1 : IntKind.u64.wrap ((u : Int) / 2) = (t : Int)) (q2 : IntKind.u64.wrap ((t : Int) * 2) = (ts : Int)) (q3 : IntKind.u64.wrap ((u : Int) - (ts : Int)) = (r : Int)) (p1 : -10000 ≤ p) (p2 : p ≤ 10000) (t1 : tx.size ≤ 100) (hc : Hid ((¬ 1 < r ∧ ¬ r = 1) ∨ (¬ 1 < r ∧ r = 1 ∧ e = false ∧ ¬ t % 2 = 1))) (HT : ∀ W, Calls Tryz.prog 73 #[.int .i64 n] W fun e w' => e = .returned (.tuple #[.int .u64 (lim : Int), .nilIface]) ∧ Below W.heap.size W w') (HF : ∀ W, Pow W → Calls Tryz.prog 74 #[.int .u64 (t : Int), .int .i64 10] W fun e w' => e = .returned (.string tx) ∧ Below W.heap.size W w') (HR : ∀ W, Calls Tryz.prog 59 #[.string tx, .string ⟨#[48]⟩] W fun e w' => e = .returned (.string tr) ∧ Below W.heap.size W w') :
 Calls Tryz.prog 35 #[.agg #[.int .u64 (u : Int), .bool e], .int .i64 p, .int .i64 n] w fun x w' => x = .returned (.agg #[.string tr, .int .i64 ((tx.size : Int) + p), .bool false]) ∧ Below w.heap.size w w' := by
 have F0 : Hid (Bk ((w.alloc (.cells #[.int .u64 (u : Int), .bool e] 76)).alloc (.cells #[.string ⟨#[]⟩, .int .i64 0, .bool false] 24)) (w.heap.size) [.int .u64 (u : Int), .bool e] ∧ Bk ((w.alloc (.cells #[.int .u64 (u : Int), .bool e] 76)).alloc (.cells #[.string ⟨#[]⟩, .int .i64 0, .bool false] 24)) (w.heap.size + 1) [.string ⟨#[]⟩, .int .i64 0, .bool false] ∧ Below w.heap.size w ((w.alloc (.cells #[.int .u64 (u : Int), .bool e] 76)).alloc (.cells #[.string ⟨#[]⟩, .int .i64 0, .bool false] 24))) := ⟨(Bk.newL w [.int .u64 (u : Int), .bool e] 76).step ((Below.refl _ _).alloc (Nat.le_refl _) _), ((by have q := Bk.newL (w.alloc (.cells #[.int .u64 (u : Int), .bool e] 76)) [.string ⟨#[]⟩, .int .i64 0, .bool false] 24; simpa using q) : Bk ((w.alloc (.cells #[.int .u64 (u : Int), .bool e] 76)).alloc (.cells #[.string ⟨#[]⟩, .int .i64 0, .bool false] 24)) (w.heap.size + 1) [.string ⟨#[]⟩, .int .i64 0, .bool false]), (((Below.refl w.heap.size w)).alloc (Nat.le_refl _) _).alloc ((((Below.refl w.heap.size w)).alloc (Nat.le_refl _) _).size) _⟩
 go_enter Tryz.func35, Tryz.ntmps35
 go_upto_region 1 with fail
 generalize ((w.alloc (.cells #[.int .u64 (u : Int), .bool e] 76)).alloc (.cells #[.string ⟨#[]⟩, .int .i64 0, .bool false] 24)) = w1 at *
 have l1_0 := F0.out.1.lt
 have a1_0_0 := F0.out.1.cell 0 _ rfl
 have f1_0_0 := F0.out.1.fz 0
 have a1_0_1 := F0.out.1.cell 1 _ rfl
 have f1_0_1 := F0.out.1.fz 1
 have l1_1 := F0.out.2.1.lt
 have a1_1_0 := F0.out.2.1.cell 0 _ rfl
 have f1_1_0 := F0.out.2.1.fz 0
 have a1_1_1 := F0.out.2.1.cell 1 _ rfl
 have f1_1_1 := F0.out.2.1.fz 1
 have a1_1_2 := F0.out.2.1.cell 2 _ rfl
 have f1_1_2 := F0.out.2.1.fz 2
 have ne1_0_1 : ¬ w.heap.size = w.heap.size + 1 := by omega
 have ne1_1_0 : ¬ w.heap.size + 1 = w.heap.size := by omega
 go_wp2_with fail
 all_goals first | (exfalso; omega) | skip
 refine (HT _).mono ?_
 rintro o2 w2 ⟨rfl, bb⟩
 have F1 : Hid (Bk w2 (w.heap.size) [.int .u64 (u : Int), .bool e] ∧ Bk w2 (w.heap.size + 1) [.string ⟨#[]⟩, .int .i64 0, .bool false] ∧ Below w.heap.size w w2) := ⟨(F0.out.1).step bb, (F0.out.2.1).step bb, (F0.out.2.2).trans (bb.mono (F0.out.2.2).size)⟩
 clear F0
 clear bb
 clear l1_0 a1_0_0 f1_0_0 a1_0_1 f1_0_1 l1_1 a1_1_0 f1_1_0 a1_1_1 f1_1_1 a1_1_2 f1_1_2
 have l2_0 := F1.out.1.lt
 have a2_0_0 := F1.out.1.cell 0 _ rfl
 have f2_0_0 := F1.out.1.fz 0
 have a2_0_1 := F1.out.1.cell 1 _ rfl
 have f2_0_1 := F1.out.1.fz 1
 have l2_1 := F1.out.2.1.lt
 have a2_1_0 := F1.out.2.1.cell 0 _ rfl
 have f2_1_0 := F1.out.2.1.fz 0
 have a2_1_1 := F1.out.2.1.cell 1 _ rfl
 have f2_1_1 := F1.out.2.1.fz 1
 have a2_1_2 := F1.out.2.1.cell 2 _ rfl
 have f2_1_2 := F1.out.2.1.fz 2
 have ne2_0_1 : ¬ w.heap.size = w.heap.size + 1 := by omega
 have ne2_1_0 : ¬ w.heap.size + 1 = w.heap.size := by omega
 have hlim := hl.out
 rcases hc.out with hq | hq
 obtain ⟨hq, hc2⟩ := hq
 rotate_left
 obtain ⟨hq, rfl, he, hc2⟩ := hq
 all_goals (
  clear hc hl
  go_wp2_with fail
  all_goals first | (exfalso; omega) | skip
  refine (HF _ (hP _ F1.out.2.2)).mono ?_
  rintro o3 w3 ⟨rfl, bb⟩
  have F2 : Hid (Bk w3 (w.heap.size) [.int .u64 (u : Int), .bool e] ∧ Bk w3 (w.heap.size + 1) [.string ⟨#[]⟩, .int .i64 0, .bool false] ∧ Below w.heap.size w w3) := ⟨(F1.out.1).step bb, (F1.out.2.1).step bb, (F1.out.2.2).trans (bb.mono (F1.out.2.2).size)⟩
  clear F1
  clear bb
  clear l2_0 a2_0_0 f2_0_0 a2_0_1 f2_0_1 l2_1 a2_1_0 f2_1_0 a2_1_1 f2_1_1 a2_1_2 f2_1_2
  have l3_0 := F2.out.1.lt
  have a3_0_0 := F2.out.1.cell 0 _ rfl
  have f3_0_0 := F2.out.1.fz 0
  have a3_0_1 := F2.out.1.cell 1 _ rfl
  have f3_0_1 := F2.out.1.fz 1
  have l3_1 := F2.out.2.1.lt
  have a3_1_0 := F2.out.2.1.cell 0 _ rfl
  have f3_1_0 := F2.out.2.1.fz 0
  have a3_1_1 := F2.out.2.1.cell 1 _ rfl
  have f3_1_1 := F2.out.2.1.fz 1
  have a3_1_2 := F2.out.2.1.cell 2 _ rfl
  have f3_1_2 := F2.out.2.1.fz 2
  have ne3_0_1 : ¬ w.heap.size = w.heap.size + 1 := by omega
  have ne3_1_0 : ¬ w.heap.size + 1 = w.heap.size := by omega
  go_wp2_with fail
  all_goals first | (exfalso; omega) | skip
  refine (HR _).mono ?_
  rintro o4 w4 ⟨rfl, bb⟩
  have F3 : Hid (Bk w4 (w.heap.size) [.int .u64 (u : Int), .bool e] ∧ Bk w4 (w.heap.size + 1) [.string ⟨#[]⟩, .int .i64 0, .bool false] ∧ Below w.heap.size w w4) := ⟨(F2.out.1).step bb, (F2.out.2.1).step bb, (F2.out.2.2).trans (bb.mono (F2.out.2.2).size)⟩
  clear F2
  clear bb
  clear l3_0 a3_0_0 f3_0_0 a3_0_1 f3_0_1 l3_1 a3_1_0 f3_1_0 a3_1_1 f3_1_1 a3_1_2 f3_1_2
  have l4_0 := F3.out.1.lt
  have a4_0_0 := F3.out.1.cell 0 _ rfl
  have f4_0_0 := F3.out.1.fz 0
  have a4_0_1 := F3.out.1.cell 1 _ rfl
  have f4_0_1 := F3.out.1.fz 1
  have l4_1 := F3.out.2.1.lt
  have a4_1_0 := F3.out.2.1.cell 0 _ rfl
  have f4_1_0 := F3.out.2.1.fz 0
  have a4_1_1 := F3.out.2.1.cell 1 _ rfl
  have f4_1_1 := F3.out.2.1.fz 1
  have a4_1_2 := F3.out.2.1.cell 2 _ rfl
  have f4_1_2 := F3.out.2.1.fz 2
  have ne4_0_1 : ¬ w.heap.size = w.heap.size + 1 := by omega
  have ne4_1_0 : ¬ w.heap.size + 1 = w.heap.size := by omega
  go_wp2
  refine bodyPost_ret (v := .agg #[.string tr, .int .i64 ((tx.size : Int) + p), .bool false]) (by simp [results, Tryz.results35, go_sem, World.cell?_setCell_same, World.cell?_setCell_other, *]) rfl ⟨rfl, ?_⟩
  repeat (first | refine Below.setCell ?_ (by first | exact Nat.le_refl _ | (dsimp only; omega)) _ | refine Below.alloc ?_ (by first | exact Nat.le_refl _ | omega | (simp; omega)) _ | refine Below.drew ?_)
  exact F3.out.2.2)
theorem hr_up1 {w : World} {u t ts r lim y : Nat} {e : Bool} {p n : Int} {tx tr : ByteArray} (hP : ∀ w', Below w.heap.size w w' → Pow w') (l9 : lim ≤ 1000000000000000000) (hl : Hid (2 * lim ≤ u)) (q1 : IntKind.u64.wrap ((u : Int) / 20) = (t : Int)) (q2 : IntKind.u64.wrap ((t : Int) * 20) = (ts : Int)) (q3 : IntKind.u64.wrap ((u : Int) - (ts : Int)) = (r : Int)) (q5 : IntKind.u64.wrap ((t : Int) + 1) = (y : Int)) (p1 : -10000 ≤ p) (p2 : p ≤ 10000) (t1 : tx.size ≤ 100) (hc : Hid (10 < r ∨ (¬ 10 < r ∧ r = 10 ∧ (e = true ∨ (e = false ∧ t % 2 = 1))))) (HT : ∀ W, Calls Tryz.prog 73 #[.int .i64 n] W fun e w' => e = .returned (.tuple #[.int .u64 (lim : Int), .nilIface]) ∧ Below W.heap.size W w') (HF : ∀ W, Pow W → Calls Tryz.prog 74 #[.int .u64 (y : Int), .int .i64 10] W fun e w' => e = .returned (.string tx) ∧ Below W.heap.size W w') (HR : ∀ W, Calls Tryz.prog 59 #[.string tx, .string ⟨#[48]⟩] W fun e w' => e = .returned (.string tr) ∧ Below W.heap.size W w') :
 Calls Tryz.prog 35 #[.agg #[.int .u64 (u : Int), .bool e], .int .i64 p, .int .i64 n] w fun x w' => x = .returned (.agg #[.string tr, .int .i64 ((tx.size : Int) + (p + 1)), .bool false]) ∧ Below w.heap.size w w' := by
 have F0 : Hid (Bk ((w.alloc (.cells #[.int .u64 (u : Int), .bool e] 76)).alloc (.cells #[.string ⟨#[]⟩, .int .i64 0, .bool false] 24)) (w.heap.size) [.int .u64 (u : Int), .bool e] ∧ Bk ((w.alloc (.cells #[.int .u64 (u : Int), .bool e] 76)).alloc (.cells #[.string ⟨#[]⟩, .int .i64 0, .bool false] 24)) (w.heap.size + 1) [.string ⟨#[]⟩, .int .i64 0, .bool false] ∧ Below w.heap.size w ((w.alloc (.cells #[.int .u64 (u : Int), .bool e] 76)).alloc (.cells #[.string ⟨#[]⟩, .int .i64 0, .bool false] 24))) := ⟨(Bk.newL w [.int .u64 (u : Int), .bool e] 76).step ((Below.refl _ _).alloc (Nat.le_refl _) _), ((by have q := Bk.newL (w.alloc (.cells #[.int .u64 (u : Int), .bool e] 76)) [.string ⟨#[]⟩, .int .i64 0, .bool false] 24; simpa using q) : Bk ((w.alloc (.cells #[.int .u64 (u : Int), .bool e] 76)).alloc (.cells #[.string ⟨#[]⟩, .int .i64 0, .bool false] 24)) (w.heap.size + 1) [.string ⟨#[]⟩, .int .i64 0, .bool false]), (((Below.refl w.heap.size w)).alloc (Nat.le_refl _) _).alloc ((((Below.refl w.heap.size w)).alloc (Nat.le_refl _) _).size) _⟩
 go_enter Tryz.func35, Tryz.ntmps35
 go_upto_region 1 with fail
 generalize ((w.alloc (.cells #[.int .u64 (u : Int), .bool e] 76)).alloc (.cells #[.string ⟨#[]⟩, .int .i64 0, .bool false] 24)) = w1 at *
 have l1_0 := F0.out.1.lt
 have a1_0_0 := F0.out.1.cell 0 _ rfl
 have f1_0_0 := F0.out.1.fz 0
 have a1_0_1 := F0.out.1.cell 1 _ rfl
 have f1_0_1 := F0.out.1.fz 1
 have l1_1 := F0.out.2.1.lt
 have a1_1_0 := F0.out.2.1.cell 0 _ rfl
 have f1_1_0 := F0.out.2.1.fz 0
 have a1_1_1 := F0.out.2.1.cell 1 _ rfl
 have f1_1_1 := F0.out.2.1.fz 1
 have a1_1_2 := F0.out.2.1.cell 2 _ rfl
 have f1_1_2 := F0.out.2.1.fz 2
 have ne1_0_1 : ¬ w.heap.size = w.heap.size + 1 := by omega
 have ne1_1_0 : ¬ w.heap.size + 1 = w.heap.size := by omega
 go_wp2_with fail
 all_goals first | (exfalso; omega) | skip
 refine (HT _).mono ?_
 rintro o2 w2 ⟨rfl, bb⟩
 have F1 : Hid (Bk w2 (w.heap.size) [.int .u64 (u : Int), .bool e] ∧ Bk w2 (w.heap.size + 1) [.string ⟨#[]⟩, .int .i64 0, .bool false] ∧ Below w.heap.size w w2) := ⟨(F0.out.1).step bb, (F0.out.2.1).step bb, (F0.out.2.2).trans (bb.mono (F0.out.2.2).size)⟩
 clear F0
 clear bb
 clear l1_0 a1_0_0 f1_0_0 a1_0_1 f1_0_1 l1_1 a1_1_0 f1_1_0 a1_1_1 f1_1_1 a1_1_2 f1_1_2
 have l2_0 := F1.out.1.lt
 have a2_0_0 := F1.out.1.cell 0 _ rfl
 have f2_0_0 := F1.out.1.fz 0
 have a2_0_1 := F1.out.1.cell 1 _ rfl
 have f2_0_1 := F1.out.1.fz 1
 have l2_1 := F1.out.2.1.lt
 have a2_1_0 := F1.out.2.1.cell 0 _ rfl
 have f2_1_0 := F1.out.2.1.fz 0
 have a2_1_1 := F1.out.2.1.cell 1 _ rfl
 have f2_1_1 := F1.out.2.1.fz 1
 have a2_1_2 := F1.out.2.1.cell 2 _ rfl
 have f2_1_2 := F1.out.2.1.fz 2
 have ne2_0_1 : ¬ w.heap.size = w.heap.size + 1 := by omega
 have ne2_1_0 : ¬ w.heap.size + 1 = w.heap.size := by omega
 have hlim := hl.out
 rcases hc.out with hq | ⟨hq, rfl, he | ⟨he, hc2⟩⟩
 all_goals (
  clear hc hl
  go_wp2_with fail
  all_goals first | (exfalso; omega) | skip
  refine (HF _ (hP _ F1.out.2.2)).mono ?_
  rintro o3 w3 ⟨rfl, bb⟩
  have F2 : Hid (Bk w3 (w.heap.size) [.int .u64 (u : Int), .bool e] ∧ Bk w3 (w.heap.size + 1) [.string ⟨#[]⟩, .int .i64 0, .bool false] ∧ Below w.heap.size w w3) := ⟨(F1.out.1).step bb, (F1.out.2.1).step bb, (F1.out.2.2).trans (bb.mono (F1.out.2.2).size)⟩
  clear F1
  clear bb
  clear l2_0 a2_0_0 f2_0_0 a2_0_1 f2_0_1 l2_1 a2_1_0 f2_1_0 a2_1_1 f2_1_1 a2_1_2 f2_1_2
  have l3_0 := F2.out.1.lt
  have a3_0_0 := F2.out.1.cell 0 _ rfl
  have f3_0_0 := F2.out.1.fz 0
  have a3_0_1 := F2.out.1.cell 1 _ rfl
  have f3_0_1 := F2.out.1.fz 1
  have l3_1 := F2.out.2.1.lt
  have a3_1_0 := F2.out.2.1.cell 0 _ rfl
  have f3_1_0 := F2.out.2.1.fz 0
  have a3_1_1 := F2.out.2.1.cell 1 _ rfl
  have f3_1_1 := F2.out.2.1.fz 1
  have a3_1_2 := F2.out.2.1.cell 2 _ rfl
  have f3_1_2 := F2.out.2.1.fz 2
  have ne3_0_1 : ¬ w.heap.size = w.heap.size + 1 := by omega
  have ne3_1_0 : ¬ w.heap.size + 1 = w.heap.size := by omega
  go_wp2_with fail
  all_goals first | (exfalso; omega) | skip
  refine (HR _).mono ?_
  rintro o4 w4 ⟨rfl, bb⟩
  have F3 : Hid (Bk w4 (w.heap.size) [.int .u64 (u : Int), .bool e] ∧ Bk w4 (w.heap.size + 1) [.string ⟨#[]⟩, .int .i64 0, .bool false] ∧ Below w.heap.size w w4) := ⟨(F2.out.1).step bb, (F2.out.2.1).step bb, (F2.out.2.2).trans (bb.mono (F2.out.2.2).size)⟩
  clear F2
  clear bb
  clear l3_0 a3_0_0 f3_0_0 a3_0_1 f3_0_1 l3_1 a3_1_0 f3_1_0 a3_1_1 f3_1_1 a3_1_2 f3_1_2
  have l4_0 := F3.out.1.lt
  have a4_0_0 := F3.out.1.cell 0 _ rfl
  have f4_0_0 := F3.out.1.fz 0
  have a4_0_1 := F3.out.1.cell 1 _ rfl
  have f4_0_1 := F3.out.1.fz 1
  have l4_1 := F3.out.2.1.lt
  have a4_1_0 := F3.out.2.1.cell 0 _ rfl
  have f4_1_0 := F3.out.2.1.fz 0
  have a4_1_1 := F3.out.2.1.cell 1 _ rfl
  have f4_1_1 := F3.out.2.1.fz 1
  have a4_1_2 := F3.out.2.1.cell 2 _ rfl
  have f4_1_2 := F3.out.2.1.fz 2
  have ne4_0_1 : ¬ w.heap.size = w.heap.size + 1 := by omega
  have ne4_1_0 : ¬ w.heap.size + 1 = w.heap.size := by omega
  go_wp2
  refine bodyPost_ret (v := .agg #[.string tr, .int .i64 ((tx.size : Int) + (p + 1)), .bool false]) (by simp [results, Tryz.results35, go_sem, World.cell?_setCell_same, World.cell?_setCell_other, *]) rfl ⟨rfl, ?_⟩
  repeat (first | refine Below.setCell ?_ (by first | exact Nat.le_refl _ | (dsimp only; omega)) _ | refine Below.alloc ?_ (by first | exact Nat.le_refl _ | omega | (simp; omega)) _ | refine Below.drew ?_)
  exact F3.out.2.2)
theorem hr_dn1 {w : World} {u t ts r lim : Nat} {e : Bool} {p n : Int} {tx tr : ByteArray} (hP : ∀ w', Below w.heap.size w w' → Pow w') (l9 : lim ≤ 1000000000000000000) (hl : Hid (2 * lim ≤ u)) (q1 : IntKind.u64.wrap ((u : Int) / 20) = (t : Int)) (q2 : IntKind.u64.wrap ((t : Int) * 20) = (ts : Int)) (q3 : IntKind.u64.wrap ((u : Int) - (ts : Int)) = (r : Int)) (p1 : -10000 ≤ p) (p2 : p ≤ 10000) (t1 : tx.size ≤ 100) (hc : Hid ((¬ 10 < r ∧ ¬ r = 10) ∨ (¬ 10 < r ∧ r = 10 ∧ e = false ∧ ¬ t % 2 = 1))) (HT : ∀ W, Calls Tryz.prog 73 #[.int .i64 n] W fun e w' => e = .returned (.tuple #[.int .u64 (lim : Int), .nilIface]) ∧ Below W.heap.size W w') (HF : ∀ W, Pow W → Calls Tryz.prog 74 #[.int .u64 (t : Int), .int .i64 10] W fun e w' => e = .returned (.string tx) ∧ Below W.heap.size W w') (HR : ∀ W, Calls Tryz.prog 59 #[.string tx, .string ⟨#[48]⟩] W fun e w' => e = .returned (.string tr) ∧ Below W.heap.size W w') :
 Calls Tryz.prog 35 #[.agg #[.int .u64 (u : Int), .bool e], .int .i64 p, .int .i64 n] w fun x w' => x = .returned (.agg #[.string tr, .int .i64 ((tx.size : Int) + (p + 1)), .bool false]) ∧ Below w.heap.size w w' := by
 have F0 : Hid (Bk ((w.alloc (.cells #[.int .u64 (u : Int), .bool e] 76)).alloc (.cells #[.string ⟨#[]⟩, .int .i64 0, .bool false] 24)) (w.heap.size) [.int .u64 (u : Int), .bool e] ∧ Bk ((w.alloc (.cells #[.int .u64 (u : Int), .bool e] 76)).alloc (.cells #[.string ⟨#[]⟩, .int .i64 0, .bool false] 24)) (w.heap.size + 1) [.string ⟨#[]⟩, .int .i64 0, .bool false] ∧ Below w.heap.size w ((w.alloc (.cells #[.int .u64 (u : Int), .bool e] 76)).alloc (.cells #[.string ⟨#[]⟩, .int .i64 0, .bool false] 24))) := ⟨(Bk.newL w [.int .u64 (u : Int), .bool e] 76).step ((Below.refl _ _).alloc (Nat.le_refl _) _), ((by have q := Bk.newL (w.alloc (.cells #[.int .u64 (u : Int), .bool e] 76)) [.string ⟨#[]⟩, .int .i64 0, .bool false] 24; simpa using q) : Bk ((w.alloc (.cells #[.int .u64 (u : Int), .bool e] 76)).alloc (.cells #[.string ⟨#[]⟩, .int .i64 0, .bool false] 24)) (w.heap.size + 1) [.string ⟨#[]⟩, .int .i64 0, .bool false]), (((Below.refl w.heap.size w)).alloc (Nat.le_refl _) _).alloc ((((Below.refl w.heap.size w)).alloc (Nat.le_refl _) _).size) _⟩
 go_enter Tryz.func35, Tryz.ntmps35
 go_upto_region 1 with fail
 generalize ((w.alloc (.cells #[.int .u64 (u : Int), .bool e] 76)).alloc (.cells #[.string ⟨#[]⟩, .int .i64 0, .bool false] 24)) = w1 at *
 have l1_0 := F0.out.1.lt
 have a1_0_0 := F0.out.1.cell 0 _ rfl
 have f1_0_0 := F0.out.1.fz 0
 have a1_0_1 := F0.out.1.cell 1 _ rfl
 have f1_0_1 := F0.out.1.fz 1
 have l1_1 := F0.out.2.1.lt
 have a1_1_0 := F0.out.2.1.cell 0 _ rfl
 have f1_1_0 := F0.out.2.1.fz 0
 have a1_1_1 := F0.out.2.1.cell 1 _ rfl
 have f1_1_1 := F0.out.2.1.fz 1
 have a1_1_2 := F0.out.2.1.cell 2 _ rfl
 have f1_1_2 := F0.out.2.1.fz 2
 have ne1_0_1 : ¬ w.heap.size = w.heap.size + 1 := by omega
 have ne1_1_0 : ¬ w.heap.size + 1 = w.heap.size := by omega
 go_wp2_with fail
 all_goals first | (exfalso; omega) | skip
 refine (HT _).mono ?_
 rintro o2 w2 ⟨rfl, bb⟩
 have F1 : Hid (Bk w2 (w.heap.size) [.int .u64 (u : Int), .bool e] ∧ Bk w2 (w.heap.size + 1) [.string ⟨#[]⟩, .int .i64 0, .bool false] ∧ Below w.heap.size w w2) := ⟨(F0.out.1).step bb, (F0.out.2.1).step bb, (F0.out.2.2).trans (bb.mono (F0.out.2.2).size)⟩
 clear F0
 clear bb
 clear l1_0 a1_0_0 f1_0_0 a1_0_1 f1_0_1 l1_1 a1_1_0 f1_1_0 a1_1_1 f1_1_1 a1_1_2 f1_1_2
 have l2_0 := F1.out.1.lt
 have a2_0_0 := F1.out.1.cell 0 _ rfl
 have f2_0_0 := F1.out.1.fz 0
 have a2_0_1 := F1.out.1.cell 1 _ rfl
 have f2_0_1 := F1.out.1.fz 1
 have l2_1 := F1.out.2.1.lt
 have a2_1_0 := F1.out.2.1.cell 0 _ rfl
 have f2_1_0 := F1.out.2.1.fz 0
 have a2_1_1 := F1.out.2.1.cell 1 _ rfl
 have f2_1_1 := F1.out.2.1.fz 1
 have a2_1_2 := F1.out.2.1.cell 2 _ rfl
 have f2_1_2 := F1.out.2.1.fz 2
 have ne2_0_1 : ¬ w.heap.size = w.heap.size + 1 := by omega
 have ne2_1_0 : ¬ w.heap.size + 1 = w.heap.size := by omega
 have hlim := hl.out
 rcases hc.out with hq | hq
 obtain ⟨hq, hc2⟩ := hq
 rotate_left
 obtain ⟨hq, rfl, he, hc2⟩ := hq
 all_goals (
  clear hc hl
  go_wp2_with fail
  all_goals first | (exfalso; omega) | skip
  refine (HF _ (hP _ F1.out.2.2)).mono ?_
  rintro o3 w3 ⟨rfl, bb⟩
  have F2 : Hid (Bk w3 (w.heap.size) [.int .u64 (u : Int), .bool e] ∧ Bk w3 (w.heap.size + 1) [.string ⟨#[]⟩, .int .i64 0, .bool false] ∧ Below w.heap.size w w3) := ⟨(F1.out.1).step bb, (F1.out.2.1).step bb, (F1.out.2.2).trans (bb.mono (F1.out.2.2).size)⟩
  clear F1
  clear bb
  clear l2_0 a2_0_0 f2_0_0 a2_0_1 f2_0_1 l2_1 a2_1_0 f2_1_0 a2_1_1 f2_1_1 a2_1_2 f2_1_2
  have l3_0 := F2.out.1.lt
  have a3_0_0 := F2.out.1.cell 0 _ rfl
  have f3_0_0 := F2.out.1.fz 0
  have a3_0_1 := F2.out.1.cell 1 _ rfl
  have f3_0_1 := F2.out.1.fz 1
  have l3_1 := F2.out.2.1.lt
  have a3_1_0 := F2.out.2.1.cell 0 _ rfl
  have f3_1_0 := F2.out.2.1.fz 0
  have a3_1_1 := F2.out.2.1.cell 1 _ rfl
  have f3_1_1 := F2.out.2.1.fz 1
  have a3_1_2 := F2.out.2.1.cell 2 _ rfl
  have f3_1_2 := F2.out.2.1.fz 2
  have ne3_0_1 : ¬ w.heap.size = w.heap.size + 1 := by omega
  have ne3_1_0 : ¬ w.heap.size + 1 = w.heap.size := by omega
  go_wp2_with fail
  all_goals first | (exfalso; omega) | skip
  refine (HR _).mono ?_
  rintro o4 w4 ⟨rfl, bb⟩
  have F3 : Hid (Bk w4 (w.heap.size) [.int .u64 (u : Int), .bool e] ∧ Bk w4 (w.heap.size + 1) [.string ⟨#[]⟩, .int .i64 0, .bool false] ∧ Below w.heap.size w w4) := ⟨(F2.out.1).step bb, (F2.out.2.1).step bb, (F2.out.2.2).trans (bb.mono (F2.out.2.2).size)⟩
  clear F2
  clear bb
  clear l3_0 a3_0_0 f3_0_0 a3_0_1 f3_0_1 l3_1 a3_1_0 f3_1_0 a3_1_1 f3_1_1 a3_1_2 f3_1_2
  have l4_0 := F3.out.1.lt
  have a4_0_0 := F3.out.1.cell 0 _ rfl
  have f4_0_0 := F3.out.1.fz 0
  have a4_0_1 := F3.out.1.cell 1 _ rfl
  have f4_0_1 := F3.out.1.fz 1
  have l4_1 := F3.out.2.1.lt
  have a4_1_0 := F3.out.2.1.cell 0 _ rfl
  have f4_1_0 := F3.out.2.1.fz 0
  have a4_1_1 := F3.out.2.1.cell 1 _ rfl
  have f4_1_1 := F3.out.2.1.fz 1
  have a4_1_2 := F3.out.2.1.cell 2 _ rfl
  have f4_1_2 := F3.out.2.1.fz 2
  have ne4_0_1 : ¬ w.heap.size = w.heap.size + 1 := by omega
  have ne4_1_0 : ¬ w.heap.size + 1 = w.heap.size := by omega
  go_wp2
  refine bodyPost_ret (v := .agg #[.string tr, .int .i64 ((tx.size : Int) + (p + 1)), .bool false]) (by simp [results, Tryz.results35, go_sem, World.cell?_setCell_same, World.cell?_setCell_other, *]) rfl ⟨rfl, ?_⟩
  repeat (first | refine Below.setCell ?_ (by first | exact Nat.le_refl _ | (dsimp only; omega)) _ | refine Below.alloc ?_ (by first | exact Nat.le_refl _ | omega | (simp; omega)) _ | refine Below.drew ?_)
  exact F3.out.2.2)
theorem below_nextH {w W v : World} (q : Below w.heap.size w W) (bb : Below W.heap.size W v) : Below w.heap.size w v := q.trans (bb.mono q.size)
theorem srd_no {w : World} {mh ml X p d : Int} {ex : Bool} {F u : Nat} {em : Bool} {n : Int} (hT : Tab w) (HC : ∀ W, Tab W → Calls Tryz.prog 34 #[.agg #[.int .u64 mh, .int .u64 ml, .int .i64 X, .bool ex, .int .i64 p, .int .i64 d], .int .u64 (F : Int)] W fun e w' => e = .returned (.tuple #[.agg #[.int .u64 (u : Int), .bool em], .bool false]) ∧ Below W.heap.size W w') :
 Calls Tryz.prog 16 #[.agg #[.int .u64 mh, .int .u64 ml, .int .i64 X, .bool ex, .int .i64 p, .int .i64 d], .int .u64 (F : Int), .int .i64 n] w fun x w' => x = .returned (.tuple #[.agg #[.string ⟨#[]⟩, .int .i64 0, .bool false], .bool false]) ∧ Below w.heap.size w w' := by
 have F0 : Hid (Bk ((w.alloc (.cells #[.int .u64 mh, .int .u64 ml, .int .i64 X, .bool ex, .int .i64 p, .int .i64 d] 48)).alloc (.cells #[.string ⟨#[]⟩, .int .i64 0, .bool false] 24)) (w.heap.size) [.int .u64 mh, .int .u64 ml, .int .i64 X, .bool ex, .int .i64 p, .int .i64 d] ∧ Bk ((w.alloc (.cells #[.int .u64 mh, .int .u64 ml, .int .i64 X, .bool ex, .int .i64 p, .int .i64 d] 48)).alloc (.cells #[.string ⟨#[]⟩, .int .i64 0, .bool false] 24)) (w.heap.size + 1) [.string ⟨#[]⟩, .int .i64 0, .bool false] ∧ Below w.heap.size w ((w.alloc (.cells #[.int .u64 mh, .int .u64 ml, .int .i64 X, .bool ex, .int .i64 p, .int .i64 d] 48)).alloc (.cells #[.string ⟨#[]⟩, .int .i64 0, .bool false] 24))) := ⟨(Bk.newL w [.int .u64 mh, .int .u64 ml, .int .i64 X, .bool ex, .int .i64 p, .int .i64 d] 48).step ((Below.refl _ _).alloc (Nat.le_refl _) _), ((by have q := Bk.newL (w.alloc (.cells #[.int .u64 mh, .int .u64 ml, .int .i64 X, .bool ex, .int .i64 p, .int .i64 d] 48)) [.string ⟨#[]⟩, .int .i64 0, .bool false] 24; simpa using q) : Bk ((w.alloc (.cells #[.int .u64 mh, .int .u64 ml, .int .i64 X, .bool ex, .int .i64 p, .int .i64 d] 48)).alloc (.cells #[.string ⟨#[]⟩, .int .i64 0, .bool false] 24)) (w.heap.size + 1) [.string ⟨#[]⟩, .int .i64 0, .bool false]), (((Below.refl w.heap.size w)).alloc (Nat.le_refl _) _).alloc ((((Below.refl w.heap.size w)).alloc (Nat.le_refl _) _).size) _⟩
 go_enter Tryz.func16, Tryz.ntmps16
 go_upto_region 1 with fail
 generalize ((w.alloc (.cells #[.int .u64 mh, .int .u64 ml, .int .i64 X, .bool ex, .int .i64 p, .int .i64 d] 48)).alloc (.cells #[.string ⟨#[]⟩, .int .i64 0, .bool false] 24)) = w1 at *
 have l1_0 := F0.out.1.lt
 have a1_0_0 := F0.out.1.cell 0 _ rfl
 have f1_0_0 := F0.out.1.fz 0
 have a1_0_1 := F0.out.1.cell 1 _ rfl
 have f1_0_1 := F0.out.1.fz 1
 have a1_0_2 := F0.out.1.cell 2 _ rfl
 have f1_0_2 := F0.out.1.fz 2
 have a1_0_3 := F0.out.1.cell 3 _ rfl
 have f1_0_3 := F0.out.1.fz 3
 have a1_0_4 := F0.out.1.cell 4 _ rfl
 have f1_0_4 := F0.out.1.fz 4
 have a1_0_5 := F0.out.1.cell 5 _ rfl
 have f1_0_5 := F0.out.1.fz 5
 have l1_1 := F0.out.2.1.lt
 have a1_1_0 := F0.out.2.1.cell 0 _ rfl
 have f1_1_0 := F0.out.2.1.fz 0
 have a1_1_1 := F0.out.2.1.cell 1 _ rfl
 have f1_1_1 := F0.out.2.1.fz 1
 have a1_1_2 := F0.out.2.1.cell 2 _ rfl
 have f1_1_2 := F0.out.2.1.fz 2
 have ne1_0_1 : ¬ w.heap.size = w.heap.size + 1 := by omega
 have ne1_1_0 : ¬ w.heap.size + 1 = w.heap.size := by omega
 go_wp2_with fail
 all_goals first | (exfalso; omega) | skip
 refine (HC _ (hT.next F0.out.2.2)).mono ?_
 rintro o2 w2 ⟨rfl, bb⟩
 have F1 : Hid (Bk w2 (w.heap.size) [.int .u64 mh, .int .u64 ml, .int .i64 X, .bool ex, .int .i64 p, .int .i64 d] ∧ Bk w2 (w.heap.size + 1) [.string ⟨#[]⟩, .int .i64 0, .bool false] ∧ Below w.heap.size w w2) := ⟨(F0.out.1).step bb, (F0.out.2.1).step bb, (F0.out.2.2).trans (bb.mono (F0.out.2.2).size)⟩
 clear F0
 clear bb
 clear l1_0 a1_0_0 f1_0_0 a1_0_1 f1_0_1 a1_0_2 f1_0_2 a1_0_3 f1_0_3 a1_0_4 f1_0_4 a1_0_5 f1_0_5 l1_1 a1_1_0 f1_1_0 a1_1_1 f1_1_1 a1_1_2 f1_1_2
 have lt0_2 := (F1.out.1).lt
 have lt1_2 := (F1.out.2.1).lt
 have le2 := (F1.out.2.2).size
 have F2 : Hid (Bk (w2.alloc (.cells #[.int .u64 (u : Int), .bool em] 76)) (w.heap.size) [.int .u64 mh, .int .u64 ml, .int .i64 X, .bool ex, .int .i64 p, .int .i64 d] ∧ Bk (w2.alloc (.cells #[.int .u64 (u : Int), .bool em] 76)) (w.heap.size + 1) [.string ⟨#[]⟩, .int .i64 0, .bool false] ∧ Bk (w2.alloc (.cells #[.int .u64 (u : Int), .bool em] 76)) (w2.heap.size) [.int .u64 (u : Int), .bool em] ∧ Below w.heap.size w (w2.alloc (.cells #[.int .u64 (u : Int), .bool em] 76))) := ⟨(F1.out.1).step ((Below.refl _ _).alloc (Nat.le_refl _) _), (F1.out.2.1).step ((Below.refl _ _).alloc (Nat.le_refl _) _), Bk.newL w2 [.int .u64 (u : Int), .bool em] 76, (F1.out.2.2).alloc ((F1.out.2.2).size) _⟩
 clear F1
 go_upto_region 2 with fail
 generalize (w2.alloc (.cells #[.int .u64 (u : Int), .bool em] 76)) = w3 at *
 have l2_0 := F2.out.1.lt
 have a2_0_0 := F2.out.1.cell 0 _ rfl
 have f2_0_0 := F2.out.1.fz 0
 have a2_0_1 := F2.out.1.cell 1 _ rfl
 have f2_0_1 := F2.out.1.fz 1
 have a2_0_2 := F2.out.1.cell 2 _ rfl
 have f2_0_2 := F2.out.1.fz 2
 have a2_0_3 := F2.out.1.cell 3 _ rfl
 have f2_0_3 := F2.out.1.fz 3
 have a2_0_4 := F2.out.1.cell 4 _ rfl
 have f2_0_4 := F2.out.1.fz 4
 have a2_0_5 := F2.out.1.cell 5 _ rfl
 have f2_0_5 := F2.out.1.fz 5
 have l2_1 := F2.out.2.1.lt
 have a2_1_0 := F2.out.2.1.cell 0 _ rfl
 have f2_1_0 := F2.out.2.1.fz 0
 have a2_1_1 := F2.out.2.1.cell 1 _ rfl
 have f2_1_1 := F2.out.2.1.fz 1
 have a2_1_2 := F2.out.2.1.cell 2 _ rfl
 have f2_1_2 := F2.out.2.1.fz 2
 have l2_2 := F2.out.2.2.1.lt
 have a2_2_0 := F2.out.2.2.1.cell 0 _ rfl
 have f2_2_0 := F2.out.2.2.1.fz 0
 have a2_2_1 := F2.out.2.2.1.cell 1 _ rfl
 have f2_2_1 := F2.out.2.2.1.fz 1
 have ne2_0_1 : ¬ w.heap.size = w.heap.size + 1 := by omega
 have ne2_0_2 : ¬ w.heap.size = w2.heap.size := by omega
 have ne2_1_0 : ¬ w.heap.size + 1 = w.heap.size := by omega
 have ne2_1_2 : ¬ w.heap.size + 1 = w2.heap.size := by omega
 have ne2_2_0 : ¬ w2.heap.size = w.heap.size := by omega
 have ne2_2_1 : ¬ w2.heap.size = w.heap.size + 1 := by omega
 go_wp2
 refine bodyPost_ret (v := .tuple #[.agg #[.string ⟨#[]⟩, .int .i64 0, .bool false], .bool false]) (by simp [results, Tryz.results16, go_sem, World.cell?_setCell_same, World.cell?_setCell_other, *]) rfl ⟨rfl, ?_⟩
 repeat (first | refine Below.setCell ?_ (by first | exact Nat.le_refl _ | (dsimp only; omega)) _ | refine Below.alloc ?_ (by first | exact Nat.le_refl _ | omega | (simp; omega)) _ | refine Below.drew ?_)
 exact F2.out.2.2.2
theorem srd_ok {w : World} {mh ml X p d : Int} {ex : Bool} {F u : Nat} {em : Bool} {n : Int} (hT : Tab w) {tr : ByteArray} {o : Int} (hP : ∀ w', Below w.heap.size w w' → Pow w') (HC : ∀ W, Tab W → Calls Tryz.prog 34 #[.agg #[.int .u64 mh, .int .u64 ml, .int .i64 X, .bool ex, .int .i64 p, .int .i64 d], .int .u64 (F : Int)] W fun e w' => e = .returned (.tuple #[.agg #[.int .u64 (u : Int), .bool em], .bool true]) ∧ Below W.heap.size W w') (HR : ∀ W, (∀ w', Below W.heap.size W w' → Pow w') → Calls Tryz.prog 35 #[.agg #[.int .u64 (u : Int), .bool em], .int .i64 p, .int .i64 n] W fun e w' => e = .returned (.agg #[.string tr, .int .i64 o, .bool false]) ∧ Below W.heap.size W w') :
 Calls Tryz.prog 16 #[.agg #[.int .u64 mh, .int .u64 ml, .int .i64 X, .bool ex, .int .i64 p, .int .i64 d], .int .u64 (F : Int), .int .i64 n] w fun x w' => x = .returned (.tuple #[.agg #[.string tr, .int .i64 o, .bool false], .bool true]) ∧ Below w.heap.size w w' := by
 have F0 : Hid (Bk ((w.alloc (.cells #[.int .u64 mh, .int .u64 ml, .int .i64 X, .bool ex, .int .i64 p, .int .i64 d] 48)).alloc (.cells #[.string ⟨#[]⟩, .int .i64 0, .bool false] 24)) (w.heap.size) [.int .u64 mh, .int .u64 ml, .int .i64 X, .bool ex, .int .i64 p, .int .i64 d] ∧ Bk ((w.alloc (.cells #[.int .u64 mh, .int .u64 ml, .int .i64 X, .bool ex, .int .i64 p, .int .i64 d] 48)).alloc (.cells #[.string ⟨#[]⟩, .int .i64 0, .bool false] 24)) (w.heap.size + 1) [.string ⟨#[]⟩, .int .i64 0, .bool false] ∧ Below w.heap.size w ((w.alloc (.cells #[.int .u64 mh, .int .u64 ml, .int .i64 X, .bool ex, .int .i64 p, .int .i64 d] 48)).alloc (.cells #[.string ⟨#[]⟩, .int .i64 0, .bool false] 24))) := ⟨(Bk.newL w [.int .u64 mh, .int .u64 ml, .int .i64 X, .bool ex, .int .i64 p, .int .i64 d] 48).step ((Below.refl _ _).alloc (Nat.le_refl _) _), ((by have q := Bk.newL (w.alloc (.cells #[.int .u64 mh, .int .u64 ml, .int .i64 X, .bool ex, .int .i64 p, .int .i64 d] 48)) [.string ⟨#[]⟩, .int .i64 0, .bool false] 24; simpa using q) : Bk ((w.alloc (.cells #[.int .u64 mh, .int .u64 ml, .int .i64 X, .bool ex, .int .i64 p, .int .i64 d] 48)).alloc (.cells #[.string ⟨#[]⟩, .int .i64 0, .bool false] 24)) (w.heap.size + 1) [.string ⟨#[]⟩, .int .i64 0, .bool false]), (((Below.refl w.heap.size w)).alloc (Nat.le_refl _) _).alloc ((((Below.refl w.heap.size w)).alloc (Nat.le_refl _) _).size) _⟩
 go_enter Tryz.func16, Tryz.ntmps16
 go_upto_region 1 with fail
 generalize ((w.alloc (.cells #[.int .u64 mh, .int .u64 ml, .int .i64 X, .bool ex, .int .i64 p, .int .i64 d] 48)).alloc (.cells #[.string ⟨#[]⟩, .int .i64 0, .bool false] 24)) = w1 at *
 have l1_0 := F0.out.1.lt
 have a1_0_0 := F0.out.1.cell 0 _ rfl
 have f1_0_0 := F0.out.1.fz 0
 have a1_0_1 := F0.out.1.cell 1 _ rfl
 have f1_0_1 := F0.out.1.fz 1
 have a1_0_2 := F0.out.1.cell 2 _ rfl
 have f1_0_2 := F0.out.1.fz 2
 have a1_0_3 := F0.out.1.cell 3 _ rfl
 have f1_0_3 := F0.out.1.fz 3
 have a1_0_4 := F0.out.1.cell 4 _ rfl
 have f1_0_4 := F0.out.1.fz 4
 have a1_0_5 := F0.out.1.cell 5 _ rfl
 have f1_0_5 := F0.out.1.fz 5
 have l1_1 := F0.out.2.1.lt
 have a1_1_0 := F0.out.2.1.cell 0 _ rfl
 have f1_1_0 := F0.out.2.1.fz 0
 have a1_1_1 := F0.out.2.1.cell 1 _ rfl
 have f1_1_1 := F0.out.2.1.fz 1
 have a1_1_2 := F0.out.2.1.cell 2 _ rfl
 have f1_1_2 := F0.out.2.1.fz 2
 have ne1_0_1 : ¬ w.heap.size = w.heap.size + 1 := by omega
 have ne1_1_0 : ¬ w.heap.size + 1 = w.heap.size := by omega
 go_wp2_with fail
 all_goals first | (exfalso; omega) | skip
 refine (HC _ (hT.next F0.out.2.2)).mono ?_
 rintro o2 w2 ⟨rfl, bb⟩
 have F1 : Hid (Bk w2 (w.heap.size) [.int .u64 mh, .int .u64 ml, .int .i64 X, .bool ex, .int .i64 p, .int .i64 d] ∧ Bk w2 (w.heap.size + 1) [.string ⟨#[]⟩, .int .i64 0, .bool false] ∧ Below w.heap.size w w2) := ⟨(F0.out.1).step bb, (F0.out.2.1).step bb, (F0.out.2.2).trans (bb.mono (F0.out.2.2).size)⟩
 clear F0
 clear bb
 clear l1_0 a1_0_0 f1_0_0 a1_0_1 f1_0_1 a1_0_2 f1_0_2 a1_0_3 f1_0_3 a1_0_4 f1_0_4 a1_0_5 f1_0_5 l1_1 a1_1_0 f1_1_0 a1_1_1 f1_1_1 a1_1_2 f1_1_2
 have lt0_2 := (F1.out.1).lt
 have lt1_2 := (F1.out.2.1).lt
 have le2 := (F1.out.2.2).size
 have F2 : Hid (Bk (w2.alloc (.cells #[.int .u64 (u : Int), .bool em] 76)) (w.heap.size) [.int .u64 mh, .int .u64 ml, .int .i64 X, .bool ex, .int .i64 p, .int .i64 d] ∧ Bk (w2.alloc (.cells #[.int .u64 (u : Int), .bool em] 76)) (w.heap.size + 1) [.string ⟨#[]⟩, .int .i64 0, .bool false] ∧ Bk (w2.alloc (.cells #[.int .u64 (u : Int), .bool em] 76)) (w2.heap.size) [.int .u64 (u : Int), .bool em] ∧ Below w.heap.size w (w2.alloc (.cells #[.int .u64 (u : Int), .bool em] 76))) := ⟨(F1.out.1).step ((Below.refl _ _).alloc (Nat.le_refl _) _), (F1.out.2.1).step ((Below.refl _ _).alloc (Nat.le_refl _) _), Bk.newL w2 [.int .u64 (u : Int), .bool em] 76, (F1.out.2.2).alloc ((F1.out.2.2).size) _⟩
 clear F1
 go_upto_region 2 with fail
 generalize (w2.alloc (.cells #[.int .u64 (u : Int), .bool em] 76)) = w3 at *
 have l2_0 := F2.out.1.lt
 have a2_0_0 := F2.out.1.cell 0 _ rfl
 have f2_0_0 := F2.out.1.fz 0
 have a2_0_1 := F2.out.1.cell 1 _ rfl
 have f2_0_1 := F2.out.1.fz 1
 have a2_0_2 := F2.out.1.cell 2 _ rfl
 have f2_0_2 := F2.out.1.fz 2
 have a2_0_3 := F2.out.1.cell 3 _ rfl
 have f2_0_3 := F2.out.1.fz 3
 have a2_0_4 := F2.out.1.cell 4 _ rfl
 have f2_0_4 := F2.out.1.fz 4
 have a2_0_5 := F2.out.1.cell 5 _ rfl
 have f2_0_5 := F2.out.1.fz 5
 have l2_1 := F2.out.2.1.lt
 have a2_1_0 := F2.out.2.1.cell 0 _ rfl
 have f2_1_0 := F2.out.2.1.fz 0
 have a2_1_1 := F2.out.2.1.cell 1 _ rfl
 have f2_1_1 := F2.out.2.1.fz 1
 have a2_1_2 := F2.out.2.1.cell 2 _ rfl
 have f2_1_2 := F2.out.2.1.fz 2
 have l2_2 := F2.out.2.2.1.lt
 have a2_2_0 := F2.out.2.2.1.cell 0 _ rfl
 have f2_2_0 := F2.out.2.2.1.fz 0
 have a2_2_1 := F2.out.2.2.1.cell 1 _ rfl
 have f2_2_1 := F2.out.2.2.1.fz 1
 have ne2_0_1 : ¬ w.heap.size = w.heap.size + 1 := by omega
 have ne2_0_2 : ¬ w.heap.size = w2.heap.size := by omega
 have ne2_1_0 : ¬ w.heap.size + 1 = w.heap.size := by omega
 have ne2_1_2 : ¬ w.heap.size + 1 = w2.heap.size := by omega
 have ne2_2_0 : ¬ w2.heap.size = w.heap.size := by omega
 have ne2_2_1 : ¬ w2.heap.size = w.heap.size + 1 := by omega
 go_wp2_with fail
 all_goals first | (exfalso; omega) | skip
 refine (HR _ (fun w' hw => hP w' (below_nextH F2.out.2.2.2 hw))).mono ?_
 rintro o4 w4 ⟨rfl, bb⟩
 have F3 : Hid (Bk w4 (w.heap.size) [.int .u64 mh, .int .u64 ml, .int .i64 X, .bool ex, .int .i64 p, .int .i64 d] ∧ Bk w4 (w.heap.size + 1) [.string ⟨#[]⟩, .int .i64 0, .bool false] ∧ Bk w4 (w2.heap.size) [.int .u64 (u : Int), .bool em] ∧ Below w.heap.size w w4) := ⟨(F2.out.1).step bb, (F2.out.2.1).step bb, (F2.out.2.2.1).step bb, (F2.out.2.2.2).trans (bb.mono (F2.out.2.2.2).size)⟩
 clear F2
 clear bb
 clear l2_0 a2_0_0 f2_0_0 a2_0_1 f2_0_1 a2_0_2 f2_0_2 a2_0_3 f2_0_3 a2_0_4 f2_0_4 a2_0_5 f2_0_5 l2_1 a2_1_0 f2_1_0 a2_1_1 f2_1_1 a2_1_2 f2_1_2 l2_2 a2_2_0 f2_2_0 a2_2_1 f2_2_1
 have l3_0 := F3.out.1.lt
 have a3_0_0 := F3.out.1.cell 0 _ rfl
 have f3_0_0 := F3.out.1.fz 0
 have a3_0_1 := F3.out.1.cell 1 _ rfl
 have f3_0_1 := F3.out.1.fz 1
 have a3_0_2 := F3.out.1.cell 2 _ rfl
 have f3_0_2 := F3.out.1.fz 2
 have a3_0_3 := F3.out.1.cell 3 _ rfl
 have f3_0_3 := F3.out.1.fz 3
 have a3_0_4 := F3.out.1.cell 4 _ rfl
 have f3_0_4 := F3.out.1.fz 4
 have a3_0_5 := F3.out.1.cell 5 _ rfl
 have f3_0_5 := F3.out.1.fz 5
 have l3_1 := F3.out.2.1.lt
 have a3_1_0 := F3.out.2.1.cell 0 _ rfl
 have f3_1_0 := F3.out.2.1.fz 0
 have a3_1_1 := F3.out.2.1.cell 1 _ rfl
 have f3_1_1 := F3.out.2.1.fz 1
 have a3_1_2 := F3.out.2.1.cell 2 _ rfl
 have f3_1_2 := F3.out.2.1.fz 2
 have l3_2 := F3.out.2.2.1.lt
 have a3_2_0 := F3.out.2.2.1.cell 0 _ rfl
 have f3_2_0 := F3.out.2.2.1.fz 0
 have a3_2_1 := F3.out.2.2.1.cell 1 _ rfl
 have f3_2_1 := F3.out.2.2.1.fz 1
 have ne3_0_1 : ¬ w.heap.size = w.heap.size + 1 := by omega
 have ne3_0_2 : ¬ w.heap.size = w2.heap.size := by omega
 have ne3_1_0 : ¬ w.heap.size + 1 = w.heap.size := by omega
 have ne3_1_2 : ¬ w.heap.size + 1 = w2.heap.size := by omega
 have ne3_2_0 : ¬ w2.heap.size = w.heap.size := by omega
 have ne3_2_1 : ¬ w2.heap.size = w.heap.size + 1 := by omega
 go_wp2
 refine bodyPost_ret (v := .tuple #[.agg #[.string tr, .int .i64 o, .bool false], .bool true]) (by simp [results, Tryz.results16, go_sem, World.cell?_setCell_same, World.cell?_setCell_other, *]) rfl ⟨rfl, ?_⟩
 repeat (first | refine Below.setCell ?_ (by first | exact Nat.le_refl _ | (dsimp only; omega)) _ | refine Below.alloc ?_ (by first | exact Nat.le_refl _ | omega | (simp; omega)) _ | refine Below.drew ?_)
 exact F3.out.2.2.2
theorem hd_err {b z n k m xe : Int} {ng : Bool} {T : TypeId} {V : Value} (HU : ∀ W, Calls Tryz.prog 14 #[.int .u64 b, .int .i64 z] W fun e w' => e = .returned (.tuple #[.agg #[.bool ng, .int .i64 k, .int .u64 m, .int .i64 xe], .iface T V]) ∧ Below W.heap.size W w') (w : World) :
 Calls Tryz.prog 5 #[.int .u64 b, .int .i64 z, .int .i64 n] w fun x w' => x = .returned (.tuple #[.agg #[.string ⟨#[]⟩, .int .i64 0, .bool false], .bool false, .iface T V]) ∧ Below w.heap.size w w' := by
 have F0 : Hid (Bk (w.alloc (.cells #[.string ⟨#[]⟩, .int .i64 0, .bool false] 24)) (w.heap.size) [.string ⟨#[]⟩, .int .i64 0, .bool false] ∧ Below w.heap.size w (w.alloc (.cells #[.string ⟨#[]⟩, .int .i64 0, .bool false] 24))) := ⟨Bk.newL w [.string ⟨#[]⟩, .int .i64 0, .bool false] 24, ((Below.refl w.heap.size w)).alloc (Nat.le_refl _) _⟩
 go_enter Tryz.func5, Tryz.ntmps5
 go_upto_region 1 with fail
 generalize (w.alloc (.cells #[.string ⟨#[]⟩, .int .i64 0, .bool false] 24)) = w1 at *
 have l1_0 := F0.out.1.lt
 have a1_0_0 := F0.out.1.cell 0 _ rfl
 have f1_0_0 := F0.out.1.fz 0
 have a1_0_1 := F0.out.1.cell 1 _ rfl
 have f1_0_1 := F0.out.1.fz 1
 have a1_0_2 := F0.out.1.cell 2 _ rfl
 have f1_0_2 := F0.out.1.fz 2
 go_wp2_with fail
 all_goals first | (exfalso; omega) | skip
 refine (HU _).mono ?_
 rintro o2 w2 ⟨rfl, bb⟩
 have F1 : Hid (Bk w2 (w.heap.size) [.string ⟨#[]⟩, .int .i64 0, .bool false] ∧ Below w.heap.size w w2) := ⟨(F0.out.1).step bb, (F0.out.2).trans (bb.mono (F0.out.2).size)⟩
 clear F0
 clear bb
 clear l1_0 a1_0_0 f1_0_0 a1_0_1 f1_0_1 a1_0_2 f1_0_2
 have lt0_1 := (F1.out.1).lt
 have le1 := (F1.out.2).size
 have F2 : Hid (Bk (w2.alloc (.cells #[.bool ng, .int .i64 k, .int .u64 m, .int .i64 xe] 39)) (w.heap.size) [.string ⟨#[]⟩, .int .i64 0, .bool false] ∧ Bk (w2.alloc (.cells #[.bool ng, .int .i64 k, .int .u64 m, .int .i64 xe] 39)) (w2.heap.size) [.bool ng, .int .i64 k, .int .u64 m, .int .i64 xe] ∧ Below w.heap.size w (w2.alloc (.cells #[.bool ng, .int .i64 k, .int .u64 m, .int .i64 xe] 39))) := ⟨(F1.out.1).step ((Below.refl _ _).alloc (Nat.le_refl _) _), Bk.newL w2 [.bool ng, .int .i64 k, .int .u64 m, .int .i64 xe] 39, (F1.out.2).alloc ((F1.out.2).size) _⟩
 clear F1
 go_upto_region 2 with fail
 generalize (w2.alloc (.cells #[.bool ng, .int .i64 k, .int .u64 m, .int .i64 xe] 39)) = w3 at *
 have l2_0 := F2.out.1.lt
 have a2_0_0 := F2.out.1.cell 0 _ rfl
 have f2_0_0 := F2.out.1.fz 0
 have a2_0_1 := F2.out.1.cell 1 _ rfl
 have f2_0_1 := F2.out.1.fz 1
 have a2_0_2 := F2.out.1.cell 2 _ rfl
 have f2_0_2 := F2.out.1.fz 2
 have l2_1 := F2.out.2.1.lt
 have a2_1_0 := F2.out.2.1.cell 0 _ rfl
 have f2_1_0 := F2.out.2.1.fz 0
 have a2_1_1 := F2.out.2.1.cell 1 _ rfl
 have f2_1_1 := F2.out.2.1.fz 1
 have a2_1_2 := F2.out.2.1.cell 2 _ rfl
 have f2_1_2 := F2.out.2.1.fz 2
 have a2_1_3 := F2.out.2.1.cell 3 _ rfl
 have f2_1_3 := F2.out.2.1.fz 3
 have ne2_0_1 : ¬ w.heap.size = w2.heap.size := by omega
 have ne2_1_0 : ¬ w2.heap.size = w.heap.size := by omega
 go_wp2
 refine bodyPost_ret (v := .tuple #[.agg #[.string ⟨#[]⟩, .int .i64 0, .bool false], .bool false, .iface T V]) (by simp [results, Tryz.results5, go_sem, World.cell?_setCell_same, World.cell?_setCell_other, *]) rfl ⟨rfl, ?_⟩
 repeat (first | refine Below.setCell ?_ (by first | exact Nat.le_refl _ | (dsimp only; omega)) _ | refine Below.alloc ?_ (by first | exact Nat.le_refl _ | omega | (simp; omega)) _ | refine Below.drew ?_)
 exact F2.out.2.2
theorem hd_not {b z n k m xe : Int} {ng : Bool} (k2 : k ≠ 2) (HU : ∀ W, Calls Tryz.prog 14 #[.int .u64 b, .int .i64 z] W fun e w' => e = .returned (.tuple #[.agg #[.bool ng, .int .i64 k, .int .u64 m, .int .i64 xe], .nilIface]) ∧ Below W.heap.size W w') (w : World) :
 Calls Tryz.prog 5 #[.int .u64 b, .int .i64 z, .int .i64 n] w fun x w' => x = .returned (.tuple #[.agg #[.string ⟨#[]⟩, .int .i64 0, .bool false], .bool false, .iface 42 (.int .i64 1)]) ∧ Below w.heap.size w w' := by
 have F0 : Hid (Bk (w.alloc (.cells #[.string ⟨#[]⟩, .int .i64 0, .bool false] 24)) (w.heap.size) [.string ⟨#[]⟩, .int .i64 0, .bool false] ∧ Below w.heap.size w (w.alloc (.cells #[.string ⟨#[]⟩, .int .i64 0, .bool false] 24))) := ⟨Bk.newL w [.string ⟨#[]⟩, .int .i64 0, .bool false] 24, ((Below.refl w.heap.size w)).alloc (Nat.le_refl _) _⟩
 go_enter Tryz.func5, Tryz.ntmps5
 go_upto_region 1 with fail
 generalize (w.alloc (.cells #[.string ⟨#[]⟩, .int .i64 0, .bool false] 24)) = w1 at *
 have l1_0 := F0.out.1.lt
 have a1_0_0 := F0.out.1.cell 0 _ rfl
 have f1_0_0 := F0.out.1.fz 0
 have a1_0_1 := F0.out.1.cell 1 _ rfl
 have f1_0_1 := F0.out.1.fz 1
 have a1_0_2 := F0.out.1.cell 2 _ rfl
 have f1_0_2 := F0.out.1.fz 2
 go_wp2_with fail
 all_goals first | (exfalso; omega) | skip
 refine (HU _).mono ?_
 rintro o2 w2 ⟨rfl, bb⟩
 have F1 : Hid (Bk w2 (w.heap.size) [.string ⟨#[]⟩, .int .i64 0, .bool false] ∧ Below w.heap.size w w2) := ⟨(F0.out.1).step bb, (F0.out.2).trans (bb.mono (F0.out.2).size)⟩
 clear F0
 clear bb
 clear l1_0 a1_0_0 f1_0_0 a1_0_1 f1_0_1 a1_0_2 f1_0_2
 have lt0_1 := (F1.out.1).lt
 have le1 := (F1.out.2).size
 have F2 : Hid (Bk (w2.alloc (.cells #[.bool ng, .int .i64 k, .int .u64 m, .int .i64 xe] 39)) (w.heap.size) [.string ⟨#[]⟩, .int .i64 0, .bool false] ∧ Bk (w2.alloc (.cells #[.bool ng, .int .i64 k, .int .u64 m, .int .i64 xe] 39)) (w2.heap.size) [.bool ng, .int .i64 k, .int .u64 m, .int .i64 xe] ∧ Below w.heap.size w (w2.alloc (.cells #[.bool ng, .int .i64 k, .int .u64 m, .int .i64 xe] 39))) := ⟨(F1.out.1).step ((Below.refl _ _).alloc (Nat.le_refl _) _), Bk.newL w2 [.bool ng, .int .i64 k, .int .u64 m, .int .i64 xe] 39, (F1.out.2).alloc ((F1.out.2).size) _⟩
 clear F1
 go_upto_region 2 with fail
 generalize (w2.alloc (.cells #[.bool ng, .int .i64 k, .int .u64 m, .int .i64 xe] 39)) = w3 at *
 have l2_0 := F2.out.1.lt
 have a2_0_0 := F2.out.1.cell 0 _ rfl
 have f2_0_0 := F2.out.1.fz 0
 have a2_0_1 := F2.out.1.cell 1 _ rfl
 have f2_0_1 := F2.out.1.fz 1
 have a2_0_2 := F2.out.1.cell 2 _ rfl
 have f2_0_2 := F2.out.1.fz 2
 have l2_1 := F2.out.2.1.lt
 have a2_1_0 := F2.out.2.1.cell 0 _ rfl
 have f2_1_0 := F2.out.2.1.fz 0
 have a2_1_1 := F2.out.2.1.cell 1 _ rfl
 have f2_1_1 := F2.out.2.1.fz 1
 have a2_1_2 := F2.out.2.1.cell 2 _ rfl
 have f2_1_2 := F2.out.2.1.fz 2
 have a2_1_3 := F2.out.2.1.cell 3 _ rfl
 have f2_1_3 := F2.out.2.1.fz 3
 have ne2_0_1 : ¬ w.heap.size = w2.heap.size := by omega
 have ne2_1_0 : ¬ w2.heap.size = w.heap.size := by omega
 have k3 : (k != 2) = true := bne_iff_ne.mpr k2
 go_wp2
 refine bodyPost_ret (v := .tuple #[.agg #[.string ⟨#[]⟩, .int .i64 0, .bool false], .bool false, .iface 42 (.int .i64 1)]) (by simp [results, Tryz.results5, go_sem, World.cell?_setCell_same, World.cell?_setCell_other, *]) rfl ⟨rfl, ?_⟩
 repeat (first | refine Below.setCell ?_ (by first | exact Nat.le_refl _ | (dsimp only; omega)) _ | refine Below.alloc ?_ (by first | exact Nat.le_refl _ | omega | (simp; omega)) _ | refine Below.drew ?_)
 exact F2.out.2.2
theorem hd_lo {b z n m xe : Int} {ng : Bool} (n1 : n < 1) (HU : ∀ W, Calls Tryz.prog 14 #[.int .u64 b, .int .i64 z] W fun e w' => e = .returned (.tuple #[.agg #[.bool ng, .int .i64 2, .int .u64 m, .int .i64 xe], .nilIface]) ∧ Below W.heap.size W w') (w : World) :
 Calls Tryz.prog 5 #[.int .u64 b, .int .i64 z, .int .i64 n] w fun x w' => x = .returned (.tuple #[.agg #[.string ⟨#[]⟩, .int .i64 0, .bool false], .bool false, .iface 42 (.int .i64 1)]) ∧ Below w.heap.size w w' := by
 have F0 : Hid (Bk (w.alloc (.cells #[.string ⟨#[]⟩, .int .i64 0, .bool false] 24)) (w.heap.size) [.string ⟨#[]⟩, .int .i64 0, .bool false] ∧ Below w.heap.size w (w.alloc (.cells #[.string ⟨#[]⟩, .int .i64 0, .bool false] 24))) := ⟨Bk.newL w [.string ⟨#[]⟩, .int .i64 0, .bool false] 24, ((Below.refl w.heap.size w)).alloc (Nat.le_refl _) _⟩
 go_enter Tryz.func5, Tryz.ntmps5
 go_upto_region 1 with fail
 generalize (w.alloc (.cells #[.string ⟨#[]⟩, .int .i64 0, .bool false] 24)) = w1 at *
 have l1_0 := F0.out.1.lt
 have a1_0_0 := F0.out.1.cell 0 _ rfl
 have f1_0_0 := F0.out.1.fz 0
 have a1_0_1 := F0.out.1.cell 1 _ rfl
 have f1_0_1 := F0.out.1.fz 1
 have a1_0_2 := F0.out.1.cell 2 _ rfl
 have f1_0_2 := F0.out.1.fz 2
 go_wp2_with fail
 all_goals first | (exfalso; omega) | skip
 refine (HU _).mono ?_
 rintro o2 w2 ⟨rfl, bb⟩
 have F1 : Hid (Bk w2 (w.heap.size) [.string ⟨#[]⟩, .int .i64 0, .bool false] ∧ Below w.heap.size w w2) := ⟨(F0.out.1).step bb, (F0.out.2).trans (bb.mono (F0.out.2).size)⟩
 clear F0
 clear bb
 clear l1_0 a1_0_0 f1_0_0 a1_0_1 f1_0_1 a1_0_2 f1_0_2
 have lt0_1 := (F1.out.1).lt
 have le1 := (F1.out.2).size
 have F2 : Hid (Bk (w2.alloc (.cells #[.bool ng, .int .i64 2, .int .u64 m, .int .i64 xe] 39)) (w.heap.size) [.string ⟨#[]⟩, .int .i64 0, .bool false] ∧ Bk (w2.alloc (.cells #[.bool ng, .int .i64 2, .int .u64 m, .int .i64 xe] 39)) (w2.heap.size) [.bool ng, .int .i64 2, .int .u64 m, .int .i64 xe] ∧ Below w.heap.size w (w2.alloc (.cells #[.bool ng, .int .i64 2, .int .u64 m, .int .i64 xe] 39))) := ⟨(F1.out.1).step ((Below.refl _ _).alloc (Nat.le_refl _) _), Bk.newL w2 [.bool ng, .int .i64 2, .int .u64 m, .int .i64 xe] 39, (F1.out.2).alloc ((F1.out.2).size) _⟩
 clear F1
 go_upto_region 2 with fail
 generalize (w2.alloc (.cells #[.bool ng, .int .i64 2, .int .u64 m, .int .i64 xe] 39)) = w3 at *
 have l2_0 := F2.out.1.lt
 have a2_0_0 := F2.out.1.cell 0 _ rfl
 have f2_0_0 := F2.out.1.fz 0
 have a2_0_1 := F2.out.1.cell 1 _ rfl
 have f2_0_1 := F2.out.1.fz 1
 have a2_0_2 := F2.out.1.cell 2 _ rfl
 have f2_0_2 := F2.out.1.fz 2
 have l2_1 := F2.out.2.1.lt
 have a2_1_0 := F2.out.2.1.cell 0 _ rfl
 have f2_1_0 := F2.out.2.1.fz 0
 have a2_1_1 := F2.out.2.1.cell 1 _ rfl
 have f2_1_1 := F2.out.2.1.fz 1
 have a2_1_2 := F2.out.2.1.cell 2 _ rfl
 have f2_1_2 := F2.out.2.1.fz 2
 have a2_1_3 := F2.out.2.1.cell 3 _ rfl
 have f2_1_3 := F2.out.2.1.fz 3
 have ne2_0_1 : ¬ w.heap.size = w2.heap.size := by omega
 have ne2_1_0 : ¬ w2.heap.size = w.heap.size := by omega
 skip
 go_wp2
 refine bodyPost_ret (v := .tuple #[.agg #[.string ⟨#[]⟩, .int .i64 0, .bool false], .bool false, .iface 42 (.int .i64 1)]) (by simp [results, Tryz.results5, go_sem, World.cell?_setCell_same, World.cell?_setCell_other, *]) rfl ⟨rfl, ?_⟩
 repeat (first | refine Below.setCell ?_ (by first | exact Nat.le_refl _ | (dsimp only; omega)) _ | refine Below.alloc ?_ (by first | exact Nat.le_refl _ | omega | (simp; omega)) _ | refine Below.drew ?_)
 exact F2.out.2.2
theorem hd_hi {b z n m xe : Int} {ng : Bool} (n1 : 18 < n) (HU : ∀ W, Calls Tryz.prog 14 #[.int .u64 b, .int .i64 z] W fun e w' => e = .returned (.tuple #[.agg #[.bool ng, .int .i64 2, .int .u64 m, .int .i64 xe], .nilIface]) ∧ Below W.heap.size W w') (w : World) :
 Calls Tryz.prog 5 #[.int .u64 b, .int .i64 z, .int .i64 n] w fun x w' => x = .returned (.tuple #[.agg #[.string ⟨#[]⟩, .int .i64 0, .bool false], .bool false, .iface 42 (.int .i64 1)]) ∧ Below w.heap.size w w' := by
 have F0 : Hid (Bk (w.alloc (.cells #[.string ⟨#[]⟩, .int .i64 0, .bool false] 24)) (w.heap.size) [.string ⟨#[]⟩, .int .i64 0, .bool false] ∧ Below w.heap.size w (w.alloc (.cells #[.string ⟨#[]⟩, .int .i64 0, .bool false] 24))) := ⟨Bk.newL w [.string ⟨#[]⟩, .int .i64 0, .bool false] 24, ((Below.refl w.heap.size w)).alloc (Nat.le_refl _) _⟩
 go_enter Tryz.func5, Tryz.ntmps5
 go_upto_region 1 with fail
 generalize (w.alloc (.cells #[.string ⟨#[]⟩, .int .i64 0, .bool false] 24)) = w1 at *
 have l1_0 := F0.out.1.lt
 have a1_0_0 := F0.out.1.cell 0 _ rfl
 have f1_0_0 := F0.out.1.fz 0
 have a1_0_1 := F0.out.1.cell 1 _ rfl
 have f1_0_1 := F0.out.1.fz 1
 have a1_0_2 := F0.out.1.cell 2 _ rfl
 have f1_0_2 := F0.out.1.fz 2
 go_wp2_with fail
 all_goals first | (exfalso; omega) | skip
 refine (HU _).mono ?_
 rintro o2 w2 ⟨rfl, bb⟩
 have F1 : Hid (Bk w2 (w.heap.size) [.string ⟨#[]⟩, .int .i64 0, .bool false] ∧ Below w.heap.size w w2) := ⟨(F0.out.1).step bb, (F0.out.2).trans (bb.mono (F0.out.2).size)⟩
 clear F0
 clear bb
 clear l1_0 a1_0_0 f1_0_0 a1_0_1 f1_0_1 a1_0_2 f1_0_2
 have lt0_1 := (F1.out.1).lt
 have le1 := (F1.out.2).size
 have F2 : Hid (Bk (w2.alloc (.cells #[.bool ng, .int .i64 2, .int .u64 m, .int .i64 xe] 39)) (w.heap.size) [.string ⟨#[]⟩, .int .i64 0, .bool false] ∧ Bk (w2.alloc (.cells #[.bool ng, .int .i64 2, .int .u64 m, .int .i64 xe] 39)) (w2.heap.size) [.bool ng, .int .i64 2, .int .u64 m, .int .i64 xe] ∧ Below w.heap.size w (w2.alloc (.cells #[.bool ng, .int .i64 2, .int .u64 m, .int .i64 xe] 39))) := ⟨(F1.out.1).step ((Below.refl _ _).alloc (Nat.le_refl _) _), Bk.newL w2 [.bool ng, .int .i64 2, .int .u64 m, .int .i64 xe] 39, (F1.out.2).alloc ((F1.out.2).size) _⟩
 clear F1
 go_upto_region 2 with fail
 generalize (w2.alloc (.cells #[.bool ng, .int .i64 2, .int .u64 m, .int .i64 xe] 39)) = w3 at *
 have l2_0 := F2.out.1.lt
 have a2_0_0 := F2.out.1.cell 0 _ rfl
 have f2_0_0 := F2.out.1.fz 0
 have a2_0_1 := F2.out.1.cell 1 _ rfl
 have f2_0_1 := F2.out.1.fz 1
 have a2_0_2 := F2.out.1.cell 2 _ rfl
 have f2_0_2 := F2.out.1.fz 2
 have l2_1 := F2.out.2.1.lt
 have a2_1_0 := F2.out.2.1.cell 0 _ rfl
 have f2_1_0 := F2.out.2.1.fz 0
 have a2_1_1 := F2.out.2.1.cell 1 _ rfl
 have f2_1_1 := F2.out.2.1.fz 1
 have a2_1_2 := F2.out.2.1.cell 2 _ rfl
 have f2_1_2 := F2.out.2.1.fz 2
 have a2_1_3 := F2.out.2.1.cell 3 _ rfl
 have f2_1_3 := F2.out.2.1.fz 3
 have ne2_0_1 : ¬ w.heap.size = w2.heap.size := by omega
 have ne2_1_0 : ¬ w2.heap.size = w.heap.size := by omega
 have n2 : ¬ n < 1 := by omega
 go_wp2
 refine bodyPost_ret (v := .tuple #[.agg #[.string ⟨#[]⟩, .int .i64 0, .bool false], .bool false, .iface 42 (.int .i64 1)]) (by simp [results, Tryz.results5, go_sem, World.cell?_setCell_same, World.cell?_setCell_other, *]) rfl ⟨rfl, ?_⟩
 repeat (first | refine Below.setCell ?_ (by first | exact Nat.le_refl _ | (dsimp only; omega)) _ | refine Below.alloc ?_ (by first | exact Nat.le_refl _ | omega | (simp; omega)) _ | refine Below.drew ?_)
 exact F2.out.2.2
theorem hd_ok {w : World} {b z n m xe mh ml X p d : Int} {F : Nat} {ng ex s : Bool} {t : ByteArray} {o : Int} (n1 : 1 ≤ n) (n2 : n ≤ 18) (hT : Tab w) (hP : ∀ w', Below w.heap.size w w' → Pow w') (HU : ∀ W, Calls Tryz.prog 14 #[.int .u64 b, .int .i64 z] W fun e w' => e = .returned (.tuple #[.agg #[.bool ng, .int .i64 2, .int .u64 m, .int .i64 xe], .nilIface]) ∧ Below W.heap.size W w') (HS : ∀ W, Tab W → Calls Tryz.prog 15 #[.agg #[.bool ng, .int .i64 2, .int .u64 m, .int .i64 xe], .int .i64 n] W fun e w' => e = .returned (.tuple #[.agg #[.int .u64 mh, .int .u64 ml, .int .i64 X, .bool ex, .int .i64 p, .int .i64 d], .int .u64 (F : Int)]) ∧ Below W.heap.size W w') (HH : ∀ W, Tab W → (∀ w', Below W.heap.size W w' → Pow w') → Calls Tryz.prog 16 #[.agg #[.int .u64 mh, .int .u64 ml, .int .i64 X, .bool ex, .int .i64 p, .int .i64 d], .int .u64 (F : Int), .int .i64 n] W fun e w' => e = .returned (.tuple #[.agg #[.string t, .int .i64 o, .bool false], .bool s]) ∧ Below W.heap.size W w') :
 Calls Tryz.prog 5 #[.int .u64 b, .int .i64 z, .int .i64 n] w fun x w' => x = .returned (.tuple #[.agg #[.string t, .int .i64 o, .bool false], .bool s, .nilIface]) ∧ Below w.heap.size w w' := by
 have F0 : Hid (Bk (w.alloc (.cells #[.string ⟨#[]⟩, .int .i64 0, .bool false] 24)) (w.heap.size) [.string ⟨#[]⟩, .int .i64 0, .bool false] ∧ Below w.heap.size w (w.alloc (.cells #[.string ⟨#[]⟩, .int .i64 0, .bool false] 24))) := ⟨Bk.newL w [.string ⟨#[]⟩, .int .i64 0, .bool false] 24, ((Below.refl w.heap.size w)).alloc (Nat.le_refl _) _⟩
 go_enter Tryz.func5, Tryz.ntmps5
 go_upto_region 1 with fail
 generalize (w.alloc (.cells #[.string ⟨#[]⟩, .int .i64 0, .bool false] 24)) = w1 at *
 have l1_0 := F0.out.1.lt
 have a1_0_0 := F0.out.1.cell 0 _ rfl
 have f1_0_0 := F0.out.1.fz 0
 have a1_0_1 := F0.out.1.cell 1 _ rfl
 have f1_0_1 := F0.out.1.fz 1
 have a1_0_2 := F0.out.1.cell 2 _ rfl
 have f1_0_2 := F0.out.1.fz 2
 go_wp2_with fail
 all_goals first | (exfalso; omega) | skip
 refine (HU _).mono ?_
 rintro o2 w2 ⟨rfl, bb⟩
 have F1 : Hid (Bk w2 (w.heap.size) [.string ⟨#[]⟩, .int .i64 0, .bool false] ∧ Below w.heap.size w w2) := ⟨(F0.out.1).step bb, (F0.out.2).trans (bb.mono (F0.out.2).size)⟩
 clear F0
 clear bb
 clear l1_0 a1_0_0 f1_0_0 a1_0_1 f1_0_1 a1_0_2 f1_0_2
 have lt0_1 := (F1.out.1).lt
 have le1 := (F1.out.2).size
 have F2 : Hid (Bk (w2.alloc (.cells #[.bool ng, .int .i64 2, .int .u64 m, .int .i64 xe] 39)) (w.heap.size) [.string ⟨#[]⟩, .int .i64 0, .bool false] ∧ Bk (w2.alloc (.cells #[.bool ng, .int .i64 2, .int .u64 m, .int .i64 xe] 39)) (w2.heap.size) [.bool ng, .int .i64 2, .int .u64 m, .int .i64 xe] ∧ Below w.heap.size w (w2.alloc (.cells #[.bool ng, .int .i64 2, .int .u64 m, .int .i64 xe] 39))) := ⟨(F1.out.1).step ((Below.refl _ _).alloc (Nat.le_refl _) _), Bk.newL w2 [.bool ng, .int .i64 2, .int .u64 m, .int .i64 xe] 39, (F1.out.2).alloc ((F1.out.2).size) _⟩
 clear F1
 go_upto_region 2 with fail
 generalize (w2.alloc (.cells #[.bool ng, .int .i64 2, .int .u64 m, .int .i64 xe] 39)) = w3 at *
 have l2_0 := F2.out.1.lt
 have a2_0_0 := F2.out.1.cell 0 _ rfl
 have f2_0_0 := F2.out.1.fz 0
 have a2_0_1 := F2.out.1.cell 1 _ rfl
 have f2_0_1 := F2.out.1.fz 1
 have a2_0_2 := F2.out.1.cell 2 _ rfl
 have f2_0_2 := F2.out.1.fz 2
 have l2_1 := F2.out.2.1.lt
 have a2_1_0 := F2.out.2.1.cell 0 _ rfl
 have f2_1_0 := F2.out.2.1.fz 0
 have a2_1_1 := F2.out.2.1.cell 1 _ rfl
 have f2_1_1 := F2.out.2.1.fz 1
 have a2_1_2 := F2.out.2.1.cell 2 _ rfl
 have f2_1_2 := F2.out.2.1.fz 2
 have a2_1_3 := F2.out.2.1.cell 3 _ rfl
 have f2_1_3 := F2.out.2.1.fz 3
 have ne2_0_1 : ¬ w.heap.size = w2.heap.size := by omega
 have ne2_1_0 : ¬ w2.heap.size = w.heap.size := by omega
 have n3 : ¬ n < 1 := by omega
 have n4 : ¬ 18 < n := by omega
 go_wp2_with fail
 all_goals first | (exfalso; omega) | skip
 refine (HS _ (hT.next F2.out.2.2)).mono ?_
 rintro o4 w4 ⟨rfl, bb⟩
 have F3 : Hid (Bk w4 (w.heap.size) [.string ⟨#[]⟩, .int .i64 0, .bool false] ∧ Bk w4 (w2.heap.size) [.bool ng, .int .i64 2, .int .u64 m, .int .i64 xe] ∧ Below w.heap.size w w4) := ⟨(F2.out.1).step bb, (F2.out.2.1).step bb, (F2.out.2.2).trans (bb.mono (F2.out.2.2).size)⟩
 clear F2
 clear bb
 clear l2_0 a2_0_0 f2_0_0 a2_0_1 f2_0_1 a2_0_2 f2_0_2 l2_1 a2_1_0 f2_1_0 a2_1_1 f2_1_1 a2_1_2 f2_1_2 a2_1_3 f2_1_3
 have lt0_2 := (F3.out.1).lt
 have lt1_2 := (F3.out.2.1).lt
 have le2 := (F3.out.2.2).size
 have F4 : Hid (Bk (w4.alloc (.cells #[.int .u64 mh, .int .u64 ml, .int .i64 X, .bool ex, .int .i64 p, .int .i64 d] 48)) (w.heap.size) [.string ⟨#[]⟩, .int .i64 0, .bool false] ∧ Bk (w4.alloc (.cells #[.int .u64 mh, .int .u64 ml, .int .i64 X, .bool ex, .int .i64 p, .int .i64 d] 48)) (w2.heap.size) [.bool ng, .int .i64 2, .int .u64 m, .int .i64 xe] ∧ Bk (w4.alloc (.cells #[.int .u64 mh, .int .u64 ml, .int .i64 X, .bool ex, .int .i64 p, .int .i64 d] 48)) (w4.heap.size) [.int .u64 mh, .int .u64 ml, .int .i64 X, .bool ex, .int .i64 p, .int .i64 d] ∧ Below w.heap.size w (w4.alloc (.cells #[.int .u64 mh, .int .u64 ml, .int .i64 X, .bool ex, .int .i64 p, .int .i64 d] 48))) := ⟨(F3.out.1).step ((Below.refl _ _).alloc (Nat.le_refl _) _), (F3.out.2.1).step ((Below.refl _ _).alloc (Nat.le_refl _) _), Bk.newL w4 [.int .u64 mh, .int .u64 ml, .int .i64 X, .bool ex, .int .i64 p, .int .i64 d] 48, (F3.out.2.2).alloc ((F3.out.2.2).size) _⟩
 clear F3
 go_upto_region 7 with fail
 generalize (w4.alloc (.cells #[.int .u64 mh, .int .u64 ml, .int .i64 X, .bool ex, .int .i64 p, .int .i64 d] 48)) = w5 at *
 have l3_0 := F4.out.1.lt
 have a3_0_0 := F4.out.1.cell 0 _ rfl
 have f3_0_0 := F4.out.1.fz 0
 have a3_0_1 := F4.out.1.cell 1 _ rfl
 have f3_0_1 := F4.out.1.fz 1
 have a3_0_2 := F4.out.1.cell 2 _ rfl
 have f3_0_2 := F4.out.1.fz 2
 have l3_1 := F4.out.2.1.lt
 have a3_1_0 := F4.out.2.1.cell 0 _ rfl
 have f3_1_0 := F4.out.2.1.fz 0
 have a3_1_1 := F4.out.2.1.cell 1 _ rfl
 have f3_1_1 := F4.out.2.1.fz 1
 have a3_1_2 := F4.out.2.1.cell 2 _ rfl
 have f3_1_2 := F4.out.2.1.fz 2
 have a3_1_3 := F4.out.2.1.cell 3 _ rfl
 have f3_1_3 := F4.out.2.1.fz 3
 have l3_2 := F4.out.2.2.1.lt
 have a3_2_0 := F4.out.2.2.1.cell 0 _ rfl
 have f3_2_0 := F4.out.2.2.1.fz 0
 have a3_2_1 := F4.out.2.2.1.cell 1 _ rfl
 have f3_2_1 := F4.out.2.2.1.fz 1
 have a3_2_2 := F4.out.2.2.1.cell 2 _ rfl
 have f3_2_2 := F4.out.2.2.1.fz 2
 have a3_2_3 := F4.out.2.2.1.cell 3 _ rfl
 have f3_2_3 := F4.out.2.2.1.fz 3
 have a3_2_4 := F4.out.2.2.1.cell 4 _ rfl
 have f3_2_4 := F4.out.2.2.1.fz 4
 have a3_2_5 := F4.out.2.2.1.cell 5 _ rfl
 have f3_2_5 := F4.out.2.2.1.fz 5
 have ne3_0_1 : ¬ w.heap.size = w2.heap.size := by omega
 have ne3_0_2 : ¬ w.heap.size = w4.heap.size := by omega
 have ne3_1_0 : ¬ w2.heap.size = w.heap.size := by omega
 have ne3_1_2 : ¬ w2.heap.size = w4.heap.size := by omega
 have ne3_2_0 : ¬ w4.heap.size = w.heap.size := by omega
 have ne3_2_1 : ¬ w4.heap.size = w2.heap.size := by omega
 go_wp2_with fail
 all_goals first | (exfalso; omega) | skip
 refine (HH _ (hT.next F4.out.2.2.2) (fun w' hw => hP w' (below_nextH F4.out.2.2.2 hw))).mono ?_
 rintro o6 w6 ⟨rfl, bb⟩
 have F5 : Hid (Bk w6 (w.heap.size) [.string ⟨#[]⟩, .int .i64 0, .bool false] ∧ Bk w6 (w2.heap.size) [.bool ng, .int .i64 2, .int .u64 m, .int .i64 xe] ∧ Bk w6 (w4.heap.size) [.int .u64 mh, .int .u64 ml, .int .i64 X, .bool ex, .int .i64 p, .int .i64 d] ∧ Below w.heap.size w w6) := ⟨(F4.out.1).step bb, (F4.out.2.1).step bb, (F4.out.2.2.1).step bb, (F4.out.2.2.2).trans (bb.mono (F4.out.2.2.2).size)⟩
 clear F4
 clear bb
 clear l3_0 a3_0_0 f3_0_0 a3_0_1 f3_0_1 a3_0_2 f3_0_2 l3_1 a3_1_0 f3_1_0 a3_1_1 f3_1_1 a3_1_2 f3_1_2 a3_1_3 f3_1_3 l3_2 a3_2_0 f3_2_0 a3_2_1 f3_2_1 a3_2_2 f3_2_2 a3_2_3 f3_2_3 a3_2_4 f3_2_4 a3_2_5 f3_2_5
 have lt0_3 := (F5.out.1).lt
 have lt1_3 := (F5.out.2.1).lt
 have lt2_3 := (F5.out.2.2.1).lt
 have le3 := (F5.out.2.2.2).size
 have F6 : Hid (Bk (w6.alloc (.cells #[.string t, .int .i64 o, .bool false] 24)) (w.heap.size) [.string ⟨#[]⟩, .int .i64 0, .bool false] ∧ Bk (w6.alloc (.cells #[.string t, .int .i64 o, .bool false] 24)) (w2.heap.size) [.bool ng, .int .i64 2, .int .u64 m, .int .i64 xe] ∧ Bk (w6.alloc (.cells #[.string t, .int .i64 o, .bool false] 24)) (w4.heap.size) [.int .u64 mh, .int .u64 ml, .int .i64 X, .bool ex, .int .i64 p, .int .i64 d] ∧ Bk (w6.alloc (.cells #[.string t, .int .i64 o, .bool false] 24)) (w6.heap.size) [.string t, .int .i64 o, .bool false] ∧ Below w.heap.size w (w6.alloc (.cells #[.string t, .int .i64 o, .bool false] 24))) := ⟨(F5.out.1).step ((Below.refl _ _).alloc (Nat.le_refl _) _), (F5.out.2.1).step ((Below.refl _ _).alloc (Nat.le_refl _) _), (F5.out.2.2.1).step ((Below.refl _ _).alloc (Nat.le_refl _) _), Bk.newL w6 [.string t, .int .i64 o, .bool false] 24, (F5.out.2.2.2).alloc ((F5.out.2.2.2).size) _⟩
 clear F5
 go_upto_region 8 with fail
 generalize (w6.alloc (.cells #[.string t, .int .i64 o, .bool false] 24)) = w7 at *
 have l4_0 := F6.out.1.lt
 have a4_0_0 := F6.out.1.cell 0 _ rfl
 have f4_0_0 := F6.out.1.fz 0
 have a4_0_1 := F6.out.1.cell 1 _ rfl
 have f4_0_1 := F6.out.1.fz 1
 have a4_0_2 := F6.out.1.cell 2 _ rfl
 have f4_0_2 := F6.out.1.fz 2
 have l4_1 := F6.out.2.1.lt
 have a4_1_0 := F6.out.2.1.cell 0 _ rfl
 have f4_1_0 := F6.out.2.1.fz 0
 have a4_1_1 := F6.out.2.1.cell 1 _ rfl
 have f4_1_1 := F6.out.2.1.fz 1
 have a4_1_2 := F6.out.2.1.cell 2 _ rfl
 have f4_1_2 := F6.out.2.1.fz 2
 have a4_1_3 := F6.out.2.1.cell 3 _ rfl
 have f4_1_3 := F6.out.2.1.fz 3
 have l4_2 := F6.out.2.2.1.lt
 have a4_2_0 := F6.out.2.2.1.cell 0 _ rfl
 have f4_2_0 := F6.out.2.2.1.fz 0
 have a4_2_1 := F6.out.2.2.1.cell 1 _ rfl
 have f4_2_1 := F6.out.2.2.1.fz 1
 have a4_2_2 := F6.out.2.2.1.cell 2 _ rfl
 have f4_2_2 := F6.out.2.2.1.fz 2
 have a4_2_3 := F6.out.2.2.1.cell 3 _ rfl
 have f4_2_3 := F6.out.2.2.1.fz 3
 have a4_2_4 := F6.out.2.2.1.cell 4 _ rfl
 have f4_2_4 := F6.out.2.2.1.fz 4
 have a4_2_5 := F6.out.2.2.1.cell 5 _ rfl
 have f4_2_5 := F6.out.2.2.1.fz 5
 have l4_3 := F6.out.2.2.2.1.lt
 have a4_3_0 := F6.out.2.2.2.1.cell 0 _ rfl
 have f4_3_0 := F6.out.2.2.2.1.fz 0
 have a4_3_1 := F6.out.2.2.2.1.cell 1 _ rfl
 have f4_3_1 := F6.out.2.2.2.1.fz 1
 have a4_3_2 := F6.out.2.2.2.1.cell 2 _ rfl
 have f4_3_2 := F6.out.2.2.2.1.fz 2
 have ne4_0_1 : ¬ w.heap.size = w2.heap.size := by omega
 have ne4_0_2 : ¬ w.heap.size = w4.heap.size := by omega
 have ne4_0_3 : ¬ w.heap.size = w6.heap.size := by omega
 have ne4_1_0 : ¬ w2.heap.size = w.heap.size := by omega
 have ne4_1_2 : ¬ w2.heap.size = w4.heap.size := by omega
 have ne4_1_3 : ¬ w2.heap.size = w6.heap.size := by omega
 have ne4_2_0 : ¬ w4.heap.size = w.heap.size := by omega
 have ne4_2_1 : ¬ w4.heap.size = w2.heap.size := by omega
 have ne4_2_3 : ¬ w4.heap.size = w6.heap.size := by omega
 have ne4_3_0 : ¬ w6.heap.size = w.heap.size := by omega
 have ne4_3_1 : ¬ w6.heap.size = w2.heap.size := by omega
 have ne4_3_2 : ¬ w6.heap.size = w4.heap.size := by omega
 go_wp2
 refine bodyPost_ret (v := .tuple #[.agg #[.string t, .int .i64 o, .bool false], .bool s, .nilIface]) (by simp [results, Tryz.results5, go_sem, World.cell?_setCell_same, World.cell?_setCell_other, *]) rfl ⟨rfl, ?_⟩
 repeat (first | refine Below.setCell ?_ (by first | exact Nat.le_refl _ | (dsimp only; omega)) _ | refine Below.alloc ?_ (by first | exact Nat.le_refl _ | omega | (simp; omega)) _ | refine Below.drew ?_)
 exact F6.out.2.2.2.2
end Go.Proofs.YtjagnfddmlkalaaGreatDoor
