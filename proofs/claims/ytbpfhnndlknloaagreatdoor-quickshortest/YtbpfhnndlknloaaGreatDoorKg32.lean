/-
  Holds: QkX QkQ.
-/
import Derived.Test.YtbpfhnndlknloaaGreatDoorRows
import Derived.Laws.Externs
import Derived.WalkKit
import Derived.WalkSpells
import Derived.WalkLawsBesides
import Derived.Lib.Mul64
import Derived.Stop.Asserts
import Derived.RowKitTokens
import Derived.Lib.Strings
import Derived.Lib.BufferWrite
import Derived.Deep.OwnRows
import Derived.Deep.RegionHeld3
import Derived.BigQuiet
import Derived.Lib.ConvBytes
import Derived.Laws.CopyOwn
import Derived.Lib.TrailingZeros
import Derived.Lib.ItoaNum
import Derived.Deep.LoopGhost
import Derived.Deep.AppendLies
import Derived.Deep.DeepCutAuto
import Derived.Test.YtbpfhnndlknloaaGreatDoorShelf
import Derived.Test.YtbpfhnndlknloaaGreatDoorKg28
set_option maxRecDepth 100000
set_option maxHeartbeats 4000000
namespace Go.Proofs.YtbpfhnndlknloaaGreatDoor
open Go.RowKit
theorem qsp_no {w : World} {mh ml X p d : Int} {ex : Bool} {m g u1 u2 u3 : Nat} {m1 m2 m3 ng : Bool} {k xe : Int} (hT : Tab w) (m0 : 0 < m) (hm : m ≤ 9007199254740992) (g1 : 1 ≤ g) (g2 : g ≤ 2) {s1 s2 s3 : Bool} (hs : Hid (s1 = false ∨ (s1 = true ∧ (s2 = false ∨ (s2 = true ∧ s3 = false))))) (H1 : ∀ W, Tab W → Calls Tryz.prog 75 #[.agg #[.int .u64 mh, .int .u64 ml, .int .i64 X, .bool ex, .int .i64 p, .int .i64 d], .int .u64 (4 * (m : Int) - (g : Int))] W fun e w' => e = .returned (.tuple #[.agg #[.int .u64 (u1 : Int), .bool m1], .bool s1]) ∧ Below W.heap.size W w') (H2 : ∀ W, Tab W → Calls Tryz.prog 75 #[.agg #[.int .u64 mh, .int .u64 ml, .int .i64 X, .bool ex, .int .i64 p, .int .i64 d], .int .u64 (4 * (m : Int))] W fun e w' => e = .returned (.tuple #[.agg #[.int .u64 (u2 : Int), .bool m2], .bool s2]) ∧ Below W.heap.size W w') (H3 : ∀ W, Tab W → Calls Tryz.prog 75 #[.agg #[.int .u64 mh, .int .u64 ml, .int .i64 X, .bool ex, .int .i64 p, .int .i64 d], .int .u64 (4 * (m : Int) + 2)] W fun e w' => e = .returned (.tuple #[.agg #[.int .u64 (u3 : Int), .bool m3], .bool s3]) ∧ Below W.heap.size W w') :
 Calls Tryz.prog 34 #[.agg #[.int .u64 mh, .int .u64 ml, .int .i64 X, .bool ex, .int .i64 p, .int .i64 d], .agg #[.bool ng, .int .i64 k, .int .u64 (m : Int), .int .i64 xe], .int .u64 (g : Int)] w fun x w' => x = .returned (.tuple #[.agg #[.int .u64 0, .int .u64 0, .int .u64 0, .bool false], .bool false]) ∧ Below w.heap.size w w' := by
 have F0 : Hid (Bk (((w.alloc (.cells #[.int .u64 mh, .int .u64 ml, .int .i64 X, .bool ex, .int .i64 p, .int .i64 d] 49)).alloc (.cells #[.bool ng, .int .i64 k, .int .u64 (m : Int), .int .i64 xe] 39)).alloc (.cells #[.int .u64 0, .int .u64 0, .int .u64 0, .bool false] 84)) (w.heap.size) [.int .u64 mh, .int .u64 ml, .int .i64 X, .bool ex, .int .i64 p, .int .i64 d] ∧ Bk (((w.alloc (.cells #[.int .u64 mh, .int .u64 ml, .int .i64 X, .bool ex, .int .i64 p, .int .i64 d] 49)).alloc (.cells #[.bool ng, .int .i64 k, .int .u64 (m : Int), .int .i64 xe] 39)).alloc (.cells #[.int .u64 0, .int .u64 0, .int .u64 0, .bool false] 84)) (w.heap.size + 1) [.bool ng, .int .i64 k, .int .u64 (m : Int), .int .i64 xe] ∧ Bk (((w.alloc (.cells #[.int .u64 mh, .int .u64 ml, .int .i64 X, .bool ex, .int .i64 p, .int .i64 d] 49)).alloc (.cells #[.bool ng, .int .i64 k, .int .u64 (m : Int), .int .i64 xe] 39)).alloc (.cells #[.int .u64 0, .int .u64 0, .int .u64 0, .bool false] 84)) (w.heap.size + 1 + 1) [.int .u64 0, .int .u64 0, .int .u64 0, .bool false] ∧ Below w.heap.size w (((w.alloc (.cells #[.int .u64 mh, .int .u64 ml, .int .i64 X, .bool ex, .int .i64 p, .int .i64 d] 49)).alloc (.cells #[.bool ng, .int .i64 k, .int .u64 (m : Int), .int .i64 xe] 39)).alloc (.cells #[.int .u64 0, .int .u64 0, .int .u64 0, .bool false] 84))) := ⟨((Bk.newL w [.int .u64 mh, .int .u64 ml, .int .i64 X, .bool ex, .int .i64 p, .int .i64 d] 49).step ((Below.refl _ _).alloc (Nat.le_refl _) _)).step ((Below.refl _ _).alloc (Nat.le_refl _) _), (((by have q := Bk.newL (w.alloc (.cells #[.int .u64 mh, .int .u64 ml, .int .i64 X, .bool ex, .int .i64 p, .int .i64 d] 49)) [.bool ng, .int .i64 k, .int .u64 (m : Int), .int .i64 xe] 39; simpa using q) : Bk ((w.alloc (.cells #[.int .u64 mh, .int .u64 ml, .int .i64 X, .bool ex, .int .i64 p, .int .i64 d] 49)).alloc (.cells #[.bool ng, .int .i64 k, .int .u64 (m : Int), .int .i64 xe] 39)) (w.heap.size + 1) [.bool ng, .int .i64 k, .int .u64 (m : Int), .int .i64 xe])).step ((Below.refl _ _).alloc (Nat.le_refl _) _), ((by have q := Bk.newL ((w.alloc (.cells #[.int .u64 mh, .int .u64 ml, .int .i64 X, .bool ex, .int .i64 p, .int .i64 d] 49)).alloc (.cells #[.bool ng, .int .i64 k, .int .u64 (m : Int), .int .i64 xe] 39)) [.int .u64 0, .int .u64 0, .int .u64 0, .bool false] 84; simpa using q) : Bk (((w.alloc (.cells #[.int .u64 mh, .int .u64 ml, .int .i64 X, .bool ex, .int .i64 p, .int .i64 d] 49)).alloc (.cells #[.bool ng, .int .i64 k, .int .u64 (m : Int), .int .i64 xe] 39)).alloc (.cells #[.int .u64 0, .int .u64 0, .int .u64 0, .bool false] 84)) (w.heap.size + 1 + 1) [.int .u64 0, .int .u64 0, .int .u64 0, .bool false]), ((((Below.refl w.heap.size w)).alloc (Nat.le_refl _) _).alloc ((((Below.refl w.heap.size w)).alloc (Nat.le_refl _) _).size) _).alloc (((((Below.refl w.heap.size w)).alloc (Nat.le_refl _) _).alloc ((((Below.refl w.heap.size w)).alloc (Nat.le_refl _) _).size) _).size) _⟩
 go_enter Tryz.func34, Tryz.ntmps34
 go_upto_region 1 with fail
 generalize (((w.alloc (.cells #[.int .u64 mh, .int .u64 ml, .int .i64 X, .bool ex, .int .i64 p, .int .i64 d] 49)).alloc (.cells #[.bool ng, .int .i64 k, .int .u64 (m : Int), .int .i64 xe] 39)).alloc (.cells #[.int .u64 0, .int .u64 0, .int .u64 0, .bool false] 84)) = w1 at *
 have l1_0 := F0.out.1.lt
 have a1_0_0 := F0.out.1.cell 0 _ rfl
 have f1_0_0 := F0.out.1.fz 0
 have a1_0_1 := F0.out.1.cell 1 _ rfl
 have f1_0_1 := F0.out.1.fz 1
 have a1_0_2 := F0.out.1.cell 2 _ rfl
 have f1_0_2 := F0.out.1.fz 2
 have a1_0_3 := F0.out.1.cell 3 _ rfl
 have f1_0_3 := F0.out.1.fz 3
 have a1_0_4 := F0.out.1.cell 4 _ rfl
 have f1_0_4 := F0.out.1.fz 4
 have a1_0_5 := F0.out.1.cell 5 _ rfl
 have f1_0_5 := F0.out.1.fz 5
 have l1_1 := F0.out.2.1.lt
 have a1_1_0 := F0.out.2.1.cell 0 _ rfl
 have f1_1_0 := F0.out.2.1.fz 0
 have a1_1_1 := F0.out.2.1.cell 1 _ rfl
 have f1_1_1 := F0.out.2.1.fz 1
 have a1_1_2 := F0.out.2.1.cell 2 _ rfl
 have f1_1_2 := F0.out.2.1.fz 2
 have a1_1_3 := F0.out.2.1.cell 3 _ rfl
 have f1_1_3 := F0.out.2.1.fz 3
 have l1_2 := F0.out.2.2.1.lt
 have a1_2_0 := F0.out.2.2.1.cell 0 _ rfl
 have f1_2_0 := F0.out.2.2.1.fz 0
 have a1_2_1 := F0.out.2.2.1.cell 1 _ rfl
 have f1_2_1 := F0.out.2.2.1.fz 1
 have a1_2_2 := F0.out.2.2.1.cell 2 _ rfl
 have f1_2_2 := F0.out.2.2.1.fz 2
 have a1_2_3 := F0.out.2.2.1.cell 3 _ rfl
 have f1_2_3 := F0.out.2.2.1.fz 3
 have ne1_0_1 : ¬ w.heap.size = w.heap.size + 1 := by omega
 have ne1_0_2 : ¬ w.heap.size = w.heap.size + 1 + 1 := by omega
 have ne1_1_0 : ¬ w.heap.size + 1 = w.heap.size := by omega
 have ne1_1_2 : ¬ w.heap.size + 1 = w.heap.size + 1 + 1 := by omega
 have ne1_2_0 : ¬ w.heap.size + 1 + 1 = w.heap.size := by omega
 have ne1_2_1 : ¬ w.heap.size + 1 + 1 = w.heap.size + 1 := by omega
 go_wp2_with fail
 all_goals first | (exfalso; omega) | skip
 refine (H1 _ (hT.next F0.out.2.2.2)).mono ?_
 rintro o2 w2 ⟨rfl, bb⟩
 have F1 : Hid (Bk w2 (w.heap.size) [.int .u64 mh, .int .u64 ml, .int .i64 X, .bool ex, .int .i64 p, .int .i64 d] ∧ Bk w2 (w.heap.size + 1) [.bool ng, .int .i64 k, .int .u64 (m : Int), .int .i64 xe] ∧ Bk w2 (w.heap.size + 1 + 1) [.int .u64 0, .int .u64 0, .int .u64 0, .bool false] ∧ Below w.heap.size w w2) := ⟨(F0.out.1).step bb, (F0.out.2.1).step bb, (F0.out.2.2.1).step bb, (F0.out.2.2.2).trans (bb.mono (F0.out.2.2.2).size)⟩
 clear F0
 clear bb
 clear l1_0 a1_0_0 f1_0_0 a1_0_1 f1_0_1 a1_0_2 f1_0_2 a1_0_3 f1_0_3 a1_0_4 f1_0_4 a1_0_5 f1_0_5 l1_1 a1_1_0 f1_1_0 a1_1_1 f1_1_1 a1_1_2 f1_1_2 a1_1_3 f1_1_3 l1_2 a1_2_0 f1_2_0 a1_2_1 f1_2_1 a1_2_2 f1_2_2 a1_2_3 f1_2_3
 have lt0_3 := (F1.out.1).lt
 have lt1_3 := (F1.out.2.1).lt
 have lt2_3 := (F1.out.2.2.1).lt
 have le3 := (F1.out.2.2.2).size
 have F2 : Hid (Bk (w2.alloc (.cells #[.int .u64 (u1 : Int), .bool m1] 82)) (w.heap.size) [.int .u64 mh, .int .u64 ml, .int .i64 X, .bool ex, .int .i64 p, .int .i64 d] ∧ Bk (w2.alloc (.cells #[.int .u64 (u1 : Int), .bool m1] 82)) (w.heap.size + 1) [.bool ng, .int .i64 k, .int .u64 (m : Int), .int .i64 xe] ∧ Bk (w2.alloc (.cells #[.int .u64 (u1 : Int), .bool m1] 82)) (w.heap.size + 1 + 1) [.int .u64 0, .int .u64 0, .int .u64 0, .bool false] ∧ Bk (w2.alloc (.cells #[.int .u64 (u1 : Int), .bool m1] 82)) (w2.heap.size) [.int .u64 (u1 : Int), .bool m1] ∧ Below w.heap.size w (w2.alloc (.cells #[.int .u64 (u1 : Int), .bool m1] 82))) := ⟨(F1.out.1).step ((Below.refl _ _).alloc (Nat.le_refl _) _), (F1.out.2.1).step ((Below.refl _ _).alloc (Nat.le_refl _) _), (F1.out.2.2.1).step ((Below.refl _ _).alloc (Nat.le_refl _) _), Bk.newL w2 [.int .u64 (u1 : Int), .bool m1] 82, (F1.out.2.2.2).alloc ((F1.out.2.2.2).size) _⟩
 clear F1
 go_upto_region 3 with fail
 generalize (w2.alloc (.cells #[.int .u64 (u1 : Int), .bool m1] 82)) = w3 at *
 have l2_0 := F2.out.1.lt
 have a2_0_0 := F2.out.1.cell 0 _ rfl
 have f2_0_0 := F2.out.1.fz 0
 have a2_0_1 := F2.out.1.cell 1 _ rfl
 have f2_0_1 := F2.out.1.fz 1
 have a2_0_2 := F2.out.1.cell 2 _ rfl
 have f2_0_2 := F2.out.1.fz 2
 have a2_0_3 := F2.out.1.cell 3 _ rfl
 have f2_0_3 := F2.out.1.fz 3
 have a2_0_4 := F2.out.1.cell 4 _ rfl
 have f2_0_4 := F2.out.1.fz 4
 have a2_0_5 := F2.out.1.cell 5 _ rfl
 have f2_0_5 := F2.out.1.fz 5
 have l2_1 := F2.out.2.1.lt
 have a2_1_0 := F2.out.2.1.cell 0 _ rfl
 have f2_1_0 := F2.out.2.1.fz 0
 have a2_1_1 := F2.out.2.1.cell 1 _ rfl
 have f2_1_1 := F2.out.2.1.fz 1
 have a2_1_2 := F2.out.2.1.cell 2 _ rfl
 have f2_1_2 := F2.out.2.1.fz 2
 have a2_1_3 := F2.out.2.1.cell 3 _ rfl
 have f2_1_3 := F2.out.2.1.fz 3
 have l2_2 := F2.out.2.2.1.lt
 have a2_2_0 := F2.out.2.2.1.cell 0 _ rfl
 have f2_2_0 := F2.out.2.2.1.fz 0
 have a2_2_1 := F2.out.2.2.1.cell 1 _ rfl
 have f2_2_1 := F2.out.2.2.1.fz 1
 have a2_2_2 := F2.out.2.2.1.cell 2 _ rfl
 have f2_2_2 := F2.out.2.2.1.fz 2
 have a2_2_3 := F2.out.2.2.1.cell 3 _ rfl
 have f2_2_3 := F2.out.2.2.1.fz 3
 have l2_3 := F2.out.2.2.2.1.lt
 have a2_3_0 := F2.out.2.2.2.1.cell 0 _ rfl
 have f2_3_0 := F2.out.2.2.2.1.fz 0
 have a2_3_1 := F2.out.2.2.2.1.cell 1 _ rfl
 have f2_3_1 := F2.out.2.2.2.1.fz 1
 have ne2_0_1 : ¬ w.heap.size = w.heap.size + 1 := by omega
 have ne2_0_2 : ¬ w.heap.size = w.heap.size + 1 + 1 := by omega
 have ne2_0_3 : ¬ w.heap.size = w2.heap.size := by omega
 have ne2_1_0 : ¬ w.heap.size + 1 = w.heap.size := by omega
 have ne2_1_2 : ¬ w.heap.size + 1 = w.heap.size + 1 + 1 := by omega
 have ne2_1_3 : ¬ w.heap.size + 1 = w2.heap.size := by omega
 have ne2_2_0 : ¬ w.heap.size + 1 + 1 = w.heap.size := by omega
 have ne2_2_1 : ¬ w.heap.size + 1 + 1 = w.heap.size + 1 := by omega
 have ne2_2_3 : ¬ w.heap.size + 1 + 1 = w2.heap.size := by omega
 have ne2_3_0 : ¬ w2.heap.size = w.heap.size := by omega
 have ne2_3_1 : ¬ w2.heap.size = w.heap.size + 1 := by omega
 have ne2_3_2 : ¬ w2.heap.size = w.heap.size + 1 + 1 := by omega
 go_wp2_with fail
 all_goals first | (exfalso; omega) | skip
 refine (H2 _ (hT.next F2.out.2.2.2.2)).mono ?_
 rintro o4 w4 ⟨rfl, bb⟩
 have F3 : Hid (Bk w4 (w.heap.size) [.int .u64 mh, .int .u64 ml, .int .i64 X, .bool ex, .int .i64 p, .int .i64 d] ∧ Bk w4 (w.heap.size + 1) [.bool ng, .int .i64 k, .int .u64 (m : Int), .int .i64 xe] ∧ Bk w4 (w.heap.size + 1 + 1) [.int .u64 0, .int .u64 0, .int .u64 0, .bool false] ∧ Bk w4 (w2.heap.size) [.int .u64 (u1 : Int), .bool m1] ∧ Below w.heap.size w w4) := ⟨(F2.out.1).step bb, (F2.out.2.1).step bb, (F2.out.2.2.1).step bb, (F2.out.2.2.2.1).step bb, (F2.out.2.2.2.2).trans (bb.mono (F2.out.2.2.2.2).size)⟩
 clear F2
 clear bb
 clear l2_0 a2_0_0 f2_0_0 a2_0_1 f2_0_1 a2_0_2 f2_0_2 a2_0_3 f2_0_3 a2_0_4 f2_0_4 a2_0_5 f2_0_5 l2_1 a2_1_0 f2_1_0 a2_1_1 f2_1_1 a2_1_2 f2_1_2 a2_1_3 f2_1_3 l2_2 a2_2_0 f2_2_0 a2_2_1 f2_2_1 a2_2_2 f2_2_2 a2_2_3 f2_2_3 l2_3 a2_3_0 f2_3_0 a2_3_1 f2_3_1
 have lt0_4 := (F3.out.1).lt
 have lt1_4 := (F3.out.2.1).lt
 have lt2_4 := (F3.out.2.2.1).lt
 have lt3_4 := (F3.out.2.2.2.1).lt
 have le4 := (F3.out.2.2.2.2).size
 have F4 : Hid (Bk (w4.alloc (.cells #[.int .u64 (u2 : Int), .bool m2] 82)) (w.heap.size) [.int .u64 mh, .int .u64 ml, .int .i64 X, .bool ex, .int .i64 p, .int .i64 d] ∧ Bk (w4.alloc (.cells #[.int .u64 (u2 : Int), .bool m2] 82)) (w.heap.size + 1) [.bool ng, .int .i64 k, .int .u64 (m : Int), .int .i64 xe] ∧ Bk (w4.alloc (.cells #[.int .u64 (u2 : Int), .bool m2] 82)) (w.heap.size + 1 + 1) [.int .u64 0, .int .u64 0, .int .u64 0, .bool false] ∧ Bk (w4.alloc (.cells #[.int .u64 (u2 : Int), .bool m2] 82)) (w2.heap.size) [.int .u64 (u1 : Int), .bool m1] ∧ Bk (w4.alloc (.cells #[.int .u64 (u2 : Int), .bool m2] 82)) (w4.heap.size) [.int .u64 (u2 : Int), .bool m2] ∧ Below w.heap.size w (w4.alloc (.cells #[.int .u64 (u2 : Int), .bool m2] 82))) := ⟨(F3.out.1).step ((Below.refl _ _).alloc (Nat.le_refl _) _), (F3.out.2.1).step ((Below.refl _ _).alloc (Nat.le_refl _) _), (F3.out.2.2.1).step ((Below.refl _ _).alloc (Nat.le_refl _) _), (F3.out.2.2.2.1).step ((Below.refl _ _).alloc (Nat.le_refl _) _), Bk.newL w4 [.int .u64 (u2 : Int), .bool m2] 82, (F3.out.2.2.2.2).alloc ((F3.out.2.2.2.2).size) _⟩
 clear F3
 go_upto_region 4 with fail
 generalize (w4.alloc (.cells #[.int .u64 (u2 : Int), .bool m2] 82)) = w5 at *
 have l3_0 := F4.out.1.lt
 have a3_0_0 := F4.out.1.cell 0 _ rfl
 have f3_0_0 := F4.out.1.fz 0
 have a3_0_1 := F4.out.1.cell 1 _ rfl
 have f3_0_1 := F4.out.1.fz 1
 have a3_0_2 := F4.out.1.cell 2 _ rfl
 have f3_0_2 := F4.out.1.fz 2
 have a3_0_3 := F4.out.1.cell 3 _ rfl
 have f3_0_3 := F4.out.1.fz 3
 have a3_0_4 := F4.out.1.cell 4 _ rfl
 have f3_0_4 := F4.out.1.fz 4
 have a3_0_5 := F4.out.1.cell 5 _ rfl
 have f3_0_5 := F4.out.1.fz 5
 have l3_1 := F4.out.2.1.lt
 have a3_1_0 := F4.out.2.1.cell 0 _ rfl
 have f3_1_0 := F4.out.2.1.fz 0
 have a3_1_1 := F4.out.2.1.cell 1 _ rfl
 have f3_1_1 := F4.out.2.1.fz 1
 have a3_1_2 := F4.out.2.1.cell 2 _ rfl
 have f3_1_2 := F4.out.2.1.fz 2
 have a3_1_3 := F4.out.2.1.cell 3 _ rfl
 have f3_1_3 := F4.out.2.1.fz 3
 have l3_2 := F4.out.2.2.1.lt
 have a3_2_0 := F4.out.2.2.1.cell 0 _ rfl
 have f3_2_0 := F4.out.2.2.1.fz 0
 have a3_2_1 := F4.out.2.2.1.cell 1 _ rfl
 have f3_2_1 := F4.out.2.2.1.fz 1
 have a3_2_2 := F4.out.2.2.1.cell 2 _ rfl
 have f3_2_2 := F4.out.2.2.1.fz 2
 have a3_2_3 := F4.out.2.2.1.cell 3 _ rfl
 have f3_2_3 := F4.out.2.2.1.fz 3
 have l3_3 := F4.out.2.2.2.1.lt
 have a3_3_0 := F4.out.2.2.2.1.cell 0 _ rfl
 have f3_3_0 := F4.out.2.2.2.1.fz 0
 have a3_3_1 := F4.out.2.2.2.1.cell 1 _ rfl
 have f3_3_1 := F4.out.2.2.2.1.fz 1
 have l3_4 := F4.out.2.2.2.2.1.lt
 have a3_4_0 := F4.out.2.2.2.2.1.cell 0 _ rfl
 have f3_4_0 := F4.out.2.2.2.2.1.fz 0
 have a3_4_1 := F4.out.2.2.2.2.1.cell 1 _ rfl
 have f3_4_1 := F4.out.2.2.2.2.1.fz 1
 have ne3_0_1 : ¬ w.heap.size = w.heap.size + 1 := by omega
 have ne3_0_2 : ¬ w.heap.size = w.heap.size + 1 + 1 := by omega
 have ne3_0_3 : ¬ w.heap.size = w2.heap.size := by omega
 have ne3_0_4 : ¬ w.heap.size = w4.heap.size := by omega
 have ne3_1_0 : ¬ w.heap.size + 1 = w.heap.size := by omega
 have ne3_1_2 : ¬ w.heap.size + 1 = w.heap.size + 1 + 1 := by omega
 have ne3_1_3 : ¬ w.heap.size + 1 = w2.heap.size := by omega
 have ne3_1_4 : ¬ w.heap.size + 1 = w4.heap.size := by omega
 have ne3_2_0 : ¬ w.heap.size + 1 + 1 = w.heap.size := by omega
 have ne3_2_1 : ¬ w.heap.size + 1 + 1 = w.heap.size + 1 := by omega
 have ne3_2_3 : ¬ w.heap.size + 1 + 1 = w2.heap.size := by omega
 have ne3_2_4 : ¬ w.heap.size + 1 + 1 = w4.heap.size := by omega
 have ne3_3_0 : ¬ w2.heap.size = w.heap.size := by omega
 have ne3_3_1 : ¬ w2.heap.size = w.heap.size + 1 := by omega
 have ne3_3_2 : ¬ w2.heap.size = w.heap.size + 1 + 1 := by omega
 have ne3_3_4 : ¬ w2.heap.size = w4.heap.size := by omega
 have ne3_4_0 : ¬ w4.heap.size = w.heap.size := by omega
 have ne3_4_1 : ¬ w4.heap.size = w.heap.size + 1 := by omega
 have ne3_4_2 : ¬ w4.heap.size = w.heap.size + 1 + 1 := by omega
 have ne3_4_3 : ¬ w4.heap.size = w2.heap.size := by omega
 go_wp2_with fail
 all_goals first | (exfalso; omega) | skip
 refine (H3 _ (hT.next F4.out.2.2.2.2.2)).mono ?_
 rintro o6 w6 ⟨rfl, bb⟩
 have F5 : Hid (Bk w6 (w.heap.size) [.int .u64 mh, .int .u64 ml, .int .i64 X, .bool ex, .int .i64 p, .int .i64 d] ∧ Bk w6 (w.heap.size + 1) [.bool ng, .int .i64 k, .int .u64 (m : Int), .int .i64 xe] ∧ Bk w6 (w.heap.size + 1 + 1) [.int .u64 0, .int .u64 0, .int .u64 0, .bool false] ∧ Bk w6 (w2.heap.size) [.int .u64 (u1 : Int), .bool m1] ∧ Bk w6 (w4.heap.size) [.int .u64 (u2 : Int), .bool m2] ∧ Below w.heap.size w w6) := ⟨(F4.out.1).step bb, (F4.out.2.1).step bb, (F4.out.2.2.1).step bb, (F4.out.2.2.2.1).step bb, (F4.out.2.2.2.2.1).step bb, (F4.out.2.2.2.2.2).trans (bb.mono (F4.out.2.2.2.2.2).size)⟩
 clear F4
 clear bb
 clear l3_0 a3_0_0 f3_0_0 a3_0_1 f3_0_1 a3_0_2 f3_0_2 a3_0_3 f3_0_3 a3_0_4 f3_0_4 a3_0_5 f3_0_5 l3_1 a3_1_0 f3_1_0 a3_1_1 f3_1_1 a3_1_2 f3_1_2 a3_1_3 f3_1_3 l3_2 a3_2_0 f3_2_0 a3_2_1 f3_2_1 a3_2_2 f3_2_2 a3_2_3 f3_2_3 l3_3 a3_3_0 f3_3_0 a3_3_1 f3_3_1 l3_4 a3_4_0 f3_4_0 a3_4_1 f3_4_1
 have lt0_5 := (F5.out.1).lt
 have lt1_5 := (F5.out.2.1).lt
 have lt2_5 := (F5.out.2.2.1).lt
 have lt3_5 := (F5.out.2.2.2.1).lt
 have lt4_5 := (F5.out.2.2.2.2.1).lt
 have le5 := (F5.out.2.2.2.2.2).size
 have F6 : Hid (Bk (w6.alloc (.cells #[.int .u64 (u3 : Int), .bool m3] 82)) (w.heap.size) [.int .u64 mh, .int .u64 ml, .int .i64 X, .bool ex, .int .i64 p, .int .i64 d] ∧ Bk (w6.alloc (.cells #[.int .u64 (u3 : Int), .bool m3] 82)) (w.heap.size + 1) [.bool ng, .int .i64 k, .int .u64 (m : Int), .int .i64 xe] ∧ Bk (w6.alloc (.cells #[.int .u64 (u3 : Int), .bool m3] 82)) (w.heap.size + 1 + 1) [.int .u64 0, .int .u64 0, .int .u64 0, .bool false] ∧ Bk (w6.alloc (.cells #[.int .u64 (u3 : Int), .bool m3] 82)) (w2.heap.size) [.int .u64 (u1 : Int), .bool m1] ∧ Bk (w6.alloc (.cells #[.int .u64 (u3 : Int), .bool m3] 82)) (w4.heap.size) [.int .u64 (u2 : Int), .bool m2] ∧ Bk (w6.alloc (.cells #[.int .u64 (u3 : Int), .bool m3] 82)) (w6.heap.size) [.int .u64 (u3 : Int), .bool m3] ∧ Below w.heap.size w (w6.alloc (.cells #[.int .u64 (u3 : Int), .bool m3] 82))) := ⟨(F5.out.1).step ((Below.refl _ _).alloc (Nat.le_refl _) _), (F5.out.2.1).step ((Below.refl _ _).alloc (Nat.le_refl _) _), (F5.out.2.2.1).step ((Below.refl _ _).alloc (Nat.le_refl _) _), (F5.out.2.2.2.1).step ((Below.refl _ _).alloc (Nat.le_refl _) _), (F5.out.2.2.2.2.1).step ((Below.refl _ _).alloc (Nat.le_refl _) _), Bk.newL w6 [.int .u64 (u3 : Int), .bool m3] 82, (F5.out.2.2.2.2.2).alloc ((F5.out.2.2.2.2.2).size) _⟩
 clear F5
 go_upto_region 5 with fail
 generalize (w6.alloc (.cells #[.int .u64 (u3 : Int), .bool m3] 82)) = w7 at *
 have l4_0 := F6.out.1.lt
 have a4_0_0 := F6.out.1.cell 0 _ rfl
 have f4_0_0 := F6.out.1.fz 0
 have a4_0_1 := F6.out.1.cell 1 _ rfl
 have f4_0_1 := F6.out.1.fz 1
 have a4_0_2 := F6.out.1.cell 2 _ rfl
 have f4_0_2 := F6.out.1.fz 2
 have a4_0_3 := F6.out.1.cell 3 _ rfl
 have f4_0_3 := F6.out.1.fz 3
 have a4_0_4 := F6.out.1.cell 4 _ rfl
 have f4_0_4 := F6.out.1.fz 4
 have a4_0_5 := F6.out.1.cell 5 _ rfl
 have f4_0_5 := F6.out.1.fz 5
 have l4_1 := F6.out.2.1.lt
 have a4_1_0 := F6.out.2.1.cell 0 _ rfl
 have f4_1_0 := F6.out.2.1.fz 0
 have a4_1_1 := F6.out.2.1.cell 1 _ rfl
 have f4_1_1 := F6.out.2.1.fz 1
 have a4_1_2 := F6.out.2.1.cell 2 _ rfl
 have f4_1_2 := F6.out.2.1.fz 2
 have a4_1_3 := F6.out.2.1.cell 3 _ rfl
 have f4_1_3 := F6.out.2.1.fz 3
 have l4_2 := F6.out.2.2.1.lt
 have a4_2_0 := F6.out.2.2.1.cell 0 _ rfl
 have f4_2_0 := F6.out.2.2.1.fz 0
 have a4_2_1 := F6.out.2.2.1.cell 1 _ rfl
 have f4_2_1 := F6.out.2.2.1.fz 1
 have a4_2_2 := F6.out.2.2.1.cell 2 _ rfl
 have f4_2_2 := F6.out.2.2.1.fz 2
 have a4_2_3 := F6.out.2.2.1.cell 3 _ rfl
 have f4_2_3 := F6.out.2.2.1.fz 3
 have l4_3 := F6.out.2.2.2.1.lt
 have a4_3_0 := F6.out.2.2.2.1.cell 0 _ rfl
 have f4_3_0 := F6.out.2.2.2.1.fz 0
 have a4_3_1 := F6.out.2.2.2.1.cell 1 _ rfl
 have f4_3_1 := F6.out.2.2.2.1.fz 1
 have l4_4 := F6.out.2.2.2.2.1.lt
 have a4_4_0 := F6.out.2.2.2.2.1.cell 0 _ rfl
 have f4_4_0 := F6.out.2.2.2.2.1.fz 0
 have a4_4_1 := F6.out.2.2.2.2.1.cell 1 _ rfl
 have f4_4_1 := F6.out.2.2.2.2.1.fz 1
 have l4_5 := F6.out.2.2.2.2.2.1.lt
 have a4_5_0 := F6.out.2.2.2.2.2.1.cell 0 _ rfl
 have f4_5_0 := F6.out.2.2.2.2.2.1.fz 0
 have a4_5_1 := F6.out.2.2.2.2.2.1.cell 1 _ rfl
 have f4_5_1 := F6.out.2.2.2.2.2.1.fz 1
 have ne4_0_1 : ¬ w.heap.size = w.heap.size + 1 := by omega
 have ne4_0_2 : ¬ w.heap.size = w.heap.size + 1 + 1 := by omega
 have ne4_0_3 : ¬ w.heap.size = w2.heap.size := by omega
 have ne4_0_4 : ¬ w.heap.size = w4.heap.size := by omega
 have ne4_0_5 : ¬ w.heap.size = w6.heap.size := by omega
 have ne4_1_0 : ¬ w.heap.size + 1 = w.heap.size := by omega
 have ne4_1_2 : ¬ w.heap.size + 1 = w.heap.size + 1 + 1 := by omega
 have ne4_1_3 : ¬ w.heap.size + 1 = w2.heap.size := by omega
 have ne4_1_4 : ¬ w.heap.size + 1 = w4.heap.size := by omega
 have ne4_1_5 : ¬ w.heap.size + 1 = w6.heap.size := by omega
 have ne4_2_0 : ¬ w.heap.size + 1 + 1 = w.heap.size := by omega
 have ne4_2_1 : ¬ w.heap.size + 1 + 1 = w.heap.size + 1 := by omega
 have ne4_2_3 : ¬ w.heap.size + 1 + 1 = w2.heap.size := by omega
 have ne4_2_4 : ¬ w.heap.size + 1 + 1 = w4.heap.size := by omega
 have ne4_2_5 : ¬ w.heap.size + 1 + 1 = w6.heap.size := by omega
 have ne4_3_0 : ¬ w2.heap.size = w.heap.size := by omega
 have ne4_3_1 : ¬ w2.heap.size = w.heap.size + 1 := by omega
 have ne4_3_2 : ¬ w2.heap.size = w.heap.size + 1 + 1 := by omega
 have ne4_3_4 : ¬ w2.heap.size = w4.heap.size := by omega
 have ne4_3_5 : ¬ w2.heap.size = w6.heap.size := by omega
 have ne4_4_0 : ¬ w4.heap.size = w.heap.size := by omega
 have ne4_4_1 : ¬ w4.heap.size = w.heap.size + 1 := by omega
 have ne4_4_2 : ¬ w4.heap.size = w.heap.size + 1 + 1 := by omega
 have ne4_4_3 : ¬ w4.heap.size = w2.heap.size := by omega
 have ne4_4_5 : ¬ w4.heap.size = w6.heap.size := by omega
 have ne4_5_0 : ¬ w6.heap.size = w.heap.size := by omega
 have ne4_5_1 : ¬ w6.heap.size = w.heap.size + 1 := by omega
 have ne4_5_2 : ¬ w6.heap.size = w.heap.size + 1 + 1 := by omega
 have ne4_5_3 : ¬ w6.heap.size = w2.heap.size := by omega
 have ne4_5_4 : ¬ w6.heap.size = w4.heap.size := by omega
 clear H1 H2 H3 hT
 rcases hs.out with h1 | ⟨h1, h2 | ⟨h2, h3⟩⟩
 all_goals clear hs
 all_goals
  go_wp2
  refine bodyPost_ret (v := .tuple #[.agg #[.int .u64 0, .int .u64 0, .int .u64 0, .bool false], .bool false]) (by simp [results, Tryz.results34, go_sem, World.cell?_setCell_same, World.cell?_setCell_other, *]) rfl ⟨rfl, ?_⟩
  repeat (first | refine Below.setCell ?_ (by first | exact Nat.le_refl _ | (dsimp only; omega)) _ | refine Below.alloc ?_ (by first | exact Nat.le_refl _ | omega | (simp; omega)) _ | refine Below.drew ?_)
  exact F6.out.2.2.2.2.2.2
theorem qsp_ok {w : World} {mh ml X p d : Int} {ex : Bool} {m g u1 u2 u3 : Nat} {m1 m2 m3 ng : Bool} {k xe : Int} (hT : Tab w) (m0 : 0 < m) (hm : m ≤ 9007199254740992) (g1 : 1 ≤ g) (g2 : g ≤ 2) {cl : Bool} (hcl : ((m : Int) % 2 == 0) = cl) (b1 : u1 < 9223372036854775808) (b3 : u3 < 9223372036854775808) (c3 : 1 ≤ u3) (H1 : ∀ W, Tab W → Calls Tryz.prog 75 #[.agg #[.int .u64 mh, .int .u64 ml, .int .i64 X, .bool ex, .int .i64 p, .int .i64 d], .int .u64 (4 * (m : Int) - (g : Int))] W fun e w' => e = .returned (.tuple #[.agg #[.int .u64 (u1 : Int), .bool m1], .bool true]) ∧ Below W.heap.size W w') (H2 : ∀ W, Tab W → Calls Tryz.prog 75 #[.agg #[.int .u64 mh, .int .u64 ml, .int .i64 X, .bool ex, .int .i64 p, .int .i64 d], .int .u64 (4 * (m : Int))] W fun e w' => e = .returned (.tuple #[.agg #[.int .u64 (u2 : Int), .bool m2], .bool true]) ∧ Below W.heap.size W w') (H3 : ∀ W, Tab W → Calls Tryz.prog 75 #[.agg #[.int .u64 mh, .int .u64 ml, .int .i64 X, .bool ex, .int .i64 p, .int .i64 d], .int .u64 (4 * (m : Int) + 2)] W fun e w' => e = .returned (.tuple #[.agg #[.int .u64 (u3 : Int), .bool m3], .bool true]) ∧ Below W.heap.size W w') :
 Calls Tryz.prog 34 #[.agg #[.int .u64 mh, .int .u64 ml, .int .i64 X, .bool ex, .int .i64 p, .int .i64 d], .agg #[.bool ng, .int .i64 k, .int .u64 (m : Int), .int .i64 xe], .int .u64 (g : Int)] w fun x w' => x = .returned (.tuple #[.agg #[.int .u64 ((bif m1 || !cl then u1 + 1 else u1 : Nat) : Int), .int .u64 ((bif !m3 && !cl then u3 - 1 else u3 : Nat) : Int), .int .u64 (u2 : Int), .bool m2], .bool true]) ∧ Below w.heap.size w w' := by
 have F0 : Hid (Bk (((w.alloc (.cells #[.int .u64 mh, .int .u64 ml, .int .i64 X, .bool ex, .int .i64 p, .int .i64 d] 49)).alloc (.cells #[.bool ng, .int .i64 k, .int .u64 (m : Int), .int .i64 xe] 39)).alloc (.cells #[.int .u64 0, .int .u64 0, .int .u64 0, .bool false] 84)) (w.heap.size) [.int .u64 mh, .int .u64 ml, .int .i64 X, .bool ex, .int .i64 p, .int .i64 d] ∧ Bk (((w.alloc (.cells #[.int .u64 mh, .int .u64 ml, .int .i64 X, .bool ex, .int .i64 p, .int .i64 d] 49)).alloc (.cells #[.bool ng, .int .i64 k, .int .u64 (m : Int), .int .i64 xe] 39)).alloc (.cells #[.int .u64 0, .int .u64 0, .int .u64 0, .bool false] 84)) (w.heap.size + 1) [.bool ng, .int .i64 k, .int .u64 (m : Int), .int .i64 xe] ∧ Bk (((w.alloc (.cells #[.int .u64 mh, .int .u64 ml, .int .i64 X, .bool ex, .int .i64 p, .int .i64 d] 49)).alloc (.cells #[.bool ng, .int .i64 k, .int .u64 (m : Int), .int .i64 xe] 39)).alloc (.cells #[.int .u64 0, .int .u64 0, .int .u64 0, .bool false] 84)) (w.heap.size + 1 + 1) [.int .u64 0, .int .u64 0, .int .u64 0, .bool false] ∧ Below w.heap.size w (((w.alloc (.cells #[.int .u64 mh, .int .u64 ml, .int .i64 X, .bool ex, .int .i64 p, .int .i64 d] 49)).alloc (.cells #[.bool ng, .int .i64 k, .int .u64 (m : Int), .int .i64 xe] 39)).alloc (.cells #[.int .u64 0, .int .u64 0, .int .u64 0, .bool false] 84))) := ⟨((Bk.newL w [.int .u64 mh, .int .u64 ml, .int .i64 X, .bool ex, .int .i64 p, .int .i64 d] 49).step ((Below.refl _ _).alloc (Nat.le_refl _) _)).step ((Below.refl _ _).alloc (Nat.le_refl _) _), (((by have q := Bk.newL (w.alloc (.cells #[.int .u64 mh, .int .u64 ml, .int .i64 X, .bool ex, .int .i64 p, .int .i64 d] 49)) [.bool ng, .int .i64 k, .int .u64 (m : Int), .int .i64 xe] 39; simpa using q) : Bk ((w.alloc (.cells #[.int .u64 mh, .int .u64 ml, .int .i64 X, .bool ex, .int .i64 p, .int .i64 d] 49)).alloc (.cells #[.bool ng, .int .i64 k, .int .u64 (m : Int), .int .i64 xe] 39)) (w.heap.size + 1) [.bool ng, .int .i64 k, .int .u64 (m : Int), .int .i64 xe])).step ((Below.refl _ _).alloc (Nat.le_refl _) _), ((by have q := Bk.newL ((w.alloc (.cells #[.int .u64 mh, .int .u64 ml, .int .i64 X, .bool ex, .int .i64 p, .int .i64 d] 49)).alloc (.cells #[.bool ng, .int .i64 k, .int .u64 (m : Int), .int .i64 xe] 39)) [.int .u64 0, .int .u64 0, .int .u64 0, .bool false] 84; simpa using q) : Bk (((w.alloc (.cells #[.int .u64 mh, .int .u64 ml, .int .i64 X, .bool ex, .int .i64 p, .int .i64 d] 49)).alloc (.cells #[.bool ng, .int .i64 k, .int .u64 (m : Int), .int .i64 xe] 39)).alloc (.cells #[.int .u64 0, .int .u64 0, .int .u64 0, .bool false] 84)) (w.heap.size + 1 + 1) [.int .u64 0, .int .u64 0, .int .u64 0, .bool false]), ((((Below.refl w.heap.size w)).alloc (Nat.le_refl _) _).alloc ((((Below.refl w.heap.size w)).alloc (Nat.le_refl _) _).size) _).alloc (((((Below.refl w.heap.size w)).alloc (Nat.le_refl _) _).alloc ((((Below.refl w.heap.size w)).alloc (Nat.le_refl _) _).size) _).size) _⟩
 go_enter Tryz.func34, Tryz.ntmps34
 go_upto_region 1 with fail
 generalize (((w.alloc (.cells #[.int .u64 mh, .int .u64 ml, .int .i64 X, .bool ex, .int .i64 p, .int .i64 d] 49)).alloc (.cells #[.bool ng, .int .i64 k, .int .u64 (m : Int), .int .i64 xe] 39)).alloc (.cells #[.int .u64 0, .int .u64 0, .int .u64 0, .bool false] 84)) = w1 at *
 have l1_0 := F0.out.1.lt
 have a1_0_0 := F0.out.1.cell 0 _ rfl
 have f1_0_0 := F0.out.1.fz 0
 have a1_0_1 := F0.out.1.cell 1 _ rfl
 have f1_0_1 := F0.out.1.fz 1
 have a1_0_2 := F0.out.1.cell 2 _ rfl
 have f1_0_2 := F0.out.1.fz 2
 have a1_0_3 := F0.out.1.cell 3 _ rfl
 have f1_0_3 := F0.out.1.fz 3
 have a1_0_4 := F0.out.1.cell 4 _ rfl
 have f1_0_4 := F0.out.1.fz 4
 have a1_0_5 := F0.out.1.cell 5 _ rfl
 have f1_0_5 := F0.out.1.fz 5
 have l1_1 := F0.out.2.1.lt
 have a1_1_0 := F0.out.2.1.cell 0 _ rfl
 have f1_1_0 := F0.out.2.1.fz 0
 have a1_1_1 := F0.out.2.1.cell 1 _ rfl
 have f1_1_1 := F0.out.2.1.fz 1
 have a1_1_2 := F0.out.2.1.cell 2 _ rfl
 have f1_1_2 := F0.out.2.1.fz 2
 have a1_1_3 := F0.out.2.1.cell 3 _ rfl
 have f1_1_3 := F0.out.2.1.fz 3
 have l1_2 := F0.out.2.2.1.lt
 have a1_2_0 := F0.out.2.2.1.cell 0 _ rfl
 have f1_2_0 := F0.out.2.2.1.fz 0
 have a1_2_1 := F0.out.2.2.1.cell 1 _ rfl
 have f1_2_1 := F0.out.2.2.1.fz 1
 have a1_2_2 := F0.out.2.2.1.cell 2 _ rfl
 have f1_2_2 := F0.out.2.2.1.fz 2
 have a1_2_3 := F0.out.2.2.1.cell 3 _ rfl
 have f1_2_3 := F0.out.2.2.1.fz 3
 have ne1_0_1 : ¬ w.heap.size = w.heap.size + 1 := by omega
 have ne1_0_2 : ¬ w.heap.size = w.heap.size + 1 + 1 := by omega
 have ne1_1_0 : ¬ w.heap.size + 1 = w.heap.size := by omega
 have ne1_1_2 : ¬ w.heap.size + 1 = w.heap.size + 1 + 1 := by omega
 have ne1_2_0 : ¬ w.heap.size + 1 + 1 = w.heap.size := by omega
 have ne1_2_1 : ¬ w.heap.size + 1 + 1 = w.heap.size + 1 := by omega
 go_wp2_with fail
 all_goals first | (exfalso; omega) | skip
 refine (H1 _ (hT.next F0.out.2.2.2)).mono ?_
 rintro o2 w2 ⟨rfl, bb⟩
 have F1 : Hid (Bk w2 (w.heap.size) [.int .u64 mh, .int .u64 ml, .int .i64 X, .bool ex, .int .i64 p, .int .i64 d] ∧ Bk w2 (w.heap.size + 1) [.bool ng, .int .i64 k, .int .u64 (m : Int), .int .i64 xe] ∧ Bk w2 (w.heap.size + 1 + 1) [.int .u64 0, .int .u64 0, .int .u64 0, .bool false] ∧ Below w.heap.size w w2) := ⟨(F0.out.1).step bb, (F0.out.2.1).step bb, (F0.out.2.2.1).step bb, (F0.out.2.2.2).trans (bb.mono (F0.out.2.2.2).size)⟩
 clear F0
 clear bb
 clear l1_0 a1_0_0 f1_0_0 a1_0_1 f1_0_1 a1_0_2 f1_0_2 a1_0_3 f1_0_3 a1_0_4 f1_0_4 a1_0_5 f1_0_5 l1_1 a1_1_0 f1_1_0 a1_1_1 f1_1_1 a1_1_2 f1_1_2 a1_1_3 f1_1_3 l1_2 a1_2_0 f1_2_0 a1_2_1 f1_2_1 a1_2_2 f1_2_2 a1_2_3 f1_2_3
 have lt0_3 := (F1.out.1).lt
 have lt1_3 := (F1.out.2.1).lt
 have lt2_3 := (F1.out.2.2.1).lt
 have le3 := (F1.out.2.2.2).size
 have F2 : Hid (Bk (w2.alloc (.cells #[.int .u64 (u1 : Int), .bool m1] 82)) (w.heap.size) [.int .u64 mh, .int .u64 ml, .int .i64 X, .bool ex, .int .i64 p, .int .i64 d] ∧ Bk (w2.alloc (.cells #[.int .u64 (u1 : Int), .bool m1] 82)) (w.heap.size + 1) [.bool ng, .int .i64 k, .int .u64 (m : Int), .int .i64 xe] ∧ Bk (w2.alloc (.cells #[.int .u64 (u1 : Int), .bool m1] 82)) (w.heap.size + 1 + 1) [.int .u64 0, .int .u64 0, .int .u64 0, .bool false] ∧ Bk (w2.alloc (.cells #[.int .u64 (u1 : Int), .bool m1] 82)) (w2.heap.size) [.int .u64 (u1 : Int), .bool m1] ∧ Below w.heap.size w (w2.alloc (.cells #[.int .u64 (u1 : Int), .bool m1] 82))) := ⟨(F1.out.1).step ((Below.refl _ _).alloc (Nat.le_refl _) _), (F1.out.2.1).step ((Below.refl _ _).alloc (Nat.le_refl _) _), (F1.out.2.2.1).step ((Below.refl _ _).alloc (Nat.le_refl _) _), Bk.newL w2 [.int .u64 (u1 : Int), .bool m1] 82, (F1.out.2.2.2).alloc ((F1.out.2.2.2).size) _⟩
 clear F1
 go_upto_region 3 with fail
 generalize (w2.alloc (.cells #[.int .u64 (u1 : Int), .bool m1] 82)) = w3 at *
 have l2_0 := F2.out.1.lt
 have a2_0_0 := F2.out.1.cell 0 _ rfl
 have f2_0_0 := F2.out.1.fz 0
 have a2_0_1 := F2.out.1.cell 1 _ rfl
 have f2_0_1 := F2.out.1.fz 1
 have a2_0_2 := F2.out.1.cell 2 _ rfl
 have f2_0_2 := F2.out.1.fz 2
 have a2_0_3 := F2.out.1.cell 3 _ rfl
 have f2_0_3 := F2.out.1.fz 3
 have a2_0_4 := F2.out.1.cell 4 _ rfl
 have f2_0_4 := F2.out.1.fz 4
 have a2_0_5 := F2.out.1.cell 5 _ rfl
 have f2_0_5 := F2.out.1.fz 5
 have l2_1 := F2.out.2.1.lt
 have a2_1_0 := F2.out.2.1.cell 0 _ rfl
 have f2_1_0 := F2.out.2.1.fz 0
 have a2_1_1 := F2.out.2.1.cell 1 _ rfl
 have f2_1_1 := F2.out.2.1.fz 1
 have a2_1_2 := F2.out.2.1.cell 2 _ rfl
 have f2_1_2 := F2.out.2.1.fz 2
 have a2_1_3 := F2.out.2.1.cell 3 _ rfl
 have f2_1_3 := F2.out.2.1.fz 3
 have l2_2 := F2.out.2.2.1.lt
 have a2_2_0 := F2.out.2.2.1.cell 0 _ rfl
 have f2_2_0 := F2.out.2.2.1.fz 0
 have a2_2_1 := F2.out.2.2.1.cell 1 _ rfl
 have f2_2_1 := F2.out.2.2.1.fz 1
 have a2_2_2 := F2.out.2.2.1.cell 2 _ rfl
 have f2_2_2 := F2.out.2.2.1.fz 2
 have a2_2_3 := F2.out.2.2.1.cell 3 _ rfl
 have f2_2_3 := F2.out.2.2.1.fz 3
 have l2_3 := F2.out.2.2.2.1.lt
 have a2_3_0 := F2.out.2.2.2.1.cell 0 _ rfl
 have f2_3_0 := F2.out.2.2.2.1.fz 0
 have a2_3_1 := F2.out.2.2.2.1.cell 1 _ rfl
 have f2_3_1 := F2.out.2.2.2.1.fz 1
 have ne2_0_1 : ¬ w.heap.size = w.heap.size + 1 := by omega
 have ne2_0_2 : ¬ w.heap.size = w.heap.size + 1 + 1 := by omega
 have ne2_0_3 : ¬ w.heap.size = w2.heap.size := by omega
 have ne2_1_0 : ¬ w.heap.size + 1 = w.heap.size := by omega
 have ne2_1_2 : ¬ w.heap.size + 1 = w.heap.size + 1 + 1 := by omega
 have ne2_1_3 : ¬ w.heap.size + 1 = w2.heap.size := by omega
 have ne2_2_0 : ¬ w.heap.size + 1 + 1 = w.heap.size := by omega
 have ne2_2_1 : ¬ w.heap.size + 1 + 1 = w.heap.size + 1 := by omega
 have ne2_2_3 : ¬ w.heap.size + 1 + 1 = w2.heap.size := by omega
 have ne2_3_0 : ¬ w2.heap.size = w.heap.size := by omega
 have ne2_3_1 : ¬ w2.heap.size = w.heap.size + 1 := by omega
 have ne2_3_2 : ¬ w2.heap.size = w.heap.size + 1 + 1 := by omega
 go_wp2_with fail
 all_goals first | (exfalso; omega) | skip
 refine (H2 _ (hT.next F2.out.2.2.2.2)).mono ?_
 rintro o4 w4 ⟨rfl, bb⟩
 have F3 : Hid (Bk w4 (w.heap.size) [.int .u64 mh, .int .u64 ml, .int .i64 X, .bool ex, .int .i64 p, .int .i64 d] ∧ Bk w4 (w.heap.size + 1) [.bool ng, .int .i64 k, .int .u64 (m : Int), .int .i64 xe] ∧ Bk w4 (w.heap.size + 1 + 1) [.int .u64 0, .int .u64 0, .int .u64 0, .bool false] ∧ Bk w4 (w2.heap.size) [.int .u64 (u1 : Int), .bool m1] ∧ Below w.heap.size w w4) := ⟨(F2.out.1).step bb, (F2.out.2.1).step bb, (F2.out.2.2.1).step bb, (F2.out.2.2.2.1).step bb, (F2.out.2.2.2.2).trans (bb.mono (F2.out.2.2.2.2).size)⟩
 clear F2
 clear bb
 clear l2_0 a2_0_0 f2_0_0 a2_0_1 f2_0_1 a2_0_2 f2_0_2 a2_0_3 f2_0_3 a2_0_4 f2_0_4 a2_0_5 f2_0_5 l2_1 a2_1_0 f2_1_0 a2_1_1 f2_1_1 a2_1_2 f2_1_2 a2_1_3 f2_1_3 l2_2 a2_2_0 f2_2_0 a2_2_1 f2_2_1 a2_2_2 f2_2_2 a2_2_3 f2_2_3 l2_3 a2_3_0 f2_3_0 a2_3_1 f2_3_1
 have lt0_4 := (F3.out.1).lt
 have lt1_4 := (F3.out.2.1).lt
 have lt2_4 := (F3.out.2.2.1).lt
 have lt3_4 := (F3.out.2.2.2.1).lt
 have le4 := (F3.out.2.2.2.2).size
 have F4 : Hid (Bk (w4.alloc (.cells #[.int .u64 (u2 : Int), .bool m2] 82)) (w.heap.size) [.int .u64 mh, .int .u64 ml, .int .i64 X, .bool ex, .int .i64 p, .int .i64 d] ∧ Bk (w4.alloc (.cells #[.int .u64 (u2 : Int), .bool m2] 82)) (w.heap.size + 1) [.bool ng, .int .i64 k, .int .u64 (m : Int), .int .i64 xe] ∧ Bk (w4.alloc (.cells #[.int .u64 (u2 : Int), .bool m2] 82)) (w.heap.size + 1 + 1) [.int .u64 0, .int .u64 0, .int .u64 0, .bool false] ∧ Bk (w4.alloc (.cells #[.int .u64 (u2 : Int), .bool m2] 82)) (w2.heap.size) [.int .u64 (u1 : Int), .bool m1] ∧ Bk (w4.alloc (.cells #[.int .u64 (u2 : Int), .bool m2] 82)) (w4.heap.size) [.int .u64 (u2 : Int), .bool m2] ∧ Below w.heap.size w (w4.alloc (.cells #[.int .u64 (u2 : Int), .bool m2] 82))) := ⟨(F3.out.1).step ((Below.refl _ _).alloc (Nat.le_refl _) _), (F3.out.2.1).step ((Below.refl _ _).alloc (Nat.le_refl _) _), (F3.out.2.2.1).step ((Below.refl _ _).alloc (Nat.le_refl _) _), (F3.out.2.2.2.1).step ((Below.refl _ _).alloc (Nat.le_refl _) _), Bk.newL w4 [.int .u64 (u2 : Int), .bool m2] 82, (F3.out.2.2.2.2).alloc ((F3.out.2.2.2.2).size) _⟩
 clear F3
 go_upto_region 4 with fail
 generalize (w4.alloc (.cells #[.int .u64 (u2 : Int), .bool m2] 82)) = w5 at *
 have l3_0 := F4.out.1.lt
 have a3_0_0 := F4.out.1.cell 0 _ rfl
 have f3_0_0 := F4.out.1.fz 0
 have a3_0_1 := F4.out.1.cell 1 _ rfl
 have f3_0_1 := F4.out.1.fz 1
 have a3_0_2 := F4.out.1.cell 2 _ rfl
 have f3_0_2 := F4.out.1.fz 2
 have a3_0_3 := F4.out.1.cell 3 _ rfl
 have f3_0_3 := F4.out.1.fz 3
 have a3_0_4 := F4.out.1.cell 4 _ rfl
 have f3_0_4 := F4.out.1.fz 4
 have a3_0_5 := F4.out.1.cell 5 _ rfl
 have f3_0_5 := F4.out.1.fz 5
 have l3_1 := F4.out.2.1.lt
 have a3_1_0 := F4.out.2.1.cell 0 _ rfl
 have f3_1_0 := F4.out.2.1.fz 0
 have a3_1_1 := F4.out.2.1.cell 1 _ rfl
 have f3_1_1 := F4.out.2.1.fz 1
 have a3_1_2 := F4.out.2.1.cell 2 _ rfl
 have f3_1_2 := F4.out.2.1.fz 2
 have a3_1_3 := F4.out.2.1.cell 3 _ rfl
 have f3_1_3 := F4.out.2.1.fz 3
 have l3_2 := F4.out.2.2.1.lt
 have a3_2_0 := F4.out.2.2.1.cell 0 _ rfl
 have f3_2_0 := F4.out.2.2.1.fz 0
 have a3_2_1 := F4.out.2.2.1.cell 1 _ rfl
 have f3_2_1 := F4.out.2.2.1.fz 1
 have a3_2_2 := F4.out.2.2.1.cell 2 _ rfl
 have f3_2_2 := F4.out.2.2.1.fz 2
 have a3_2_3 := F4.out.2.2.1.cell 3 _ rfl
 have f3_2_3 := F4.out.2.2.1.fz 3
 have l3_3 := F4.out.2.2.2.1.lt
 have a3_3_0 := F4.out.2.2.2.1.cell 0 _ rfl
 have f3_3_0 := F4.out.2.2.2.1.fz 0
 have a3_3_1 := F4.out.2.2.2.1.cell 1 _ rfl
 have f3_3_1 := F4.out.2.2.2.1.fz 1
 have l3_4 := F4.out.2.2.2.2.1.lt
 have a3_4_0 := F4.out.2.2.2.2.1.cell 0 _ rfl
 have f3_4_0 := F4.out.2.2.2.2.1.fz 0
 have a3_4_1 := F4.out.2.2.2.2.1.cell 1 _ rfl
 have f3_4_1 := F4.out.2.2.2.2.1.fz 1
 have ne3_0_1 : ¬ w.heap.size = w.heap.size + 1 := by omega
 have ne3_0_2 : ¬ w.heap.size = w.heap.size + 1 + 1 := by omega
 have ne3_0_3 : ¬ w.heap.size = w2.heap.size := by omega
 have ne3_0_4 : ¬ w.heap.size = w4.heap.size := by omega
 have ne3_1_0 : ¬ w.heap.size + 1 = w.heap.size := by omega
 have ne3_1_2 : ¬ w.heap.size + 1 = w.heap.size + 1 + 1 := by omega
 have ne3_1_3 : ¬ w.heap.size + 1 = w2.heap.size := by omega
 have ne3_1_4 : ¬ w.heap.size + 1 = w4.heap.size := by omega
 have ne3_2_0 : ¬ w.heap.size + 1 + 1 = w.heap.size := by omega
 have ne3_2_1 : ¬ w.heap.size + 1 + 1 = w.heap.size + 1 := by omega
 have ne3_2_3 : ¬ w.heap.size + 1 + 1 = w2.heap.size := by omega
 have ne3_2_4 : ¬ w.heap.size + 1 + 1 = w4.heap.size := by omega
 have ne3_3_0 : ¬ w2.heap.size = w.heap.size := by omega
 have ne3_3_1 : ¬ w2.heap.size = w.heap.size + 1 := by omega
 have ne3_3_2 : ¬ w2.heap.size = w.heap.size + 1 + 1 := by omega
 have ne3_3_4 : ¬ w2.heap.size = w4.heap.size := by omega
 have ne3_4_0 : ¬ w4.heap.size = w.heap.size := by omega
 have ne3_4_1 : ¬ w4.heap.size = w.heap.size + 1 := by omega
 have ne3_4_2 : ¬ w4.heap.size = w.heap.size + 1 + 1 := by omega
 have ne3_4_3 : ¬ w4.heap.size = w2.heap.size := by omega
 go_wp2_with fail
 all_goals first | (exfalso; omega) | skip
 refine (H3 _ (hT.next F4.out.2.2.2.2.2)).mono ?_
 rintro o6 w6 ⟨rfl, bb⟩
 have F5 : Hid (Bk w6 (w.heap.size) [.int .u64 mh, .int .u64 ml, .int .i64 X, .bool ex, .int .i64 p, .int .i64 d] ∧ Bk w6 (w.heap.size + 1) [.bool ng, .int .i64 k, .int .u64 (m : Int), .int .i64 xe] ∧ Bk w6 (w.heap.size + 1 + 1) [.int .u64 0, .int .u64 0, .int .u64 0, .bool false] ∧ Bk w6 (w2.heap.size) [.int .u64 (u1 : Int), .bool m1] ∧ Bk w6 (w4.heap.size) [.int .u64 (u2 : Int), .bool m2] ∧ Below w.heap.size w w6) := ⟨(F4.out.1).step bb, (F4.out.2.1).step bb, (F4.out.2.2.1).step bb, (F4.out.2.2.2.1).step bb, (F4.out.2.2.2.2.1).step bb, (F4.out.2.2.2.2.2).trans (bb.mono (F4.out.2.2.2.2.2).size)⟩
 clear F4
 clear bb
 clear l3_0 a3_0_0 f3_0_0 a3_0_1 f3_0_1 a3_0_2 f3_0_2 a3_0_3 f3_0_3 a3_0_4 f3_0_4 a3_0_5 f3_0_5 l3_1 a3_1_0 f3_1_0 a3_1_1 f3_1_1 a3_1_2 f3_1_2 a3_1_3 f3_1_3 l3_2 a3_2_0 f3_2_0 a3_2_1 f3_2_1 a3_2_2 f3_2_2 a3_2_3 f3_2_3 l3_3 a3_3_0 f3_3_0 a3_3_1 f3_3_1 l3_4 a3_4_0 f3_4_0 a3_4_1 f3_4_1
 have lt0_5 := (F5.out.1).lt
 have lt1_5 := (F5.out.2.1).lt
 have lt2_5 := (F5.out.2.2.1).lt
 have lt3_5 := (F5.out.2.2.2.1).lt
 have lt4_5 := (F5.out.2.2.2.2.1).lt
 have le5 := (F5.out.2.2.2.2.2).size
 have F6 : Hid (Bk (w6.alloc (.cells #[.int .u64 (u3 : Int), .bool m3] 82)) (w.heap.size) [.int .u64 mh, .int .u64 ml, .int .i64 X, .bool ex, .int .i64 p, .int .i64 d] ∧ Bk (w6.alloc (.cells #[.int .u64 (u3 : Int), .bool m3] 82)) (w.heap.size + 1) [.bool ng, .int .i64 k, .int .u64 (m : Int), .int .i64 xe] ∧ Bk (w6.alloc (.cells #[.int .u64 (u3 : Int), .bool m3] 82)) (w.heap.size + 1 + 1) [.int .u64 0, .int .u64 0, .int .u64 0, .bool false] ∧ Bk (w6.alloc (.cells #[.int .u64 (u3 : Int), .bool m3] 82)) (w2.heap.size) [.int .u64 (u1 : Int), .bool m1] ∧ Bk (w6.alloc (.cells #[.int .u64 (u3 : Int), .bool m3] 82)) (w4.heap.size) [.int .u64 (u2 : Int), .bool m2] ∧ Bk (w6.alloc (.cells #[.int .u64 (u3 : Int), .bool m3] 82)) (w6.heap.size) [.int .u64 (u3 : Int), .bool m3] ∧ Below w.heap.size w (w6.alloc (.cells #[.int .u64 (u3 : Int), .bool m3] 82))) := ⟨(F5.out.1).step ((Below.refl _ _).alloc (Nat.le_refl _) _), (F5.out.2.1).step ((Below.refl _ _).alloc (Nat.le_refl _) _), (F5.out.2.2.1).step ((Below.refl _ _).alloc (Nat.le_refl _) _), (F5.out.2.2.2.1).step ((Below.refl _ _).alloc (Nat.le_refl _) _), (F5.out.2.2.2.2.1).step ((Below.refl _ _).alloc (Nat.le_refl _) _), Bk.newL w6 [.int .u64 (u3 : Int), .bool m3] 82, (F5.out.2.2.2.2.2).alloc ((F5.out.2.2.2.2.2).size) _⟩
 clear F5
 go_upto_region 5 with fail
 generalize (w6.alloc (.cells #[.int .u64 (u3 : Int), .bool m3] 82)) = w7 at *
 have l4_0 := F6.out.1.lt
 have a4_0_0 := F6.out.1.cell 0 _ rfl
 have f4_0_0 := F6.out.1.fz 0
 have a4_0_1 := F6.out.1.cell 1 _ rfl
 have f4_0_1 := F6.out.1.fz 1
 have a4_0_2 := F6.out.1.cell 2 _ rfl
 have f4_0_2 := F6.out.1.fz 2
 have a4_0_3 := F6.out.1.cell 3 _ rfl
 have f4_0_3 := F6.out.1.fz 3
 have a4_0_4 := F6.out.1.cell 4 _ rfl
 have f4_0_4 := F6.out.1.fz 4
 have a4_0_5 := F6.out.1.cell 5 _ rfl
 have f4_0_5 := F6.out.1.fz 5
 have l4_1 := F6.out.2.1.lt
 have a4_1_0 := F6.out.2.1.cell 0 _ rfl
 have f4_1_0 := F6.out.2.1.fz 0
 have a4_1_1 := F6.out.2.1.cell 1 _ rfl
 have f4_1_1 := F6.out.2.1.fz 1
 have a4_1_2 := F6.out.2.1.cell 2 _ rfl
 have f4_1_2 := F6.out.2.1.fz 2
 have a4_1_3 := F6.out.2.1.cell 3 _ rfl
 have f4_1_3 := F6.out.2.1.fz 3
 have l4_2 := F6.out.2.2.1.lt
 have a4_2_0 := F6.out.2.2.1.cell 0 _ rfl
 have f4_2_0 := F6.out.2.2.1.fz 0
 have a4_2_1 := F6.out.2.2.1.cell 1 _ rfl
 have f4_2_1 := F6.out.2.2.1.fz 1
 have a4_2_2 := F6.out.2.2.1.cell 2 _ rfl
 have f4_2_2 := F6.out.2.2.1.fz 2
 have a4_2_3 := F6.out.2.2.1.cell 3 _ rfl
 have f4_2_3 := F6.out.2.2.1.fz 3
 have l4_3 := F6.out.2.2.2.1.lt
 have a4_3_0 := F6.out.2.2.2.1.cell 0 _ rfl
 have f4_3_0 := F6.out.2.2.2.1.fz 0
 have a4_3_1 := F6.out.2.2.2.1.cell 1 _ rfl
 have f4_3_1 := F6.out.2.2.2.1.fz 1
 have l4_4 := F6.out.2.2.2.2.1.lt
 have a4_4_0 := F6.out.2.2.2.2.1.cell 0 _ rfl
 have f4_4_0 := F6.out.2.2.2.2.1.fz 0
 have a4_4_1 := F6.out.2.2.2.2.1.cell 1 _ rfl
 have f4_4_1 := F6.out.2.2.2.2.1.fz 1
 have l4_5 := F6.out.2.2.2.2.2.1.lt
 have a4_5_0 := F6.out.2.2.2.2.2.1.cell 0 _ rfl
 have f4_5_0 := F6.out.2.2.2.2.2.1.fz 0
 have a4_5_1 := F6.out.2.2.2.2.2.1.cell 1 _ rfl
 have f4_5_1 := F6.out.2.2.2.2.2.1.fz 1
 have ne4_0_1 : ¬ w.heap.size = w.heap.size + 1 := by omega
 have ne4_0_2 : ¬ w.heap.size = w.heap.size + 1 + 1 := by omega
 have ne4_0_3 : ¬ w.heap.size = w2.heap.size := by omega
 have ne4_0_4 : ¬ w.heap.size = w4.heap.size := by omega
 have ne4_0_5 : ¬ w.heap.size = w6.heap.size := by omega
 have ne4_1_0 : ¬ w.heap.size + 1 = w.heap.size := by omega
 have ne4_1_2 : ¬ w.heap.size + 1 = w.heap.size + 1 + 1 := by omega
 have ne4_1_3 : ¬ w.heap.size + 1 = w2.heap.size := by omega
 have ne4_1_4 : ¬ w.heap.size + 1 = w4.heap.size := by omega
 have ne4_1_5 : ¬ w.heap.size + 1 = w6.heap.size := by omega
 have ne4_2_0 : ¬ w.heap.size + 1 + 1 = w.heap.size := by omega
 have ne4_2_1 : ¬ w.heap.size + 1 + 1 = w.heap.size + 1 := by omega
 have ne4_2_3 : ¬ w.heap.size + 1 + 1 = w2.heap.size := by omega
 have ne4_2_4 : ¬ w.heap.size + 1 + 1 = w4.heap.size := by omega
 have ne4_2_5 : ¬ w.heap.size + 1 + 1 = w6.heap.size := by omega
 have ne4_3_0 : ¬ w2.heap.size = w.heap.size := by omega
 have ne4_3_1 : ¬ w2.heap.size = w.heap.size + 1 := by omega
 have ne4_3_2 : ¬ w2.heap.size = w.heap.size + 1 + 1 := by omega
 have ne4_3_4 : ¬ w2.heap.size = w4.heap.size := by omega
 have ne4_3_5 : ¬ w2.heap.size = w6.heap.size := by omega
 have ne4_4_0 : ¬ w4.heap.size = w.heap.size := by omega
 have ne4_4_1 : ¬ w4.heap.size = w.heap.size + 1 := by omega
 have ne4_4_2 : ¬ w4.heap.size = w.heap.size + 1 + 1 := by omega
 have ne4_4_3 : ¬ w4.heap.size = w2.heap.size := by omega
 have ne4_4_5 : ¬ w4.heap.size = w6.heap.size := by omega
 have ne4_5_0 : ¬ w6.heap.size = w.heap.size := by omega
 have ne4_5_1 : ¬ w6.heap.size = w.heap.size + 1 := by omega
 have ne4_5_2 : ¬ w6.heap.size = w.heap.size + 1 + 1 := by omega
 have ne4_5_3 : ¬ w6.heap.size = w2.heap.size := by omega
 have ne4_5_4 : ¬ w6.heap.size = w4.heap.size := by omega
 clear H1 H2 H3 hT
 have lt0_6 := (F6.out.1).lt
 have lt1_6 := (F6.out.2.1).lt
 have lt2_6 := (F6.out.2.2.1).lt
 have lt3_6 := (F6.out.2.2.2.1).lt
 have lt4_6 := (F6.out.2.2.2.2.1).lt
 have lt5_6 := (F6.out.2.2.2.2.2.1).lt
 have le6 := (F6.out.2.2.2.2.2.2).size
 have F7 : Hid (Bk (w7.alloc (.cells #[.int .u64 (u1 : Int), .int .u64 (u3 : Int), .int .u64 (u2 : Int), .bool m2] 84)) (w.heap.size) [.int .u64 mh, .int .u64 ml, .int .i64 X, .bool ex, .int .i64 p, .int .i64 d] ∧ Bk (w7.alloc (.cells #[.int .u64 (u1 : Int), .int .u64 (u3 : Int), .int .u64 (u2 : Int), .bool m2] 84)) (w.heap.size + 1) [.bool ng, .int .i64 k, .int .u64 (m : Int), .int .i64 xe] ∧ Bk (w7.alloc (.cells #[.int .u64 (u1 : Int), .int .u64 (u3 : Int), .int .u64 (u2 : Int), .bool m2] 84)) (w.heap.size + 1 + 1) [.int .u64 0, .int .u64 0, .int .u64 0, .bool false] ∧ Bk (w7.alloc (.cells #[.int .u64 (u1 : Int), .int .u64 (u3 : Int), .int .u64 (u2 : Int), .bool m2] 84)) (w2.heap.size) [.int .u64 (u1 : Int), .bool m1] ∧ Bk (w7.alloc (.cells #[.int .u64 (u1 : Int), .int .u64 (u3 : Int), .int .u64 (u2 : Int), .bool m2] 84)) (w4.heap.size) [.int .u64 (u2 : Int), .bool m2] ∧ Bk (w7.alloc (.cells #[.int .u64 (u1 : Int), .int .u64 (u3 : Int), .int .u64 (u2 : Int), .bool m2] 84)) (w6.heap.size) [.int .u64 (u3 : Int), .bool m3] ∧ Bk (w7.alloc (.cells #[.int .u64 (u1 : Int), .int .u64 (u3 : Int), .int .u64 (u2 : Int), .bool m2] 84)) (w7.heap.size) [.int .u64 (u1 : Int), .int .u64 (u3 : Int), .int .u64 (u2 : Int), .bool m2] ∧ Below w.heap.size w (w7.alloc (.cells #[.int .u64 (u1 : Int), .int .u64 (u3 : Int), .int .u64 (u2 : Int), .bool m2] 84))) := ⟨(F6.out.1).step ((Below.refl _ _).alloc (Nat.le_refl _) _), (F6.out.2.1).step ((Below.refl _ _).alloc (Nat.le_refl _) _), (F6.out.2.2.1).step ((Below.refl _ _).alloc (Nat.le_refl _) _), (F6.out.2.2.2.1).step ((Below.refl _ _).alloc (Nat.le_refl _) _), (F6.out.2.2.2.2.1).step ((Below.refl _ _).alloc (Nat.le_refl _) _), (F6.out.2.2.2.2.2.1).step ((Below.refl _ _).alloc (Nat.le_refl _) _), Bk.newL w7 [.int .u64 (u1 : Int), .int .u64 (u3 : Int), .int .u64 (u2 : Int), .bool m2] 84, (F6.out.2.2.2.2.2.2).alloc ((F6.out.2.2.2.2.2.2).size) _⟩
 clear F6
 go_upto_region 9 with fail
 generalize (w7.alloc (.cells #[.int .u64 (u1 : Int), .int .u64 (u3 : Int), .int .u64 (u2 : Int), .bool m2] 84)) = w8 at *
 have l5_0 := F7.out.1.lt
 have a5_0_0 := F7.out.1.cell 0 _ rfl
 have f5_0_0 := F7.out.1.fz 0
 have a5_0_1 := F7.out.1.cell 1 _ rfl
 have f5_0_1 := F7.out.1.fz 1
 have a5_0_2 := F7.out.1.cell 2 _ rfl
 have f5_0_2 := F7.out.1.fz 2
 have a5_0_3 := F7.out.1.cell 3 _ rfl
 have f5_0_3 := F7.out.1.fz 3
 have a5_0_4 := F7.out.1.cell 4 _ rfl
 have f5_0_4 := F7.out.1.fz 4
 have a5_0_5 := F7.out.1.cell 5 _ rfl
 have f5_0_5 := F7.out.1.fz 5
 have l5_1 := F7.out.2.1.lt
 have a5_1_0 := F7.out.2.1.cell 0 _ rfl
 have f5_1_0 := F7.out.2.1.fz 0
 have a5_1_1 := F7.out.2.1.cell 1 _ rfl
 have f5_1_1 := F7.out.2.1.fz 1
 have a5_1_2 := F7.out.2.1.cell 2 _ rfl
 have f5_1_2 := F7.out.2.1.fz 2
 have a5_1_3 := F7.out.2.1.cell 3 _ rfl
 have f5_1_3 := F7.out.2.1.fz 3
 have l5_2 := F7.out.2.2.1.lt
 have a5_2_0 := F7.out.2.2.1.cell 0 _ rfl
 have f5_2_0 := F7.out.2.2.1.fz 0
 have a5_2_1 := F7.out.2.2.1.cell 1 _ rfl
 have f5_2_1 := F7.out.2.2.1.fz 1
 have a5_2_2 := F7.out.2.2.1.cell 2 _ rfl
 have f5_2_2 := F7.out.2.2.1.fz 2
 have a5_2_3 := F7.out.2.2.1.cell 3 _ rfl
 have f5_2_3 := F7.out.2.2.1.fz 3
 have l5_3 := F7.out.2.2.2.1.lt
 have a5_3_0 := F7.out.2.2.2.1.cell 0 _ rfl
 have f5_3_0 := F7.out.2.2.2.1.fz 0
 have a5_3_1 := F7.out.2.2.2.1.cell 1 _ rfl
 have f5_3_1 := F7.out.2.2.2.1.fz 1
 have l5_4 := F7.out.2.2.2.2.1.lt
 have a5_4_0 := F7.out.2.2.2.2.1.cell 0 _ rfl
 have f5_4_0 := F7.out.2.2.2.2.1.fz 0
 have a5_4_1 := F7.out.2.2.2.2.1.cell 1 _ rfl
 have f5_4_1 := F7.out.2.2.2.2.1.fz 1
 have l5_5 := F7.out.2.2.2.2.2.1.lt
 have a5_5_0 := F7.out.2.2.2.2.2.1.cell 0 _ rfl
 have f5_5_0 := F7.out.2.2.2.2.2.1.fz 0
 have a5_5_1 := F7.out.2.2.2.2.2.1.cell 1 _ rfl
 have f5_5_1 := F7.out.2.2.2.2.2.1.fz 1
 have l5_6 := F7.out.2.2.2.2.2.2.1.lt
 have a5_6_0 := F7.out.2.2.2.2.2.2.1.cell 0 _ rfl
 have f5_6_0 := F7.out.2.2.2.2.2.2.1.fz 0
 have a5_6_1 := F7.out.2.2.2.2.2.2.1.cell 1 _ rfl
 have f5_6_1 := F7.out.2.2.2.2.2.2.1.fz 1
 have a5_6_2 := F7.out.2.2.2.2.2.2.1.cell 2 _ rfl
 have f5_6_2 := F7.out.2.2.2.2.2.2.1.fz 2
 have a5_6_3 := F7.out.2.2.2.2.2.2.1.cell 3 _ rfl
 have f5_6_3 := F7.out.2.2.2.2.2.2.1.fz 3
 have ne5_0_1 : ¬ w.heap.size = w.heap.size + 1 := by omega
 have ne5_0_2 : ¬ w.heap.size = w.heap.size + 1 + 1 := by omega
 have ne5_0_3 : ¬ w.heap.size = w2.heap.size := by omega
 have ne5_0_4 : ¬ w.heap.size = w4.heap.size := by omega
 have ne5_0_5 : ¬ w.heap.size = w6.heap.size := by omega
 have ne5_0_6 : ¬ w.heap.size = w7.heap.size := by omega
 have ne5_1_0 : ¬ w.heap.size + 1 = w.heap.size := by omega
 have ne5_1_2 : ¬ w.heap.size + 1 = w.heap.size + 1 + 1 := by omega
 have ne5_1_3 : ¬ w.heap.size + 1 = w2.heap.size := by omega
 have ne5_1_4 : ¬ w.heap.size + 1 = w4.heap.size := by omega
 have ne5_1_5 : ¬ w.heap.size + 1 = w6.heap.size := by omega
 have ne5_1_6 : ¬ w.heap.size + 1 = w7.heap.size := by omega
 have ne5_2_0 : ¬ w.heap.size + 1 + 1 = w.heap.size := by omega
 have ne5_2_1 : ¬ w.heap.size + 1 + 1 = w.heap.size + 1 := by omega
 have ne5_2_3 : ¬ w.heap.size + 1 + 1 = w2.heap.size := by omega
 have ne5_2_4 : ¬ w.heap.size + 1 + 1 = w4.heap.size := by omega
 have ne5_2_5 : ¬ w.heap.size + 1 + 1 = w6.heap.size := by omega
 have ne5_2_6 : ¬ w.heap.size + 1 + 1 = w7.heap.size := by omega
 have ne5_3_0 : ¬ w2.heap.size = w.heap.size := by omega
 have ne5_3_1 : ¬ w2.heap.size = w.heap.size + 1 := by omega
 have ne5_3_2 : ¬ w2.heap.size = w.heap.size + 1 + 1 := by omega
 have ne5_3_4 : ¬ w2.heap.size = w4.heap.size := by omega
 have ne5_3_5 : ¬ w2.heap.size = w6.heap.size := by omega
 have ne5_3_6 : ¬ w2.heap.size = w7.heap.size := by omega
 have ne5_4_0 : ¬ w4.heap.size = w.heap.size := by omega
 have ne5_4_1 : ¬ w4.heap.size = w.heap.size + 1 := by omega
 have ne5_4_2 : ¬ w4.heap.size = w.heap.size + 1 + 1 := by omega
 have ne5_4_3 : ¬ w4.heap.size = w2.heap.size := by omega
 have ne5_4_5 : ¬ w4.heap.size = w6.heap.size := by omega
 have ne5_4_6 : ¬ w4.heap.size = w7.heap.size := by omega
 have ne5_5_0 : ¬ w6.heap.size = w.heap.size := by omega
 have ne5_5_1 : ¬ w6.heap.size = w.heap.size + 1 := by omega
 have ne5_5_2 : ¬ w6.heap.size = w.heap.size + 1 + 1 := by omega
 have ne5_5_3 : ¬ w6.heap.size = w2.heap.size := by omega
 have ne5_5_4 : ¬ w6.heap.size = w4.heap.size := by omega
 have ne5_5_6 : ¬ w6.heap.size = w7.heap.size := by omega
 have ne5_6_0 : ¬ w7.heap.size = w.heap.size := by omega
 have ne5_6_1 : ¬ w7.heap.size = w.heap.size + 1 := by omega
 have ne5_6_2 : ¬ w7.heap.size = w.heap.size + 1 + 1 := by omega
 have ne5_6_3 : ¬ w7.heap.size = w2.heap.size := by omega
 have ne5_6_4 : ¬ w7.heap.size = w4.heap.size := by omega
 have ne5_6_5 : ¬ w7.heap.size = w6.heap.size := by omega
 cases m1 <;> cases m3 <;> cases cl
 · go_wp2
   refine bodyPost_ret (v := .tuple #[.agg #[.int .u64 ((u1 : Int) + 1), .int .u64 ((u3 : Int) - 1), .int .u64 (u2 : Int), .bool m2], .bool true]) (by simp [results, Tryz.results34, go_sem, World.cell?_setCell_same, World.cell?_setCell_other, *]) rfl ⟨by first | rfl | (simp [Int.natCast_sub c3]; done), ?_⟩
   repeat (first | refine Below.setCell ?_ (by first | exact Nat.le_refl _ | (dsimp only; omega)) _ | refine Below.alloc ?_ (by first | exact Nat.le_refl _ | omega | (simp; omega)) _ | refine Below.drew ?_)
   exact F7.out.2.2.2.2.2.2.2
 · go_wp2
   refine bodyPost_ret (v := .tuple #[.agg #[.int .u64 (u1 : Int), .int .u64 (u3 : Int), .int .u64 (u2 : Int), .bool m2], .bool true]) (by simp [results, Tryz.results34, go_sem, World.cell?_setCell_same, World.cell?_setCell_other, *]) rfl ⟨by first | rfl | (simp [Int.natCast_sub c3]; done), ?_⟩
   repeat (first | refine Below.setCell ?_ (by first | exact Nat.le_refl _ | (dsimp only; omega)) _ | refine Below.alloc ?_ (by first | exact Nat.le_refl _ | omega | (simp; omega)) _ | refine Below.drew ?_)
   exact F7.out.2.2.2.2.2.2.2
 · go_wp2
   refine bodyPost_ret (v := .tuple #[.agg #[.int .u64 ((u1 : Int) + 1), .int .u64 (u3 : Int), .int .u64 (u2 : Int), .bool m2], .bool true]) (by simp [results, Tryz.results34, go_sem, World.cell?_setCell_same, World.cell?_setCell_other, *]) rfl ⟨by first | rfl | (simp [Int.natCast_sub c3]; done), ?_⟩
   repeat (first | refine Below.setCell ?_ (by first | exact Nat.le_refl _ | (dsimp only; omega)) _ | refine Below.alloc ?_ (by first | exact Nat.le_refl _ | omega | (simp; omega)) _ | refine Below.drew ?_)
   exact F7.out.2.2.2.2.2.2.2
 · go_wp2
   refine bodyPost_ret (v := .tuple #[.agg #[.int .u64 (u1 : Int), .int .u64 (u3 : Int), .int .u64 (u2 : Int), .bool m2], .bool true]) (by simp [results, Tryz.results34, go_sem, World.cell?_setCell_same, World.cell?_setCell_other, *]) rfl ⟨by first | rfl | (simp [Int.natCast_sub c3]; done), ?_⟩
   repeat (first | refine Below.setCell ?_ (by first | exact Nat.le_refl _ | (dsimp only; omega)) _ | refine Below.alloc ?_ (by first | exact Nat.le_refl _ | omega | (simp; omega)) _ | refine Below.drew ?_)
   exact F7.out.2.2.2.2.2.2.2
 · go_wp2
   refine bodyPost_ret (v := .tuple #[.agg #[.int .u64 ((u1 : Int) + 1), .int .u64 ((u3 : Int) - 1), .int .u64 (u2 : Int), .bool m2], .bool true]) (by simp [results, Tryz.results34, go_sem, World.cell?_setCell_same, World.cell?_setCell_other, *]) rfl ⟨by first | rfl | (simp [Int.natCast_sub c3]; done), ?_⟩
   repeat (first | refine Below.setCell ?_ (by first | exact Nat.le_refl _ | (dsimp only; omega)) _ | refine Below.alloc ?_ (by first | exact Nat.le_refl _ | omega | (simp; omega)) _ | refine Below.drew ?_)
   exact F7.out.2.2.2.2.2.2.2
 · go_wp2
   refine bodyPost_ret (v := .tuple #[.agg #[.int .u64 ((u1 : Int) + 1), .int .u64 (u3 : Int), .int .u64 (u2 : Int), .bool m2], .bool true]) (by simp [results, Tryz.results34, go_sem, World.cell?_setCell_same, World.cell?_setCell_other, *]) rfl ⟨by first | rfl | (simp [Int.natCast_sub c3]; done), ?_⟩
   repeat (first | refine Below.setCell ?_ (by first | exact Nat.le_refl _ | (dsimp only; omega)) _ | refine Below.alloc ?_ (by first | exact Nat.le_refl _ | omega | (simp; omega)) _ | refine Below.drew ?_)
   exact F7.out.2.2.2.2.2.2.2
 · go_wp2
   refine bodyPost_ret (v := .tuple #[.agg #[.int .u64 ((u1 : Int) + 1), .int .u64 (u3 : Int), .int .u64 (u2 : Int), .bool m2], .bool true]) (by simp [results, Tryz.results34, go_sem, World.cell?_setCell_same, World.cell?_setCell_other, *]) rfl ⟨by first | rfl | (simp [Int.natCast_sub c3]; done), ?_⟩
   repeat (first | refine Below.setCell ?_ (by first | exact Nat.le_refl _ | (dsimp only; omega)) _ | refine Below.alloc ?_ (by first | exact Nat.le_refl _ | omega | (simp; omega)) _ | refine Below.drew ?_)
   exact F7.out.2.2.2.2.2.2.2
 · go_wp2
   refine bodyPost_ret (v := .tuple #[.agg #[.int .u64 ((u1 : Int) + 1), .int .u64 (u3 : Int), .int .u64 (u2 : Int), .bool m2], .bool true]) (by simp [results, Tryz.results34, go_sem, World.cell?_setCell_same, World.cell?_setCell_other, *]) rfl ⟨by first | rfl | (simp [Int.natCast_sub c3]; done), ?_⟩
   repeat (first | refine Below.setCell ?_ (by first | exact Nat.le_refl _ | (dsimp only; omega)) _ | refine Below.alloc ?_ (by first | exact Nat.le_refl _ | omega | (simp; omega)) _ | refine Below.drew ?_)
   exact F7.out.2.2.2.2.2.2.2
theorem qsh_no {w : World} {mh ml X p d : Int} {ex : Bool} {m g a mo v : Nat} {mr ng : Bool} {k xe : Int} (hT : Tab w) (HS : ∀ W, Tab W → Calls Tryz.prog 34 #[.agg #[.int .u64 mh, .int .u64 ml, .int .i64 X, .bool ex, .int .i64 p, .int .i64 d], .agg #[.bool ng, .int .i64 k, .int .u64 (m : Int), .int .i64 xe], .int .u64 (g : Int)] W fun e w' => e = .returned (.tuple #[.agg #[.int .u64 (a : Int), .int .u64 (mo : Int), .int .u64 (v : Int), .bool mr], .bool false]) ∧ Below W.heap.size W w') :
 Calls Tryz.prog 15 #[.agg #[.int .u64 mh, .int .u64 ml, .int .i64 X, .bool ex, .int .i64 p, .int .i64 d], .agg #[.bool ng, .int .i64 k, .int .u64 (m : Int), .int .i64 xe], .int .u64 (g : Int)] w fun x w' => x = .returned (.tuple #[.agg #[.string ⟨#[]⟩, .int .i64 0, .bool false], .bool false]) ∧ Below w.heap.size w w' := by
 have F0 : Hid (Bk (((w.alloc (.cells #[.int .u64 mh, .int .u64 ml, .int .i64 X, .bool ex, .int .i64 p, .int .i64 d] 49)).alloc (.cells #[.bool ng, .int .i64 k, .int .u64 (m : Int), .int .i64 xe] 39)).alloc (.cells #[.string ⟨#[]⟩, .int .i64 0, .bool false] 24)) (w.heap.size) [.int .u64 mh, .int .u64 ml, .int .i64 X, .bool ex, .int .i64 p, .int .i64 d] ∧ Bk (((w.alloc (.cells #[.int .u64 mh, .int .u64 ml, .int .i64 X, .bool ex, .int .i64 p, .int .i64 d] 49)).alloc (.cells #[.bool ng, .int .i64 k, .int .u64 (m : Int), .int .i64 xe] 39)).alloc (.cells #[.string ⟨#[]⟩, .int .i64 0, .bool false] 24)) (w.heap.size + 1) [.bool ng, .int .i64 k, .int .u64 (m : Int), .int .i64 xe] ∧ Bk (((w.alloc (.cells #[.int .u64 mh, .int .u64 ml, .int .i64 X, .bool ex, .int .i64 p, .int .i64 d] 49)).alloc (.cells #[.bool ng, .int .i64 k, .int .u64 (m : Int), .int .i64 xe] 39)).alloc (.cells #[.string ⟨#[]⟩, .int .i64 0, .bool false] 24)) (w.heap.size + 1 + 1) [.string ⟨#[]⟩, .int .i64 0, .bool false] ∧ Below w.heap.size w (((w.alloc (.cells #[.int .u64 mh, .int .u64 ml, .int .i64 X, .bool ex, .int .i64 p, .int .i64 d] 49)).alloc (.cells #[.bool ng, .int .i64 k, .int .u64 (m : Int), .int .i64 xe] 39)).alloc (.cells #[.string ⟨#[]⟩, .int .i64 0, .bool false] 24))) := ⟨((Bk.newL w [.int .u64 mh, .int .u64 ml, .int .i64 X, .bool ex, .int .i64 p, .int .i64 d] 49).step ((Below.refl _ _).alloc (Nat.le_refl _) _)).step ((Below.refl _ _).alloc (Nat.le_refl _) _), (((by have q := Bk.newL (w.alloc (.cells #[.int .u64 mh, .int .u64 ml, .int .i64 X, .bool ex, .int .i64 p, .int .i64 d] 49)) [.bool ng, .int .i64 k, .int .u64 (m : Int), .int .i64 xe] 39; simpa using q) : Bk ((w.alloc (.cells #[.int .u64 mh, .int .u64 ml, .int .i64 X, .bool ex, .int .i64 p, .int .i64 d] 49)).alloc (.cells #[.bool ng, .int .i64 k, .int .u64 (m : Int), .int .i64 xe] 39)) (w.heap.size + 1) [.bool ng, .int .i64 k, .int .u64 (m : Int), .int .i64 xe])).step ((Below.refl _ _).alloc (Nat.le_refl _) _), ((by have q := Bk.newL ((w.alloc (.cells #[.int .u64 mh, .int .u64 ml, .int .i64 X, .bool ex, .int .i64 p, .int .i64 d] 49)).alloc (.cells #[.bool ng, .int .i64 k, .int .u64 (m : Int), .int .i64 xe] 39)) [.string ⟨#[]⟩, .int .i64 0, .bool false] 24; simpa using q) : Bk (((w.alloc (.cells #[.int .u64 mh, .int .u64 ml, .int .i64 X, .bool ex, .int .i64 p, .int .i64 d] 49)).alloc (.cells #[.bool ng, .int .i64 k, .int .u64 (m : Int), .int .i64 xe] 39)).alloc (.cells #[.string ⟨#[]⟩, .int .i64 0, .bool false] 24)) (w.heap.size + 1 + 1) [.string ⟨#[]⟩, .int .i64 0, .bool false]), ((((Below.refl w.heap.size w)).alloc (Nat.le_refl _) _).alloc ((((Below.refl w.heap.size w)).alloc (Nat.le_refl _) _).size) _).alloc (((((Below.refl w.heap.size w)).alloc (Nat.le_refl _) _).alloc ((((Below.refl w.heap.size w)).alloc (Nat.le_refl _) _).size) _).size) _⟩
 go_enter Tryz.func15, Tryz.ntmps15
 go_upto_region 1 with fail
 generalize (((w.alloc (.cells #[.int .u64 mh, .int .u64 ml, .int .i64 X, .bool ex, .int .i64 p, .int .i64 d] 49)).alloc (.cells #[.bool ng, .int .i64 k, .int .u64 (m : Int), .int .i64 xe] 39)).alloc (.cells #[.string ⟨#[]⟩, .int .i64 0, .bool false] 24)) = w1 at *
 have l1_0 := F0.out.1.lt
 have a1_0_0 := F0.out.1.cell 0 _ rfl
 have f1_0_0 := F0.out.1.fz 0
 have a1_0_1 := F0.out.1.cell 1 _ rfl
 have f1_0_1 := F0.out.1.fz 1
 have a1_0_2 := F0.out.1.cell 2 _ rfl
 have f1_0_2 := F0.out.1.fz 2
 have a1_0_3 := F0.out.1.cell 3 _ rfl
 have f1_0_3 := F0.out.1.fz 3
 have a1_0_4 := F0.out.1.cell 4 _ rfl
 have f1_0_4 := F0.out.1.fz 4
 have a1_0_5 := F0.out.1.cell 5 _ rfl
 have f1_0_5 := F0.out.1.fz 5
 have l1_1 := F0.out.2.1.lt
 have a1_1_0 := F0.out.2.1.cell 0 _ rfl
 have f1_1_0 := F0.out.2.1.fz 0
 have a1_1_1 := F0.out.2.1.cell 1 _ rfl
 have f1_1_1 := F0.out.2.1.fz 1
 have a1_1_2 := F0.out.2.1.cell 2 _ rfl
 have f1_1_2 := F0.out.2.1.fz 2
 have a1_1_3 := F0.out.2.1.cell 3 _ rfl
 have f1_1_3 := F0.out.2.1.fz 3
 have l1_2 := F0.out.2.2.1.lt
 have a1_2_0 := F0.out.2.2.1.cell 0 _ rfl
 have f1_2_0 := F0.out.2.2.1.fz 0
 have a1_2_1 := F0.out.2.2.1.cell 1 _ rfl
 have f1_2_1 := F0.out.2.2.1.fz 1
 have a1_2_2 := F0.out.2.2.1.cell 2 _ rfl
 have f1_2_2 := F0.out.2.2.1.fz 2
 have ne1_0_1 : ¬ w.heap.size = w.heap.size + 1 := by omega
 have ne1_0_2 : ¬ w.heap.size = w.heap.size + 1 + 1 := by omega
 have ne1_1_0 : ¬ w.heap.size + 1 = w.heap.size := by omega
 have ne1_1_2 : ¬ w.heap.size + 1 = w.heap.size + 1 + 1 := by omega
 have ne1_2_0 : ¬ w.heap.size + 1 + 1 = w.heap.size := by omega
 have ne1_2_1 : ¬ w.heap.size + 1 + 1 = w.heap.size + 1 := by omega
 go_wp2_with fail
 all_goals first | (exfalso; omega) | skip
 refine (HS _ (hT.next (F0.out.2.2.2))).mono ?_
 rintro o2 w2 ⟨rfl, bb⟩
 have F1 : Hid (Bk w2 (w.heap.size) [.int .u64 mh, .int .u64 ml, .int .i64 X, .bool ex, .int .i64 p, .int .i64 d] ∧ Bk w2 (w.heap.size + 1) [.bool ng, .int .i64 k, .int .u64 (m : Int), .int .i64 xe] ∧ Bk w2 (w.heap.size + 1 + 1) [.string ⟨#[]⟩, .int .i64 0, .bool false] ∧ Below w.heap.size w w2) := ⟨(F0.out.1).step bb, (F0.out.2.1).step bb, (F0.out.2.2.1).step bb, (F0.out.2.2.2).trans (bb.mono (F0.out.2.2.2).size)⟩
 clear F0
 clear bb
 clear l1_0 a1_0_0 f1_0_0 a1_0_1 f1_0_1 a1_0_2 f1_0_2 a1_0_3 f1_0_3 a1_0_4 f1_0_4 a1_0_5 f1_0_5 l1_1 a1_1_0 f1_1_0 a1_1_1 f1_1_1 a1_1_2 f1_1_2 a1_1_3 f1_1_3 l1_2 a1_2_0 f1_2_0 a1_2_1 f1_2_1 a1_2_2 f1_2_2
 have lt0_3 := (F1.out.1).lt
 have lt1_3 := (F1.out.2.1).lt
 have lt2_3 := (F1.out.2.2.1).lt
 have le3 := (F1.out.2.2.2).size
 have F2 : Hid (Bk (w2.alloc (.cells #[.int .u64 (a : Int), .int .u64 (mo : Int), .int .u64 (v : Int), .bool mr] 84)) (w.heap.size) [.int .u64 mh, .int .u64 ml, .int .i64 X, .bool ex, .int .i64 p, .int .i64 d] ∧ Bk (w2.alloc (.cells #[.int .u64 (a : Int), .int .u64 (mo : Int), .int .u64 (v : Int), .bool mr] 84)) (w.heap.size + 1) [.bool ng, .int .i64 k, .int .u64 (m : Int), .int .i64 xe] ∧ Bk (w2.alloc (.cells #[.int .u64 (a : Int), .int .u64 (mo : Int), .int .u64 (v : Int), .bool mr] 84)) (w.heap.size + 1 + 1) [.string ⟨#[]⟩, .int .i64 0, .bool false] ∧ Bk (w2.alloc (.cells #[.int .u64 (a : Int), .int .u64 (mo : Int), .int .u64 (v : Int), .bool mr] 84)) (w2.heap.size) [.int .u64 (a : Int), .int .u64 (mo : Int), .int .u64 (v : Int), .bool mr] ∧ Below w.heap.size w (w2.alloc (.cells #[.int .u64 (a : Int), .int .u64 (mo : Int), .int .u64 (v : Int), .bool mr] 84))) := ⟨(F1.out.1).step ((Below.refl _ _).alloc (Nat.le_refl _) _), (F1.out.2.1).step ((Below.refl _ _).alloc (Nat.le_refl _) _), (F1.out.2.2.1).step ((Below.refl _ _).alloc (Nat.le_refl _) _), Bk.newL w2 [.int .u64 (a : Int), .int .u64 (mo : Int), .int .u64 (v : Int), .bool mr] 84, (F1.out.2.2.2).alloc ((F1.out.2.2.2).size) _⟩
 clear F1
 go_upto_region 2 with fail
 generalize (w2.alloc (.cells #[.int .u64 (a : Int), .int .u64 (mo : Int), .int .u64 (v : Int), .bool mr] 84)) = w3 at *
 have l2_0 := F2.out.1.lt
 have a2_0_0 := F2.out.1.cell 0 _ rfl
 have f2_0_0 := F2.out.1.fz 0
 have a2_0_1 := F2.out.1.cell 1 _ rfl
 have f2_0_1 := F2.out.1.fz 1
 have a2_0_2 := F2.out.1.cell 2 _ rfl
 have f2_0_2 := F2.out.1.fz 2
 have a2_0_3 := F2.out.1.cell 3 _ rfl
 have f2_0_3 := F2.out.1.fz 3
 have a2_0_4 := F2.out.1.cell 4 _ rfl
 have f2_0_4 := F2.out.1.fz 4
 have a2_0_5 := F2.out.1.cell 5 _ rfl
 have f2_0_5 := F2.out.1.fz 5
 have l2_1 := F2.out.2.1.lt
 have a2_1_0 := F2.out.2.1.cell 0 _ rfl
 have f2_1_0 := F2.out.2.1.fz 0
 have a2_1_1 := F2.out.2.1.cell 1 _ rfl
 have f2_1_1 := F2.out.2.1.fz 1
 have a2_1_2 := F2.out.2.1.cell 2 _ rfl
 have f2_1_2 := F2.out.2.1.fz 2
 have a2_1_3 := F2.out.2.1.cell 3 _ rfl
 have f2_1_3 := F2.out.2.1.fz 3
 have l2_2 := F2.out.2.2.1.lt
 have a2_2_0 := F2.out.2.2.1.cell 0 _ rfl
 have f2_2_0 := F2.out.2.2.1.fz 0
 have a2_2_1 := F2.out.2.2.1.cell 1 _ rfl
 have f2_2_1 := F2.out.2.2.1.fz 1
 have a2_2_2 := F2.out.2.2.1.cell 2 _ rfl
 have f2_2_2 := F2.out.2.2.1.fz 2
 have l2_3 := F2.out.2.2.2.1.lt
 have a2_3_0 := F2.out.2.2.2.1.cell 0 _ rfl
 have f2_3_0 := F2.out.2.2.2.1.fz 0
 have a2_3_1 := F2.out.2.2.2.1.cell 1 _ rfl
 have f2_3_1 := F2.out.2.2.2.1.fz 1
 have a2_3_2 := F2.out.2.2.2.1.cell 2 _ rfl
 have f2_3_2 := F2.out.2.2.2.1.fz 2
 have a2_3_3 := F2.out.2.2.2.1.cell 3 _ rfl
 have f2_3_3 := F2.out.2.2.2.1.fz 3
 have ne2_0_1 : ¬ w.heap.size = w.heap.size + 1 := by omega
 have ne2_0_2 : ¬ w.heap.size = w.heap.size + 1 + 1 := by omega
 have ne2_0_3 : ¬ w.heap.size = w2.heap.size := by omega
 have ne2_1_0 : ¬ w.heap.size + 1 = w.heap.size := by omega
 have ne2_1_2 : ¬ w.heap.size + 1 = w.heap.size + 1 + 1 := by omega
 have ne2_1_3 : ¬ w.heap.size + 1 = w2.heap.size := by omega
 have ne2_2_0 : ¬ w.heap.size + 1 + 1 = w.heap.size := by omega
 have ne2_2_1 : ¬ w.heap.size + 1 + 1 = w.heap.size + 1 := by omega
 have ne2_2_3 : ¬ w.heap.size + 1 + 1 = w2.heap.size := by omega
 have ne2_3_0 : ¬ w2.heap.size = w.heap.size := by omega
 have ne2_3_1 : ¬ w2.heap.size = w.heap.size + 1 := by omega
 have ne2_3_2 : ¬ w2.heap.size = w.heap.size + 1 + 1 := by omega
 go_wp2
 refine bodyPost_ret (v := .tuple #[.agg #[.string ⟨#[]⟩, .int .i64 0, .bool false], .bool false]) (by simp [results, Tryz.results15, go_sem, World.cell?_setCell_same, World.cell?_setCell_other, *]) rfl ⟨rfl, ?_⟩
 repeat (first | refine Below.setCell ?_ (by first | exact Nat.le_refl _ | (dsimp only; omega)) _ | refine Below.alloc ?_ (by first | exact Nat.le_refl _ | omega | (simp; omega)) _ | refine Below.drew ?_)
 exact F2.out.2.2.2.2
theorem qsh_ok {w : World} {mh ml X p d : Int} {ex : Bool} {m g a mo v : Nat} {mr ng : Bool} {k xe : Int} (hT : Tab w) (hP : ∀ w', Below w.heap.size w w' → Pow w') {j n R : Nat} {tx : ByteArray} (j1 : j ≤ 100) (p1 : -10000 ≤ p) (p2 : p ≤ 10000) (t1 : tx.size ≤ 100) (HS : ∀ W, Tab W → Calls Tryz.prog 34 #[.agg #[.int .u64 mh, .int .u64 ml, .int .i64 X, .bool ex, .int .i64 p, .int .i64 d], .agg #[.bool ng, .int .i64 k, .int .u64 (m : Int), .int .i64 xe], .int .u64 (g : Int)] W fun e w' => e = .returned (.tuple #[.agg #[.int .u64 (a : Int), .int .u64 (mo : Int), .int .u64 (v : Int), .bool mr], .bool true]) ∧ Below W.heap.size W w') (HT : ∀ W, Calls Tryz.prog 35 #[.agg #[.int .u64 (a : Int), .int .u64 (mo : Int), .int .u64 (v : Int), .bool mr]] W fun e w' => e = .returned (.tuple #[.int .u64 (R : Int), .int .i64 (j : Int)]) ∧ Below W.heap.size W w') (HN : ∀ W, Calls Tryz.prog 37 #[.agg #[.int .u64 (a : Int), .int .u64 (mo : Int), .int .u64 (v : Int), .bool mr], .int .u64 (R : Int)] W fun e w' => e = .returned (.int .u64 (n : Int)) ∧ Below W.heap.size W w') (HF : ∀ W, Pow W → Calls Tryz.prog 36 #[.int .u64 (n : Int), .int .i64 10] W fun e w' => e = .returned (.string tx) ∧ Below W.heap.size W w') :
 Calls Tryz.prog 15 #[.agg #[.int .u64 mh, .int .u64 ml, .int .i64 X, .bool ex, .int .i64 p, .int .i64 d], .agg #[.bool ng, .int .i64 k, .int .u64 (m : Int), .int .i64 xe], .int .u64 (g : Int)] w fun x w' => x = .returned (.tuple #[.agg #[.string tx, .int .i64 ((tx.size : Int) + (j : Int) + p), .bool false], .bool true]) ∧ Below w.heap.size w w' := by
 have F0 : Hid (Bk (((w.alloc (.cells #[.int .u64 mh, .int .u64 ml, .int .i64 X, .bool ex, .int .i64 p, .int .i64 d] 49)).alloc (.cells #[.bool ng, .int .i64 k, .int .u64 (m : Int), .int .i64 xe] 39)).alloc (.cells #[.string ⟨#[]⟩, .int .i64 0, .bool false] 24)) (w.heap.size) [.int .u64 mh, .int .u64 ml, .int .i64 X, .bool ex, .int .i64 p, .int .i64 d] ∧ Bk (((w.alloc (.cells #[.int .u64 mh, .int .u64 ml, .int .i64 X, .bool ex, .int .i64 p, .int .i64 d] 49)).alloc (.cells #[.bool ng, .int .i64 k, .int .u64 (m : Int), .int .i64 xe] 39)).alloc (.cells #[.string ⟨#[]⟩, .int .i64 0, .bool false] 24)) (w.heap.size + 1) [.bool ng, .int .i64 k, .int .u64 (m : Int), .int .i64 xe] ∧ Bk (((w.alloc (.cells #[.int .u64 mh, .int .u64 ml, .int .i64 X, .bool ex, .int .i64 p, .int .i64 d] 49)).alloc (.cells #[.bool ng, .int .i64 k, .int .u64 (m : Int), .int .i64 xe] 39)).alloc (.cells #[.string ⟨#[]⟩, .int .i64 0, .bool false] 24)) (w.heap.size + 1 + 1) [.string ⟨#[]⟩, .int .i64 0, .bool false] ∧ Below w.heap.size w (((w.alloc (.cells #[.int .u64 mh, .int .u64 ml, .int .i64 X, .bool ex, .int .i64 p, .int .i64 d] 49)).alloc (.cells #[.bool ng, .int .i64 k, .int .u64 (m : Int), .int .i64 xe] 39)).alloc (.cells #[.string ⟨#[]⟩, .int .i64 0, .bool false] 24))) := ⟨((Bk.newL w [.int .u64 mh, .int .u64 ml, .int .i64 X, .bool ex, .int .i64 p, .int .i64 d] 49).step ((Below.refl _ _).alloc (Nat.le_refl _) _)).step ((Below.refl _ _).alloc (Nat.le_refl _) _), (((by have q := Bk.newL (w.alloc (.cells #[.int .u64 mh, .int .u64 ml, .int .i64 X, .bool ex, .int .i64 p, .int .i64 d] 49)) [.bool ng, .int .i64 k, .int .u64 (m : Int), .int .i64 xe] 39; simpa using q) : Bk ((w.alloc (.cells #[.int .u64 mh, .int .u64 ml, .int .i64 X, .bool ex, .int .i64 p, .int .i64 d] 49)).alloc (.cells #[.bool ng, .int .i64 k, .int .u64 (m : Int), .int .i64 xe] 39)) (w.heap.size + 1) [.bool ng, .int .i64 k, .int .u64 (m : Int), .int .i64 xe])).step ((Below.refl _ _).alloc (Nat.le_refl _) _), ((by have q := Bk.newL ((w.alloc (.cells #[.int .u64 mh, .int .u64 ml, .int .i64 X, .bool ex, .int .i64 p, .int .i64 d] 49)).alloc (.cells #[.bool ng, .int .i64 k, .int .u64 (m : Int), .int .i64 xe] 39)) [.string ⟨#[]⟩, .int .i64 0, .bool false] 24; simpa using q) : Bk (((w.alloc (.cells #[.int .u64 mh, .int .u64 ml, .int .i64 X, .bool ex, .int .i64 p, .int .i64 d] 49)).alloc (.cells #[.bool ng, .int .i64 k, .int .u64 (m : Int), .int .i64 xe] 39)).alloc (.cells #[.string ⟨#[]⟩, .int .i64 0, .bool false] 24)) (w.heap.size + 1 + 1) [.string ⟨#[]⟩, .int .i64 0, .bool false]), ((((Below.refl w.heap.size w)).alloc (Nat.le_refl _) _).alloc ((((Below.refl w.heap.size w)).alloc (Nat.le_refl _) _).size) _).alloc (((((Below.refl w.heap.size w)).alloc (Nat.le_refl _) _).alloc ((((Below.refl w.heap.size w)).alloc (Nat.le_refl _) _).size) _).size) _⟩
 go_enter Tryz.func15, Tryz.ntmps15
 go_upto_region 1 with fail
 generalize (((w.alloc (.cells #[.int .u64 mh, .int .u64 ml, .int .i64 X, .bool ex, .int .i64 p, .int .i64 d] 49)).alloc (.cells #[.bool ng, .int .i64 k, .int .u64 (m : Int), .int .i64 xe] 39)).alloc (.cells #[.string ⟨#[]⟩, .int .i64 0, .bool false] 24)) = w1 at *
 have l1_0 := F0.out.1.lt
 have a1_0_0 := F0.out.1.cell 0 _ rfl
 have f1_0_0 := F0.out.1.fz 0
 have a1_0_1 := F0.out.1.cell 1 _ rfl
 have f1_0_1 := F0.out.1.fz 1
 have a1_0_2 := F0.out.1.cell 2 _ rfl
 have f1_0_2 := F0.out.1.fz 2
 have a1_0_3 := F0.out.1.cell 3 _ rfl
 have f1_0_3 := F0.out.1.fz 3
 have a1_0_4 := F0.out.1.cell 4 _ rfl
 have f1_0_4 := F0.out.1.fz 4
 have a1_0_5 := F0.out.1.cell 5 _ rfl
 have f1_0_5 := F0.out.1.fz 5
 have l1_1 := F0.out.2.1.lt
 have a1_1_0 := F0.out.2.1.cell 0 _ rfl
 have f1_1_0 := F0.out.2.1.fz 0
 have a1_1_1 := F0.out.2.1.cell 1 _ rfl
 have f1_1_1 := F0.out.2.1.fz 1
 have a1_1_2 := F0.out.2.1.cell 2 _ rfl
 have f1_1_2 := F0.out.2.1.fz 2
 have a1_1_3 := F0.out.2.1.cell 3 _ rfl
 have f1_1_3 := F0.out.2.1.fz 3
 have l1_2 := F0.out.2.2.1.lt
 have a1_2_0 := F0.out.2.2.1.cell 0 _ rfl
 have f1_2_0 := F0.out.2.2.1.fz 0
 have a1_2_1 := F0.out.2.2.1.cell 1 _ rfl
 have f1_2_1 := F0.out.2.2.1.fz 1
 have a1_2_2 := F0.out.2.2.1.cell 2 _ rfl
 have f1_2_2 := F0.out.2.2.1.fz 2
 have ne1_0_1 : ¬ w.heap.size = w.heap.size + 1 := by omega
 have ne1_0_2 : ¬ w.heap.size = w.heap.size + 1 + 1 := by omega
 have ne1_1_0 : ¬ w.heap.size + 1 = w.heap.size := by omega
 have ne1_1_2 : ¬ w.heap.size + 1 = w.heap.size + 1 + 1 := by omega
 have ne1_2_0 : ¬ w.heap.size + 1 + 1 = w.heap.size := by omega
 have ne1_2_1 : ¬ w.heap.size + 1 + 1 = w.heap.size + 1 := by omega
 go_wp2_with fail
 all_goals first | (exfalso; omega) | skip
 refine (HS _ (hT.next (F0.out.2.2.2))).mono ?_
 rintro o2 w2 ⟨rfl, bb⟩
 have F1 : Hid (Bk w2 (w.heap.size) [.int .u64 mh, .int .u64 ml, .int .i64 X, .bool ex, .int .i64 p, .int .i64 d] ∧ Bk w2 (w.heap.size + 1) [.bool ng, .int .i64 k, .int .u64 (m : Int), .int .i64 xe] ∧ Bk w2 (w.heap.size + 1 + 1) [.string ⟨#[]⟩, .int .i64 0, .bool false] ∧ Below w.heap.size w w2) := ⟨(F0.out.1).step bb, (F0.out.2.1).step bb, (F0.out.2.2.1).step bb, (F0.out.2.2.2).trans (bb.mono (F0.out.2.2.2).size)⟩
 clear F0
 clear bb
 clear l1_0 a1_0_0 f1_0_0 a1_0_1 f1_0_1 a1_0_2 f1_0_2 a1_0_3 f1_0_3 a1_0_4 f1_0_4 a1_0_5 f1_0_5 l1_1 a1_1_0 f1_1_0 a1_1_1 f1_1_1 a1_1_2 f1_1_2 a1_1_3 f1_1_3 l1_2 a1_2_0 f1_2_0 a1_2_1 f1_2_1 a1_2_2 f1_2_2
 have lt0_3 := (F1.out.1).lt
 have lt1_3 := (F1.out.2.1).lt
 have lt2_3 := (F1.out.2.2.1).lt
 have le3 := (F1.out.2.2.2).size
 have F2 : Hid (Bk (w2.alloc (.cells #[.int .u64 (a : Int), .int .u64 (mo : Int), .int .u64 (v : Int), .bool mr] 84)) (w.heap.size) [.int .u64 mh, .int .u64 ml, .int .i64 X, .bool ex, .int .i64 p, .int .i64 d] ∧ Bk (w2.alloc (.cells #[.int .u64 (a : Int), .int .u64 (mo : Int), .int .u64 (v : Int), .bool mr] 84)) (w.heap.size + 1) [.bool ng, .int .i64 k, .int .u64 (m : Int), .int .i64 xe] ∧ Bk (w2.alloc (.cells #[.int .u64 (a : Int), .int .u64 (mo : Int), .int .u64 (v : Int), .bool mr] 84)) (w.heap.size + 1 + 1) [.string ⟨#[]⟩, .int .i64 0, .bool false] ∧ Bk (w2.alloc (.cells #[.int .u64 (a : Int), .int .u64 (mo : Int), .int .u64 (v : Int), .bool mr] 84)) (w2.heap.size) [.int .u64 (a : Int), .int .u64 (mo : Int), .int .u64 (v : Int), .bool mr] ∧ Below w.heap.size w (w2.alloc (.cells #[.int .u64 (a : Int), .int .u64 (mo : Int), .int .u64 (v : Int), .bool mr] 84))) := ⟨(F1.out.1).step ((Below.refl _ _).alloc (Nat.le_refl _) _), (F1.out.2.1).step ((Below.refl _ _).alloc (Nat.le_refl _) _), (F1.out.2.2.1).step ((Below.refl _ _).alloc (Nat.le_refl _) _), Bk.newL w2 [.int .u64 (a : Int), .int .u64 (mo : Int), .int .u64 (v : Int), .bool mr] 84, (F1.out.2.2.2).alloc ((F1.out.2.2.2).size) _⟩
 clear F1
 go_upto_region 2 with fail
 generalize (w2.alloc (.cells #[.int .u64 (a : Int), .int .u64 (mo : Int), .int .u64 (v : Int), .bool mr] 84)) = w3 at *
 have l2_0 := F2.out.1.lt
 have a2_0_0 := F2.out.1.cell 0 _ rfl
 have f2_0_0 := F2.out.1.fz 0
 have a2_0_1 := F2.out.1.cell 1 _ rfl
 have f2_0_1 := F2.out.1.fz 1
 have a2_0_2 := F2.out.1.cell 2 _ rfl
 have f2_0_2 := F2.out.1.fz 2
 have a2_0_3 := F2.out.1.cell 3 _ rfl
 have f2_0_3 := F2.out.1.fz 3
 have a2_0_4 := F2.out.1.cell 4 _ rfl
 have f2_0_4 := F2.out.1.fz 4
 have a2_0_5 := F2.out.1.cell 5 _ rfl
 have f2_0_5 := F2.out.1.fz 5
 have l2_1 := F2.out.2.1.lt
 have a2_1_0 := F2.out.2.1.cell 0 _ rfl
 have f2_1_0 := F2.out.2.1.fz 0
 have a2_1_1 := F2.out.2.1.cell 1 _ rfl
 have f2_1_1 := F2.out.2.1.fz 1
 have a2_1_2 := F2.out.2.1.cell 2 _ rfl
 have f2_1_2 := F2.out.2.1.fz 2
 have a2_1_3 := F2.out.2.1.cell 3 _ rfl
 have f2_1_3 := F2.out.2.1.fz 3
 have l2_2 := F2.out.2.2.1.lt
 have a2_2_0 := F2.out.2.2.1.cell 0 _ rfl
 have f2_2_0 := F2.out.2.2.1.fz 0
 have a2_2_1 := F2.out.2.2.1.cell 1 _ rfl
 have f2_2_1 := F2.out.2.2.1.fz 1
 have a2_2_2 := F2.out.2.2.1.cell 2 _ rfl
 have f2_2_2 := F2.out.2.2.1.fz 2
 have l2_3 := F2.out.2.2.2.1.lt
 have a2_3_0 := F2.out.2.2.2.1.cell 0 _ rfl
 have f2_3_0 := F2.out.2.2.2.1.fz 0
 have a2_3_1 := F2.out.2.2.2.1.cell 1 _ rfl
 have f2_3_1 := F2.out.2.2.2.1.fz 1
 have a2_3_2 := F2.out.2.2.2.1.cell 2 _ rfl
 have f2_3_2 := F2.out.2.2.2.1.fz 2
 have a2_3_3 := F2.out.2.2.2.1.cell 3 _ rfl
 have f2_3_3 := F2.out.2.2.2.1.fz 3
 have ne2_0_1 : ¬ w.heap.size = w.heap.size + 1 := by omega
 have ne2_0_2 : ¬ w.heap.size = w.heap.size + 1 + 1 := by omega
 have ne2_0_3 : ¬ w.heap.size = w2.heap.size := by omega
 have ne2_1_0 : ¬ w.heap.size + 1 = w.heap.size := by omega
 have ne2_1_2 : ¬ w.heap.size + 1 = w.heap.size + 1 + 1 := by omega
 have ne2_1_3 : ¬ w.heap.size + 1 = w2.heap.size := by omega
 have ne2_2_0 : ¬ w.heap.size + 1 + 1 = w.heap.size := by omega
 have ne2_2_1 : ¬ w.heap.size + 1 + 1 = w.heap.size + 1 := by omega
 have ne2_2_3 : ¬ w.heap.size + 1 + 1 = w2.heap.size := by omega
 have ne2_3_0 : ¬ w2.heap.size = w.heap.size := by omega
 have ne2_3_1 : ¬ w2.heap.size = w.heap.size + 1 := by omega
 have ne2_3_2 : ¬ w2.heap.size = w.heap.size + 1 + 1 := by omega
 go_wp2_with fail
 all_goals first | (exfalso; omega) | skip
 refine (HT _).mono ?_
 rintro o4 w4 ⟨rfl, bb⟩
 have F3 : Hid (Bk w4 (w.heap.size) [.int .u64 mh, .int .u64 ml, .int .i64 X, .bool ex, .int .i64 p, .int .i64 d] ∧ Bk w4 (w.heap.size + 1) [.bool ng, .int .i64 k, .int .u64 (m : Int), .int .i64 xe] ∧ Bk w4 (w.heap.size + 1 + 1) [.string ⟨#[]⟩, .int .i64 0, .bool false] ∧ Bk w4 (w2.heap.size) [.int .u64 (a : Int), .int .u64 (mo : Int), .int .u64 (v : Int), .bool mr] ∧ Below w.heap.size w w4) := ⟨(F2.out.1).step bb, (F2.out.2.1).step bb, (F2.out.2.2.1).step bb, (F2.out.2.2.2.1).step bb, (F2.out.2.2.2.2).trans (bb.mono (F2.out.2.2.2.2).size)⟩
 clear F2
 clear bb
 clear l2_0 a2_0_0 f2_0_0 a2_0_1 f2_0_1 a2_0_2 f2_0_2 a2_0_3 f2_0_3 a2_0_4 f2_0_4 a2_0_5 f2_0_5 l2_1 a2_1_0 f2_1_0 a2_1_1 f2_1_1 a2_1_2 f2_1_2 a2_1_3 f2_1_3 l2_2 a2_2_0 f2_2_0 a2_2_1 f2_2_1 a2_2_2 f2_2_2 l2_3 a2_3_0 f2_3_0 a2_3_1 f2_3_1 a2_3_2 f2_3_2 a2_3_3 f2_3_3
 have l3_0 := F3.out.1.lt
 have a3_0_0 := F3.out.1.cell 0 _ rfl
 have f3_0_0 := F3.out.1.fz 0
 have a3_0_1 := F3.out.1.cell 1 _ rfl
 have f3_0_1 := F3.out.1.fz 1
 have a3_0_2 := F3.out.1.cell 2 _ rfl
 have f3_0_2 := F3.out.1.fz 2
 have a3_0_3 := F3.out.1.cell 3 _ rfl
 have f3_0_3 := F3.out.1.fz 3
 have a3_0_4 := F3.out.1.cell 4 _ rfl
 have f3_0_4 := F3.out.1.fz 4
 have a3_0_5 := F3.out.1.cell 5 _ rfl
 have f3_0_5 := F3.out.1.fz 5
 have l3_1 := F3.out.2.1.lt
 have a3_1_0 := F3.out.2.1.cell 0 _ rfl
 have f3_1_0 := F3.out.2.1.fz 0
 have a3_1_1 := F3.out.2.1.cell 1 _ rfl
 have f3_1_1 := F3.out.2.1.fz 1
 have a3_1_2 := F3.out.2.1.cell 2 _ rfl
 have f3_1_2 := F3.out.2.1.fz 2
 have a3_1_3 := F3.out.2.1.cell 3 _ rfl
 have f3_1_3 := F3.out.2.1.fz 3
 have l3_2 := F3.out.2.2.1.lt
 have a3_2_0 := F3.out.2.2.1.cell 0 _ rfl
 have f3_2_0 := F3.out.2.2.1.fz 0
 have a3_2_1 := F3.out.2.2.1.cell 1 _ rfl
 have f3_2_1 := F3.out.2.2.1.fz 1
 have a3_2_2 := F3.out.2.2.1.cell 2 _ rfl
 have f3_2_2 := F3.out.2.2.1.fz 2
 have l3_3 := F3.out.2.2.2.1.lt
 have a3_3_0 := F3.out.2.2.2.1.cell 0 _ rfl
 have f3_3_0 := F3.out.2.2.2.1.fz 0
 have a3_3_1 := F3.out.2.2.2.1.cell 1 _ rfl
 have f3_3_1 := F3.out.2.2.2.1.fz 1
 have a3_3_2 := F3.out.2.2.2.1.cell 2 _ rfl
 have f3_3_2 := F3.out.2.2.2.1.fz 2
 have a3_3_3 := F3.out.2.2.2.1.cell 3 _ rfl
 have f3_3_3 := F3.out.2.2.2.1.fz 3
 have ne3_0_1 : ¬ w.heap.size = w.heap.size + 1 := by omega
 have ne3_0_2 : ¬ w.heap.size = w.heap.size + 1 + 1 := by omega
 have ne3_0_3 : ¬ w.heap.size = w2.heap.size := by omega
 have ne3_1_0 : ¬ w.heap.size + 1 = w.heap.size := by omega
 have ne3_1_2 : ¬ w.heap.size + 1 = w.heap.size + 1 + 1 := by omega
 have ne3_1_3 : ¬ w.heap.size + 1 = w2.heap.size := by omega
 have ne3_2_0 : ¬ w.heap.size + 1 + 1 = w.heap.size := by omega
 have ne3_2_1 : ¬ w.heap.size + 1 + 1 = w.heap.size + 1 := by omega
 have ne3_2_3 : ¬ w.heap.size + 1 + 1 = w2.heap.size := by omega
 have ne3_3_0 : ¬ w2.heap.size = w.heap.size := by omega
 have ne3_3_1 : ¬ w2.heap.size = w.heap.size + 1 := by omega
 have ne3_3_2 : ¬ w2.heap.size = w.heap.size + 1 + 1 := by omega
 go_wp2_with fail
 all_goals first | (exfalso; omega) | skip
 refine (HN _).mono ?_
 rintro o5 w5 ⟨rfl, bb⟩
 have F4 : Hid (Bk w5 (w.heap.size) [.int .u64 mh, .int .u64 ml, .int .i64 X, .bool ex, .int .i64 p, .int .i64 d] ∧ Bk w5 (w.heap.size + 1) [.bool ng, .int .i64 k, .int .u64 (m : Int), .int .i64 xe] ∧ Bk w5 (w.heap.size + 1 + 1) [.string ⟨#[]⟩, .int .i64 0, .bool false] ∧ Bk w5 (w2.heap.size) [.int .u64 (a : Int), .int .u64 (mo : Int), .int .u64 (v : Int), .bool mr] ∧ Below w.heap.size w w5) := ⟨(F3.out.1).step bb, (F3.out.2.1).step bb, (F3.out.2.2.1).step bb, (F3.out.2.2.2.1).step bb, (F3.out.2.2.2.2).trans (bb.mono (F3.out.2.2.2.2).size)⟩
 clear F3
 clear bb
 clear l3_0 a3_0_0 f3_0_0 a3_0_1 f3_0_1 a3_0_2 f3_0_2 a3_0_3 f3_0_3 a3_0_4 f3_0_4 a3_0_5 f3_0_5 l3_1 a3_1_0 f3_1_0 a3_1_1 f3_1_1 a3_1_2 f3_1_2 a3_1_3 f3_1_3 l3_2 a3_2_0 f3_2_0 a3_2_1 f3_2_1 a3_2_2 f3_2_2 l3_3 a3_3_0 f3_3_0 a3_3_1 f3_3_1 a3_3_2 f3_3_2 a3_3_3 f3_3_3
 have l4_0 := F4.out.1.lt
 have a4_0_0 := F4.out.1.cell 0 _ rfl
 have f4_0_0 := F4.out.1.fz 0
 have a4_0_1 := F4.out.1.cell 1 _ rfl
 have f4_0_1 := F4.out.1.fz 1
 have a4_0_2 := F4.out.1.cell 2 _ rfl
 have f4_0_2 := F4.out.1.fz 2
 have a4_0_3 := F4.out.1.cell 3 _ rfl
 have f4_0_3 := F4.out.1.fz 3
 have a4_0_4 := F4.out.1.cell 4 _ rfl
 have f4_0_4 := F4.out.1.fz 4
 have a4_0_5 := F4.out.1.cell 5 _ rfl
 have f4_0_5 := F4.out.1.fz 5
 have l4_1 := F4.out.2.1.lt
 have a4_1_0 := F4.out.2.1.cell 0 _ rfl
 have f4_1_0 := F4.out.2.1.fz 0
 have a4_1_1 := F4.out.2.1.cell 1 _ rfl
 have f4_1_1 := F4.out.2.1.fz 1
 have a4_1_2 := F4.out.2.1.cell 2 _ rfl
 have f4_1_2 := F4.out.2.1.fz 2
 have a4_1_3 := F4.out.2.1.cell 3 _ rfl
 have f4_1_3 := F4.out.2.1.fz 3
 have l4_2 := F4.out.2.2.1.lt
 have a4_2_0 := F4.out.2.2.1.cell 0 _ rfl
 have f4_2_0 := F4.out.2.2.1.fz 0
 have a4_2_1 := F4.out.2.2.1.cell 1 _ rfl
 have f4_2_1 := F4.out.2.2.1.fz 1
 have a4_2_2 := F4.out.2.2.1.cell 2 _ rfl
 have f4_2_2 := F4.out.2.2.1.fz 2
 have l4_3 := F4.out.2.2.2.1.lt
 have a4_3_0 := F4.out.2.2.2.1.cell 0 _ rfl
 have f4_3_0 := F4.out.2.2.2.1.fz 0
 have a4_3_1 := F4.out.2.2.2.1.cell 1 _ rfl
 have f4_3_1 := F4.out.2.2.2.1.fz 1
 have a4_3_2 := F4.out.2.2.2.1.cell 2 _ rfl
 have f4_3_2 := F4.out.2.2.2.1.fz 2
 have a4_3_3 := F4.out.2.2.2.1.cell 3 _ rfl
 have f4_3_3 := F4.out.2.2.2.1.fz 3
 have ne4_0_1 : ¬ w.heap.size = w.heap.size + 1 := by omega
 have ne4_0_2 : ¬ w.heap.size = w.heap.size + 1 + 1 := by omega
 have ne4_0_3 : ¬ w.heap.size = w2.heap.size := by omega
 have ne4_1_0 : ¬ w.heap.size + 1 = w.heap.size := by omega
 have ne4_1_2 : ¬ w.heap.size + 1 = w.heap.size + 1 + 1 := by omega
 have ne4_1_3 : ¬ w.heap.size + 1 = w2.heap.size := by omega
 have ne4_2_0 : ¬ w.heap.size + 1 + 1 = w.heap.size := by omega
 have ne4_2_1 : ¬ w.heap.size + 1 + 1 = w.heap.size + 1 := by omega
 have ne4_2_3 : ¬ w.heap.size + 1 + 1 = w2.heap.size := by omega
 have ne4_3_0 : ¬ w2.heap.size = w.heap.size := by omega
 have ne4_3_1 : ¬ w2.heap.size = w.heap.size + 1 := by omega
 have ne4_3_2 : ¬ w2.heap.size = w.heap.size + 1 + 1 := by omega
 go_wp2_with fail
 all_goals first | (exfalso; omega) | skip
 refine (HF _ (hP _ F4.out.2.2.2.2)).mono ?_
 rintro o6 w6 ⟨rfl, bb⟩
 have F5 : Hid (Bk w6 (w.heap.size) [.int .u64 mh, .int .u64 ml, .int .i64 X, .bool ex, .int .i64 p, .int .i64 d] ∧ Bk w6 (w.heap.size + 1) [.bool ng, .int .i64 k, .int .u64 (m : Int), .int .i64 xe] ∧ Bk w6 (w.heap.size + 1 + 1) [.string ⟨#[]⟩, .int .i64 0, .bool false] ∧ Bk w6 (w2.heap.size) [.int .u64 (a : Int), .int .u64 (mo : Int), .int .u64 (v : Int), .bool mr] ∧ Below w.heap.size w w6) := ⟨(F4.out.1).step bb, (F4.out.2.1).step bb, (F4.out.2.2.1).step bb, (F4.out.2.2.2.1).step bb, (F4.out.2.2.2.2).trans (bb.mono (F4.out.2.2.2.2).size)⟩
 clear F4
 clear bb
 clear l4_0 a4_0_0 f4_0_0 a4_0_1 f4_0_1 a4_0_2 f4_0_2 a4_0_3 f4_0_3 a4_0_4 f4_0_4 a4_0_5 f4_0_5 l4_1 a4_1_0 f4_1_0 a4_1_1 f4_1_1 a4_1_2 f4_1_2 a4_1_3 f4_1_3 l4_2 a4_2_0 f4_2_0 a4_2_1 f4_2_1 a4_2_2 f4_2_2 l4_3 a4_3_0 f4_3_0 a4_3_1 f4_3_1 a4_3_2 f4_3_2 a4_3_3 f4_3_3
 have l5_0 := F5.out.1.lt
 have a5_0_0 := F5.out.1.cell 0 _ rfl
 have f5_0_0 := F5.out.1.fz 0
 have a5_0_1 := F5.out.1.cell 1 _ rfl
 have f5_0_1 := F5.out.1.fz 1
 have a5_0_2 := F5.out.1.cell 2 _ rfl
 have f5_0_2 := F5.out.1.fz 2
 have a5_0_3 := F5.out.1.cell 3 _ rfl
 have f5_0_3 := F5.out.1.fz 3
 have a5_0_4 := F5.out.1.cell 4 _ rfl
 have f5_0_4 := F5.out.1.fz 4
 have a5_0_5 := F5.out.1.cell 5 _ rfl
 have f5_0_5 := F5.out.1.fz 5
 have l5_1 := F5.out.2.1.lt
 have a5_1_0 := F5.out.2.1.cell 0 _ rfl
 have f5_1_0 := F5.out.2.1.fz 0
 have a5_1_1 := F5.out.2.1.cell 1 _ rfl
 have f5_1_1 := F5.out.2.1.fz 1
 have a5_1_2 := F5.out.2.1.cell 2 _ rfl
 have f5_1_2 := F5.out.2.1.fz 2
 have a5_1_3 := F5.out.2.1.cell 3 _ rfl
 have f5_1_3 := F5.out.2.1.fz 3
 have l5_2 := F5.out.2.2.1.lt
 have a5_2_0 := F5.out.2.2.1.cell 0 _ rfl
 have f5_2_0 := F5.out.2.2.1.fz 0
 have a5_2_1 := F5.out.2.2.1.cell 1 _ rfl
 have f5_2_1 := F5.out.2.2.1.fz 1
 have a5_2_2 := F5.out.2.2.1.cell 2 _ rfl
 have f5_2_2 := F5.out.2.2.1.fz 2
 have l5_3 := F5.out.2.2.2.1.lt
 have a5_3_0 := F5.out.2.2.2.1.cell 0 _ rfl
 have f5_3_0 := F5.out.2.2.2.1.fz 0
 have a5_3_1 := F5.out.2.2.2.1.cell 1 _ rfl
 have f5_3_1 := F5.out.2.2.2.1.fz 1
 have a5_3_2 := F5.out.2.2.2.1.cell 2 _ rfl
 have f5_3_2 := F5.out.2.2.2.1.fz 2
 have a5_3_3 := F5.out.2.2.2.1.cell 3 _ rfl
 have f5_3_3 := F5.out.2.2.2.1.fz 3
 have ne5_0_1 : ¬ w.heap.size = w.heap.size + 1 := by omega
 have ne5_0_2 : ¬ w.heap.size = w.heap.size + 1 + 1 := by omega
 have ne5_0_3 : ¬ w.heap.size = w2.heap.size := by omega
 have ne5_1_0 : ¬ w.heap.size + 1 = w.heap.size := by omega
 have ne5_1_2 : ¬ w.heap.size + 1 = w.heap.size + 1 + 1 := by omega
 have ne5_1_3 : ¬ w.heap.size + 1 = w2.heap.size := by omega
 have ne5_2_0 : ¬ w.heap.size + 1 + 1 = w.heap.size := by omega
 have ne5_2_1 : ¬ w.heap.size + 1 + 1 = w.heap.size + 1 := by omega
 have ne5_2_3 : ¬ w.heap.size + 1 + 1 = w2.heap.size := by omega
 have ne5_3_0 : ¬ w2.heap.size = w.heap.size := by omega
 have ne5_3_1 : ¬ w2.heap.size = w.heap.size + 1 := by omega
 have ne5_3_2 : ¬ w2.heap.size = w.heap.size + 1 + 1 := by omega
 go_wp2
 refine bodyPost_ret (v := .tuple #[.agg #[.string tx, .int .i64 ((tx.size : Int) + (j : Int) + p), .bool false], .bool true]) (by simp [results, Tryz.results15, go_sem, World.cell?_setCell_same, World.cell?_setCell_other, *]) rfl ⟨rfl, ?_⟩
 repeat (first | refine Below.setCell ?_ (by first | exact Nat.le_refl _ | (dsimp only; omega)) _ | refine Below.alloc ?_ (by first | exact Nat.le_refl _ | omega | (simp; omega)) _ | refine Below.drew ?_)
 exact F5.out.2.2.2.2
theorem below_next {w W v : World} (q : Below w.heap.size w W) (bb : Below W.heap.size W v) : Below w.heap.size w v := q.trans (bb.mono q.size)
theorem below_al {w W : World} (q : Below w.heap.size w W) (o : Obj) : Below w.heap.size w (W.alloc o) := q.alloc q.size o
theorem Bk.al {W : World} {K : Nat} {l : List Value} (h : Bk W K l) (o : Obj) : Bk (W.alloc o) K l := h.step ((Below.refl _ _).alloc (Nat.le_refl _) o)
theorem Bk.fill3q {W : World} {K : Nat} {x y z : Value} (h : Bk W K [x, y, z]) (a b c : Value) : Bk (((W.setCell ⟨K, 0, none⟩ a).setCell ⟨K, 1, none⟩ b).setCell ⟨K, 2, none⟩ c) K [a, b, c] := by
 have c0 := h.cell 0 _ rfl
 have c1 := h.cell 1 _ rfl
 have c2 := h.cell 2 _ rfl
 have n01 : (⟨K, 1, none⟩ : Addr) ≠ ⟨K, 0, none⟩ := by intro q; injection q with _ q _; omega
 refine ⟨by rw [World.size_setCell, World.size_setCell, World.size_setCell]; exact h.lt, fun i v q => ?_, fun i => by rw [World.frozen?_setCell, World.frozen?_setCell, World.frozen?_setCell]; exact h.fz i⟩
 match i, q with
 | 0, q => cases q; simp [World.cell?_setCell_same, World.cell?_setCell_other, c0]
 | 1, q => cases q; simp [World.cell?_setCell_same, World.cell?_setCell_other, c1]
 | 2, q => cases q; simp [World.cell?_setCell_same, World.cell?_setCell_other, c2]
 | n + 3, q => simp at q
theorem Bk.dr {W : World} {K : Nat} {l : List Value} (h : Bk W K l) : Bk W.drew K l := h.step (Below.refl _ _).drew
theorem qst_err {b z k m xe : Int} {ng : Bool} {T : TypeId} {V : Value} (HU : ∀ W, Calls Tryz.prog 13 #[.int .u64 b, .int .i64 z] W fun e w' => e = .returned (.tuple #[.agg #[.bool ng, .int .i64 k, .int .u64 m, .int .i64 xe], .iface T V]) ∧ Below W.heap.size W w') (w : World) :
 Calls Tryz.prog 5 #[.int .u64 b, .int .i64 z] w fun x w' => x = .returned (.tuple #[.agg #[.string ⟨#[]⟩, .int .i64 0, .bool false], .bool false, .iface T V]) ∧ Below w.heap.size w w' := by
 have F0 : Hid (Bk (w.alloc (.cells #[.string ⟨#[]⟩, .int .i64 0, .bool false] 24)) (w.heap.size) [.string ⟨#[]⟩, .int .i64 0, .bool false] ∧ Below w.heap.size w (w.alloc (.cells #[.string ⟨#[]⟩, .int .i64 0, .bool false] 24))) := ⟨Bk.newL w [.string ⟨#[]⟩, .int .i64 0, .bool false] 24, ((Below.refl w.heap.size w)).alloc (Nat.le_refl _) _⟩
 go_enter Tryz.func5, Tryz.ntmps5
 go_upto_region 1 with fail
 generalize (w.alloc (.cells #[.string ⟨#[]⟩, .int .i64 0, .bool false] 24)) = w1 at *
 have l1_0 := F0.out.1.lt
 have a1_0_0 := F0.out.1.cell 0 _ rfl
 have f1_0_0 := F0.out.1.fz 0
 have a1_0_1 := F0.out.1.cell 1 _ rfl
 have f1_0_1 := F0.out.1.fz 1
 have a1_0_2 := F0.out.1.cell 2 _ rfl
 have f1_0_2 := F0.out.1.fz 2
 go_wp2_with fail
 all_goals first | (exfalso; omega) | skip
 refine (HU _).mono ?_
 rintro o2 w2 ⟨rfl, bb⟩
 have F1 : Hid (Bk w2 (w.heap.size) [.string ⟨#[]⟩, .int .i64 0, .bool false] ∧ Below w.heap.size w w2) := ⟨(F0.out.1).step bb, (F0.out.2).trans (bb.mono (F0.out.2).size)⟩
 clear F0
 clear bb
 clear l1_0 a1_0_0 f1_0_0 a1_0_1 f1_0_1 a1_0_2 f1_0_2
 have lt0_1 := (F1.out.1).lt
 have le1 := (F1.out.2).size
 have F2 : Hid (Bk (w2.alloc (.cells #[.bool ng, .int .i64 k, .int .u64 m, .int .i64 xe] 39)) (w.heap.size) [.string ⟨#[]⟩, .int .i64 0, .bool false] ∧ Bk (w2.alloc (.cells #[.bool ng, .int .i64 k, .int .u64 m, .int .i64 xe] 39)) (w2.heap.size) [.bool ng, .int .i64 k, .int .u64 m, .int .i64 xe] ∧ Below w.heap.size w (w2.alloc (.cells #[.bool ng, .int .i64 k, .int .u64 m, .int .i64 xe] 39))) := ⟨(F1.out.1).step ((Below.refl _ _).alloc (Nat.le_refl _) _), Bk.newL w2 [.bool ng, .int .i64 k, .int .u64 m, .int .i64 xe] 39, (F1.out.2).alloc ((F1.out.2).size) _⟩
 clear F1
 go_upto_region 2 with fail
 generalize (w2.alloc (.cells #[.bool ng, .int .i64 k, .int .u64 m, .int .i64 xe] 39)) = w3 at *
 have l2_0 := F2.out.1.lt
 have a2_0_0 := F2.out.1.cell 0 _ rfl
 have f2_0_0 := F2.out.1.fz 0
 have a2_0_1 := F2.out.1.cell 1 _ rfl
 have f2_0_1 := F2.out.1.fz 1
 have a2_0_2 := F2.out.1.cell 2 _ rfl
 have f2_0_2 := F2.out.1.fz 2
 have l2_1 := F2.out.2.1.lt
 have a2_1_0 := F2.out.2.1.cell 0 _ rfl
 have f2_1_0 := F2.out.2.1.fz 0
 have a2_1_1 := F2.out.2.1.cell 1 _ rfl
 have f2_1_1 := F2.out.2.1.fz 1
 have a2_1_2 := F2.out.2.1.cell 2 _ rfl
 have f2_1_2 := F2.out.2.1.fz 2
 have a2_1_3 := F2.out.2.1.cell 3 _ rfl
 have f2_1_3 := F2.out.2.1.fz 3
 have ne2_0_1 : ¬ w.heap.size = w2.heap.size := by omega
 have ne2_1_0 : ¬ w2.heap.size = w.heap.size := by omega
 go_wp2
 refine bodyPost_ret (v := .tuple #[.agg #[.string ⟨#[]⟩, .int .i64 0, .bool false], .bool false, .iface T V]) (by simp [results, Tryz.results5, go_sem, World.cell?_setCell_same, World.cell?_setCell_other, *]) rfl ⟨rfl, ?_⟩
 repeat (first | refine Below.setCell ?_ (by first | exact Nat.le_refl _ | (dsimp only; omega)) _ | refine Below.alloc ?_ (by first | exact Nat.le_refl _ | omega | (simp; omega)) _ | refine Below.drew ?_)
 exact F2.out.2.2
theorem qst_not {b z k m xe : Int} {ng : Bool} (k2 : k ≠ 2) (HU : ∀ W, Calls Tryz.prog 13 #[.int .u64 b, .int .i64 z] W fun e w' => e = .returned (.tuple #[.agg #[.bool ng, .int .i64 k, .int .u64 m, .int .i64 xe], .nilIface]) ∧ Below W.heap.size W w') (w : World) :
 Calls Tryz.prog 5 #[.int .u64 b, .int .i64 z] w fun x w' => x = .returned (.tuple #[.agg #[.string ⟨#[]⟩, .int .i64 0, .bool false], .bool false, .iface 42 (.int .i64 1)]) ∧ Below w.heap.size w w' := by
 have F0 : Hid (Bk (w.alloc (.cells #[.string ⟨#[]⟩, .int .i64 0, .bool false] 24)) (w.heap.size) [.string ⟨#[]⟩, .int .i64 0, .bool false] ∧ Below w.heap.size w (w.alloc (.cells #[.string ⟨#[]⟩, .int .i64 0, .bool false] 24))) := ⟨Bk.newL w [.string ⟨#[]⟩, .int .i64 0, .bool false] 24, ((Below.refl w.heap.size w)).alloc (Nat.le_refl _) _⟩
 go_enter Tryz.func5, Tryz.ntmps5
 go_upto_region 1 with fail
 generalize (w.alloc (.cells #[.string ⟨#[]⟩, .int .i64 0, .bool false] 24)) = w1 at *
 have l1_0 := F0.out.1.lt
 have a1_0_0 := F0.out.1.cell 0 _ rfl
 have f1_0_0 := F0.out.1.fz 0
 have a1_0_1 := F0.out.1.cell 1 _ rfl
 have f1_0_1 := F0.out.1.fz 1
 have a1_0_2 := F0.out.1.cell 2 _ rfl
 have f1_0_2 := F0.out.1.fz 2
 go_wp2_with fail
 all_goals first | (exfalso; omega) | skip
 refine (HU _).mono ?_
 rintro o2 w2 ⟨rfl, bb⟩
 have F1 : Hid (Bk w2 (w.heap.size) [.string ⟨#[]⟩, .int .i64 0, .bool false] ∧ Below w.heap.size w w2) := ⟨(F0.out.1).step bb, (F0.out.2).trans (bb.mono (F0.out.2).size)⟩
 clear F0
 clear bb
 clear l1_0 a1_0_0 f1_0_0 a1_0_1 f1_0_1 a1_0_2 f1_0_2
 have lt0_1 := (F1.out.1).lt
 have le1 := (F1.out.2).size
 have F2 : Hid (Bk (w2.alloc (.cells #[.bool ng, .int .i64 k, .int .u64 m, .int .i64 xe] 39)) (w.heap.size) [.string ⟨#[]⟩, .int .i64 0, .bool false] ∧ Bk (w2.alloc (.cells #[.bool ng, .int .i64 k, .int .u64 m, .int .i64 xe] 39)) (w2.heap.size) [.bool ng, .int .i64 k, .int .u64 m, .int .i64 xe] ∧ Below w.heap.size w (w2.alloc (.cells #[.bool ng, .int .i64 k, .int .u64 m, .int .i64 xe] 39))) := ⟨(F1.out.1).step ((Below.refl _ _).alloc (Nat.le_refl _) _), Bk.newL w2 [.bool ng, .int .i64 k, .int .u64 m, .int .i64 xe] 39, (F1.out.2).alloc ((F1.out.2).size) _⟩
 clear F1
 go_upto_region 2 with fail
 generalize (w2.alloc (.cells #[.bool ng, .int .i64 k, .int .u64 m, .int .i64 xe] 39)) = w3 at *
 have l2_0 := F2.out.1.lt
 have a2_0_0 := F2.out.1.cell 0 _ rfl
 have f2_0_0 := F2.out.1.fz 0
 have a2_0_1 := F2.out.1.cell 1 _ rfl
 have f2_0_1 := F2.out.1.fz 1
 have a2_0_2 := F2.out.1.cell 2 _ rfl
 have f2_0_2 := F2.out.1.fz 2
 have l2_1 := F2.out.2.1.lt
 have a2_1_0 := F2.out.2.1.cell 0 _ rfl
 have f2_1_0 := F2.out.2.1.fz 0
 have a2_1_1 := F2.out.2.1.cell 1 _ rfl
 have f2_1_1 := F2.out.2.1.fz 1
 have a2_1_2 := F2.out.2.1.cell 2 _ rfl
 have f2_1_2 := F2.out.2.1.fz 2
 have a2_1_3 := F2.out.2.1.cell 3 _ rfl
 have f2_1_3 := F2.out.2.1.fz 3
 have ne2_0_1 : ¬ w.heap.size = w2.heap.size := by omega
 have ne2_1_0 : ¬ w2.heap.size = w.heap.size := by omega
 have k3 : (k != 2) = true := bne_iff_ne.mpr k2
 go_wp2
 refine bodyPost_ret (v := .tuple #[.agg #[.string ⟨#[]⟩, .int .i64 0, .bool false], .bool false, .iface 42 (.int .i64 1)]) (by simp [results, Tryz.results5, go_sem, World.cell?_setCell_same, World.cell?_setCell_other, *]) rfl ⟨rfl, ?_⟩
 repeat (first | refine Below.setCell ?_ (by first | exact Nat.le_refl _ | (dsimp only; omega)) _ | refine Below.alloc ?_ (by first | exact Nat.le_refl _ | omega | (simp; omega)) _ | refine Below.drew ?_)
 exact F2.out.2.2
theorem qst_ok {w : World} {b z m xe mh ml X p d : Int} {ng ex s : Bool} {g : Int} {t : ByteArray} {o : Int} (hT : Tab w) (hP : ∀ w', Below w.heap.size w w' → Pow w') (HU : ∀ W, Calls Tryz.prog 13 #[.int .u64 b, .int .i64 z] W fun e w' => e = .returned (.tuple #[.agg #[.bool ng, .int .i64 2, .int .u64 m, .int .i64 xe], .nilIface]) ∧ Below W.heap.size W w') (HS : ∀ W, Tab W → Calls Tryz.prog 14 #[.int .i64 xe] W fun e w' => e = .returned (.agg #[.int .u64 mh, .int .u64 ml, .int .i64 X, .bool ex, .int .i64 p, .int .i64 d]) ∧ Below W.heap.size W w') (HG : ∀ W, Calls Tryz.prog 16 #[.int .u64 b, .int .i64 z, .int .i64 xe] W fun e w' => e = .returned (.int .u64 g) ∧ Below W.heap.size W w') (HH : ∀ W, Tab W → (∀ w', Below W.heap.size W w' → Pow w') → Calls Tryz.prog 15 #[.agg #[.int .u64 mh, .int .u64 ml, .int .i64 X, .bool ex, .int .i64 p, .int .i64 d], .agg #[.bool ng, .int .i64 2, .int .u64 m, .int .i64 xe], .int .u64 g] W fun e w' => e = .returned (.tuple #[.agg #[.string t, .int .i64 o, .bool false], .bool s]) ∧ Below W.heap.size W w') :
 Calls Tryz.prog 5 #[.int .u64 b, .int .i64 z] w fun x w' => x = .returned (.tuple #[.agg #[.string t, .int .i64 o, .bool false], .bool s, .nilIface]) ∧ Below w.heap.size w w' := by
 have F0 : Hid (Bk (w.alloc (.cells #[.string ⟨#[]⟩, .int .i64 0, .bool false] 24)) (w.heap.size) [.string ⟨#[]⟩, .int .i64 0, .bool false] ∧ Below w.heap.size w (w.alloc (.cells #[.string ⟨#[]⟩, .int .i64 0, .bool false] 24))) := ⟨Bk.newL w [.string ⟨#[]⟩, .int .i64 0, .bool false] 24, ((Below.refl w.heap.size w)).alloc (Nat.le_refl _) _⟩
 go_enter Tryz.func5, Tryz.ntmps5
 go_upto_region 1 with fail
 generalize (w.alloc (.cells #[.string ⟨#[]⟩, .int .i64 0, .bool false] 24)) = w1 at *
 have l1_0 := F0.out.1.lt
 have a1_0_0 := F0.out.1.cell 0 _ rfl
 have f1_0_0 := F0.out.1.fz 0
 have a1_0_1 := F0.out.1.cell 1 _ rfl
 have f1_0_1 := F0.out.1.fz 1
 have a1_0_2 := F0.out.1.cell 2 _ rfl
 have f1_0_2 := F0.out.1.fz 2
 go_wp2_with fail
 all_goals first | (exfalso; omega) | skip
 refine (HU _).mono ?_
 rintro o2 w2 ⟨rfl, bb⟩
 have F1 : Hid (Bk w2 (w.heap.size) [.string ⟨#[]⟩, .int .i64 0, .bool false] ∧ Below w.heap.size w w2) := ⟨(F0.out.1).step bb, (F0.out.2).trans (bb.mono (F0.out.2).size)⟩
 clear F0
 clear bb
 clear l1_0 a1_0_0 f1_0_0 a1_0_1 f1_0_1 a1_0_2 f1_0_2
 have lt0_1 := (F1.out.1).lt
 have le1 := (F1.out.2).size
 have F2 : Hid (Bk (w2.alloc (.cells #[.bool ng, .int .i64 2, .int .u64 m, .int .i64 xe] 39)) (w.heap.size) [.string ⟨#[]⟩, .int .i64 0, .bool false] ∧ Bk (w2.alloc (.cells #[.bool ng, .int .i64 2, .int .u64 m, .int .i64 xe] 39)) (w2.heap.size) [.bool ng, .int .i64 2, .int .u64 m, .int .i64 xe] ∧ Below w.heap.size w (w2.alloc (.cells #[.bool ng, .int .i64 2, .int .u64 m, .int .i64 xe] 39))) := ⟨(F1.out.1).step ((Below.refl _ _).alloc (Nat.le_refl _) _), Bk.newL w2 [.bool ng, .int .i64 2, .int .u64 m, .int .i64 xe] 39, (F1.out.2).alloc ((F1.out.2).size) _⟩
 clear F1
 go_upto_region 2 with fail
 generalize (w2.alloc (.cells #[.bool ng, .int .i64 2, .int .u64 m, .int .i64 xe] 39)) = w3 at *
 have l2_0 := F2.out.1.lt
 have a2_0_0 := F2.out.1.cell 0 _ rfl
 have f2_0_0 := F2.out.1.fz 0
 have a2_0_1 := F2.out.1.cell 1 _ rfl
 have f2_0_1 := F2.out.1.fz 1
 have a2_0_2 := F2.out.1.cell 2 _ rfl
 have f2_0_2 := F2.out.1.fz 2
 have l2_1 := F2.out.2.1.lt
 have a2_1_0 := F2.out.2.1.cell 0 _ rfl
 have f2_1_0 := F2.out.2.1.fz 0
 have a2_1_1 := F2.out.2.1.cell 1 _ rfl
 have f2_1_1 := F2.out.2.1.fz 1
 have a2_1_2 := F2.out.2.1.cell 2 _ rfl
 have f2_1_2 := F2.out.2.1.fz 2
 have a2_1_3 := F2.out.2.1.cell 3 _ rfl
 have f2_1_3 := F2.out.2.1.fz 3
 have ne2_0_1 : ¬ w.heap.size = w2.heap.size := by omega
 have ne2_1_0 : ¬ w2.heap.size = w.heap.size := by omega
 go_upto_region 6 with fail
 go_cut [9, 10] from 26 to 38 (fun dv sv wx => ∃ K : Nat, dv = .pointer (some ⟨K, 0, none⟩) ∧ sv = .bool s ∧ w.heap.size < K ∧ Hid (Bk wx (w.heap.size) [.string ⟨#[]⟩, .int .i64 0, .bool false] ∧ Bk wx K [.string t, .int .i64 o, .bool false] ∧ Below w.heap.size w wx))
 case first =>
  go_region_held3 (fun w' => w'.cell? ⟨w2.heap.size, 0, none⟩ = some (.bool ng) ∧ w'.cell? ⟨w2.heap.size, 1, none⟩ = some (.int .i64 2) ∧ w'.cell? ⟨w2.heap.size, 2, none⟩ = some (.int .u64 m) ∧ w'.cell? ⟨w2.heap.size, 3, none⟩ = some (.int .i64 xe)) (simp [*, go_sem, World.cell?_alloc_lt]) (first | (go_at_call 14; refine (HS _ (hT.next (by repeat (first | exact F2.out.2.2 | exact G2.out.2.2 | refine below_al ?_ _ | refine Below.drew ?_)))).mono ?_; rintro p1 v1 ⟨rfl, bb⟩; have G1 : Hid (Bk v1 (w.heap.size) [.string ⟨#[]⟩, .int .i64 0, .bool false] ∧ Bk v1 (w2.heap.size) [.bool ng, .int .i64 2, .int .u64 m, .int .i64 xe] ∧ Below w.heap.size w v1) := ⟨(by refine Bk.step ?_ bb; repeat (first | exact F2.out.1 | exact G2.out.1 | refine Bk.al ?_ _ | refine Bk.dr ?_)), (by refine Bk.step ?_ bb; repeat (first | exact F2.out.2.1 | exact G2.out.2.1 | refine Bk.al ?_ _ | refine Bk.dr ?_)), below_next (by repeat (first | exact F2.out.2.2 | exact G2.out.2.2 | refine below_al ?_ _ | refine Below.drew ?_)) bb⟩; have g1_1 := (G1.out.2.1).lt; have g1_1_0 := (G1.out.2.1).cell 0 _ rfl; have g1_1_1 := (G1.out.2.1).cell 1 _ rfl; have g1_1_2 := (G1.out.2.1).cell 2 _ rfl; have g1_1_3 := (G1.out.2.1).cell 3 _ rfl; first | (have N1_0 : Hid (Bk v1 (w3.heap.size) [.string ⟨#[]⟩, .int .i64 0, .bool false]) := ((Bk.newL w3 [.string ⟨#[]⟩, .int .i64 0, .bool false] 24).dr).step bb) | (have N1_0 : Hid (Bk v1 (w3.heap.size) [.string ⟨#[]⟩, .int .i64 0, .bool false]) := N2_0.out.step bb) | skip; first | (have N1_1 : Hid (Bk v1 (v2.heap.size) [.string ⟨#[]⟩, .int .i64 0, .bool false]) := (Bk.newL v2 [.string ⟨#[]⟩, .int .i64 0, .bool false] 24).step bb) | skip; have s1 := (G1.out.1).lt; have s1z := (G1.out.2.2).size; clear bb) | (go_at_call 16; refine (HG _).mono ?_; rintro p2 v2 ⟨rfl, bb⟩; have G2 : Hid (Bk v2 (w.heap.size) [.string ⟨#[]⟩, .int .i64 0, .bool false] ∧ Bk v2 (w2.heap.size) [.bool ng, .int .i64 2, .int .u64 m, .int .i64 xe] ∧ Below w.heap.size w v2) := ⟨(by refine Bk.step ?_ bb; repeat (first | exact F2.out.1 | exact G1.out.1 | refine Bk.al ?_ _ | refine Bk.dr ?_)), (by refine Bk.step ?_ bb; repeat (first | exact F2.out.2.1 | exact G1.out.2.1 | refine Bk.al ?_ _ | refine Bk.dr ?_)), below_next (by repeat (first | exact F2.out.2.2 | exact G1.out.2.2 | refine below_al ?_ _ | refine Below.drew ?_)) bb⟩; have g2_1 := (G2.out.2.1).lt; have g2_1_0 := (G2.out.2.1).cell 0 _ rfl; have g2_1_1 := (G2.out.2.1).cell 1 _ rfl; have g2_1_2 := (G2.out.2.1).cell 2 _ rfl; have g2_1_3 := (G2.out.2.1).cell 3 _ rfl; first | (have N2_0 : Hid (Bk v2 (w3.heap.size) [.string ⟨#[]⟩, .int .i64 0, .bool false]) := ((Bk.newL w3 [.string ⟨#[]⟩, .int .i64 0, .bool false] 24).dr).step bb) | (have N2_0 : Hid (Bk v2 (w3.heap.size) [.string ⟨#[]⟩, .int .i64 0, .bool false]) := N1_0.out.step bb) | skip; first | (have N2_1 : Hid (Bk v2 (v1.heap.size) [.string ⟨#[]⟩, .int .i64 0, .bool false]) := (Bk.newL v1 [.string ⟨#[]⟩, .int .i64 0, .bool false] 24).step bb) | skip; have s2 := (G2.out.1).lt; have s2z := (G2.out.2.2).size; clear bb) | (go_at_call 15; refine (HH _ (hT.next (by repeat (first | exact G1.out.2.2 | exact G2.out.2.2 | refine below_al ?_ _ | refine Below.drew ?_))) (fun w' hw => hP w' (below_next (by repeat (first | exact G1.out.2.2 | exact G2.out.2.2 | refine below_al ?_ _ | refine Below.drew ?_)) hw))).mono ?_; rintro p3 v3 ⟨rfl, bb⟩; have G3 : Hid (Bk v3 (w.heap.size) [.string ⟨#[]⟩, .int .i64 0, .bool false] ∧ Bk v3 (w2.heap.size) [.bool ng, .int .i64 2, .int .u64 m, .int .i64 xe] ∧ Below w.heap.size w v3) := ⟨(by refine Bk.step ?_ bb; repeat (first | exact G1.out.1 | exact G2.out.1 | refine Bk.al ?_ _ | refine Bk.dr ?_)), (by refine Bk.step ?_ bb; repeat (first | exact G1.out.2.1 | exact G2.out.2.1 | refine Bk.al ?_ _ | refine Bk.dr ?_)), below_next (by repeat (first | exact G1.out.2.2 | exact G2.out.2.2 | refine below_al ?_ _ | refine Below.drew ?_)) bb⟩; have g3_1 := (G3.out.2.1).lt; have g3_1_0 := (G3.out.2.1).cell 0 _ rfl; have g3_1_1 := (G3.out.2.1).cell 1 _ rfl; have g3_1_2 := (G3.out.2.1).cell 2 _ rfl; have g3_1_3 := (G3.out.2.1).cell 3 _ rfl; first | (have N3_0 : Hid (Bk v3 (w3.heap.size) [.string ⟨#[]⟩, .int .i64 0, .bool false]) := N1_0.out.step bb; have n3_0 := N3_0.out.lt; have n3_0_0 := N3_0.out.cell 0 _ rfl; have m3_0_0 := N3_0.out.fz 0; have n3_0_1 := N3_0.out.cell 1 _ rfl; have m3_0_1 := N3_0.out.fz 1; have n3_0_2 := N3_0.out.cell 2 _ rfl; have m3_0_2 := N3_0.out.fz 2) | (have N3_0 : Hid (Bk v3 (w3.heap.size) [.string ⟨#[]⟩, .int .i64 0, .bool false]) := N2_0.out.step bb; have n3_0 := N3_0.out.lt; have n3_0_0 := N3_0.out.cell 0 _ rfl; have m3_0_0 := N3_0.out.fz 0; have n3_0_1 := N3_0.out.cell 1 _ rfl; have m3_0_1 := N3_0.out.fz 1; have n3_0_2 := N3_0.out.cell 2 _ rfl; have m3_0_2 := N3_0.out.fz 2) | skip; first | (have N3_1 : Hid (Bk v3 (v1.heap.size) [.string ⟨#[]⟩, .int .i64 0, .bool false]) := N2_1.out.step bb; have n3_1 := N3_1.out.lt; have n3_1_0 := N3_1.out.cell 0 _ rfl; have m3_1_0 := N3_1.out.fz 0; have n3_1_1 := N3_1.out.cell 1 _ rfl; have m3_1_1 := N3_1.out.fz 1; have n3_1_2 := N3_1.out.cell 2 _ rfl; have m3_1_2 := N3_1.out.fz 2) | (have N3_1 : Hid (Bk v3 (v1.heap.size) [.string ⟨#[]⟩, .int .i64 0, .bool false]) := (Bk.newL v1 [.string ⟨#[]⟩, .int .i64 0, .bool false] 24).step bb; have n3_1 := N3_1.out.lt; have n3_1_0 := N3_1.out.cell 0 _ rfl; have m3_1_0 := N3_1.out.fz 0; have n3_1_1 := N3_1.out.cell 1 _ rfl; have m3_1_1 := N3_1.out.fz 1; have n3_1_2 := N3_1.out.cell 2 _ rfl; have m3_1_2 := N3_1.out.fz 2) | skip; first | (have N3_2 : Hid (Bk v3 (v2.heap.size) [.string ⟨#[]⟩, .int .i64 0, .bool false]) := N1_1.out.step bb; have n3_2 := N3_2.out.lt; have n3_2_0 := N3_2.out.cell 0 _ rfl; have m3_2_0 := N3_2.out.fz 0; have n3_2_1 := N3_2.out.cell 1 _ rfl; have m3_2_1 := N3_2.out.fz 1; have n3_2_2 := N3_2.out.cell 2 _ rfl; have m3_2_2 := N3_2.out.fz 2) | (have N3_2 : Hid (Bk v3 (v2.heap.size) [.string ⟨#[]⟩, .int .i64 0, .bool false]) := (Bk.newL v2 [.string ⟨#[]⟩, .int .i64 0, .bool false] 24).step bb; have n3_2 := N3_2.out.lt; have n3_2_0 := N3_2.out.cell 0 _ rfl; have m3_2_0 := N3_2.out.fz 0; have n3_2_1 := N3_2.out.cell 1 _ rfl; have m3_2_1 := N3_2.out.fz 1; have n3_2_2 := N3_2.out.cell 2 _ rfl; have m3_2_2 := N3_2.out.fz 2) | skip; have s3 := (G3.out.1).lt; have s3z := (G3.out.2.2).size; clear bb))
  all_goals go_wp2
  all_goals go_meet
  all_goals refine ⟨_, rfl, rfl, by omega, ?_⟩
  all_goals show (_ ∧ _)
  all_goals first | exact ⟨(G3.out.1).al _, Bk.newL v3 _ _, below_al (G3.out.2.2) _⟩ | exact ⟨((((G3.out.1).set1 (by omega) 0 _).set1 (by omega) 1 _).set1 (by omega) 2 _), (by first | exact N3_0.out.fill3q _ _ _ | exact N3_1.out.fill3q _ _ _ | exact N3_2.out.fill3q _ _ _), (((G3.out.2.2).setCell (by dsimp only; omega) _).setCell (by dsimp only; omega) _).setCell (by dsimp only; omega) _⟩
 case rest =>
 obtain ⟨K, rfl, rfl, hK, HC⟩ := hcut
 clear F2 HS HG HH HU hT hP
 have F60 : Hid (Bk wc (w.heap.size) [.string ⟨#[]⟩, .int .i64 0, .bool false] ∧ Bk wc K [.string t, .int .i64 o, .bool false] ∧ Below w.heap.size w wc) := HC
 clear HC
 clear l2_0 a2_0_0 f2_0_0 a2_0_1 f2_0_1 a2_0_2 f2_0_2 l2_1 a2_1_0 f2_1_0 a2_1_1 f2_1_1 a2_1_2 f2_1_2 a2_1_3 f2_1_3
 have l11_0 := F60.out.1.lt
 have a11_0_0 := F60.out.1.cell 0 _ rfl
 have f11_0_0 := F60.out.1.fz 0
 have a11_0_1 := F60.out.1.cell 1 _ rfl
 have f11_0_1 := F60.out.1.fz 1
 have a11_0_2 := F60.out.1.cell 2 _ rfl
 have f11_0_2 := F60.out.1.fz 2
 have l11_1 := F60.out.2.1.lt
 have a11_1_0 := F60.out.2.1.cell 0 _ rfl
 have f11_1_0 := F60.out.2.1.fz 0
 have a11_1_1 := F60.out.2.1.cell 1 _ rfl
 have f11_1_1 := F60.out.2.1.fz 1
 have a11_1_2 := F60.out.2.1.cell 2 _ rfl
 have f11_1_2 := F60.out.2.1.fz 2
 have ne11_0_1 : ¬ w.heap.size = K := by omega
 have ne11_1_0 : ¬ K = w.heap.size := by omega
 go_wp2
 refine bodyPost_ret (v := .tuple #[.agg #[.string t, .int .i64 o, .bool false], .bool s, .nilIface]) (by simp [results, Tryz.results5, go_sem, World.cell?_setCell_same, World.cell?_setCell_other, *]) rfl ⟨rfl, ?_⟩
 repeat (first | refine Below.setCell ?_ (by first | exact Nat.le_refl _ | (dsimp only; omega)) _ | refine Below.alloc ?_ (by first | exact Nat.le_refl _ | omega | (simp; omega)) _ | refine Below.drew ?_)
 exact F60.out.2.2
end Go.Proofs.YtbpfhnndlknloaaGreatDoor
