/-
  Holds: SoUc.
-/
import Derived.Test.YtblkokjkmbpejaaGreatDoorRows
import Derived.Laws.Externs
import Derived.WalkKit
import Derived.WalkSpells
import Derived.WalkLawsBesides
import Derived.Lib.Mul64
import Derived.Stop.Asserts
import Derived.RowKitTokens
import Derived.Lib.Strings
import Derived.Lib.BufferWrite
import Derived.Deep.OwnRows
import Derived.Deep.RegionHeld3
import Derived.BigQuiet
import Derived.Lib.ConvBytes
import Derived.Laws.CopyOwn
import Derived.Lib.TrailingZeros
import Derived.Lib.ItoaNum
import Derived.Deep.LoopGhost
import Derived.Deep.AppendLies
import Derived.Deep.DeepCutAuto
import Derived.Test.YtblkokjkmbpejaaGreatDoorKd27
set_option maxRecDepth 100000
set_option maxHeartbeats 4000000
namespace Go.Proofs.YtblkokjkmbpejaaGreatDoor
open Go.RowKit
theorem rse_bad1 {s t : ByteArray} {p q : Int} {a b c : Bool} {n : Int} (q1 : (n == 0) = false) (H1 : ∀ W, Calls Tryz.prog 19 #[.agg #[.string s, .int .i64 p, .bool a]] W fun e w' => e = .returned (.int .i64 n) ∧ Below W.heap.size W w') (w : World) :
 Calls Tryz.prog 17 #[.agg #[.string s, .int .i64 p, .bool a], .agg #[.string t, .int .i64 q, .bool b], .bool c] w fun x w' => x = .returned (.tuple #[.agg #[.string ⟨#[]⟩, .int .i64 0, .bool false], .int .i64 1]) ∧ Below w.heap.size w w' := by
 have q2 : ¬ n = 0 := by simpa using q1
 have q3 : (n != 0) = true := by simpa using q1
 have F0 : Hid (Bk (((w.alloc (.cells #[.string s, .int .i64 p, .bool a] 24)).alloc (.cells #[.string t, .int .i64 q, .bool b] 24)).alloc (.cells #[.string ⟨#[]⟩, .int .i64 0, .bool false] 24)) (w.heap.size) [.string s, .int .i64 p, .bool a] ∧ Bk (((w.alloc (.cells #[.string s, .int .i64 p, .bool a] 24)).alloc (.cells #[.string t, .int .i64 q, .bool b] 24)).alloc (.cells #[.string ⟨#[]⟩, .int .i64 0, .bool false] 24)) (w.heap.size + 1) [.string t, .int .i64 q, .bool b] ∧ Bk (((w.alloc (.cells #[.string s, .int .i64 p, .bool a] 24)).alloc (.cells #[.string t, .int .i64 q, .bool b] 24)).alloc (.cells #[.string ⟨#[]⟩, .int .i64 0, .bool false] 24)) (w.heap.size + 1 + 1) [.string ⟨#[]⟩, .int .i64 0, .bool false] ∧ Below w.heap.size w (((w.alloc (.cells #[.string s, .int .i64 p, .bool a] 24)).alloc (.cells #[.string t, .int .i64 q, .bool b] 24)).alloc (.cells #[.string ⟨#[]⟩, .int .i64 0, .bool false] 24))) := ⟨((Bk.new3 w (.string s) (.int .i64 p) (.bool a) 24).step ((Below.refl _ _).alloc (Nat.le_refl _) _)).step ((Below.refl _ _).alloc (Nat.le_refl _) _), (((by have q := Bk.new3 (w.alloc (.cells #[.string s, .int .i64 p, .bool a] 24)) (.string t) (.int .i64 q) (.bool b) 24; simpa using q) : Bk ((w.alloc (.cells #[.string s, .int .i64 p, .bool a] 24)).alloc (.cells #[.string t, .int .i64 q, .bool b] 24)) (w.heap.size + 1) [.string t, .int .i64 q, .bool b])).step ((Below.refl _ _).alloc (Nat.le_refl _) _), ((by have q := Bk.new3 ((w.alloc (.cells #[.string s, .int .i64 p, .bool a] 24)).alloc (.cells #[.string t, .int .i64 q, .bool b] 24)) (.string ⟨#[]⟩) (.int .i64 0) (.bool false) 24; simpa using q) : Bk (((w.alloc (.cells #[.string s, .int .i64 p, .bool a] 24)).alloc (.cells #[.string t, .int .i64 q, .bool b] 24)).alloc (.cells #[.string ⟨#[]⟩, .int .i64 0, .bool false] 24)) (w.heap.size + 1 + 1) [.string ⟨#[]⟩, .int .i64 0, .bool false]), ((((Below.refl w.heap.size w)).alloc (Nat.le_refl _) _).alloc ((((Below.refl w.heap.size w)).alloc (Nat.le_refl _) _).size) _).alloc (((((Below.refl w.heap.size w)).alloc (Nat.le_refl _) _).alloc ((((Below.refl w.heap.size w)).alloc (Nat.le_refl _) _).size) _).size) _⟩
 go_enter Tryz.func17, Tryz.ntmps17
 go_upto_region 1 with fail
 generalize (((w.alloc (.cells #[.string s, .int .i64 p, .bool a] 24)).alloc (.cells #[.string t, .int .i64 q, .bool b] 24)).alloc (.cells #[.string ⟨#[]⟩, .int .i64 0, .bool false] 24)) = w1 at *
 have l1_0 := F0.out.1.lt
 have a1_0_0 := F0.out.1.cell 0 _ rfl
 have f1_0_0 := F0.out.1.fz 0
 have a1_0_1 := F0.out.1.cell 1 _ rfl
 have f1_0_1 := F0.out.1.fz 1
 have a1_0_2 := F0.out.1.cell 2 _ rfl
 have f1_0_2 := F0.out.1.fz 2
 have l1_1 := F0.out.2.1.lt
 have a1_1_0 := F0.out.2.1.cell 0 _ rfl
 have f1_1_0 := F0.out.2.1.fz 0
 have a1_1_1 := F0.out.2.1.cell 1 _ rfl
 have f1_1_1 := F0.out.2.1.fz 1
 have a1_1_2 := F0.out.2.1.cell 2 _ rfl
 have f1_1_2 := F0.out.2.1.fz 2
 have l1_2 := F0.out.2.2.1.lt
 have a1_2_0 := F0.out.2.2.1.cell 0 _ rfl
 have f1_2_0 := F0.out.2.2.1.fz 0
 have a1_2_1 := F0.out.2.2.1.cell 1 _ rfl
 have f1_2_1 := F0.out.2.2.1.fz 1
 have a1_2_2 := F0.out.2.2.1.cell 2 _ rfl
 have f1_2_2 := F0.out.2.2.1.fz 2
 have ne1_0_1 : ¬ w.heap.size = w.heap.size + 1 := by omega
 have ne1_0_2 : ¬ w.heap.size = w.heap.size + 1 + 1 := by omega
 have ne1_1_0 : ¬ w.heap.size + 1 = w.heap.size := by omega
 have ne1_1_2 : ¬ w.heap.size + 1 = w.heap.size + 1 + 1 := by omega
 have ne1_2_0 : ¬ w.heap.size + 1 + 1 = w.heap.size := by omega
 have ne1_2_1 : ¬ w.heap.size + 1 + 1 = w.heap.size + 1 := by omega
 go_wp2_with fail
 all_goals first | (exfalso; omega) | skip
 refine (H1 _).mono ?_
 rintro o2 w2 ⟨rfl, bb⟩
 have F1 : Hid (Bk w2 (w.heap.size) [.string s, .int .i64 p, .bool a] ∧ Bk w2 (w.heap.size + 1) [.string t, .int .i64 q, .bool b] ∧ Bk w2 (w.heap.size + 1 + 1) [.string ⟨#[]⟩, .int .i64 0, .bool false] ∧ Below w.heap.size w w2) := ⟨(F0.out.1).step bb, (F0.out.2.1).step bb, (F0.out.2.2.1).step bb, (F0.out.2.2.2).trans (bb.mono (F0.out.2.2.2).size)⟩
 clear F0
 clear bb
 clear l1_0 a1_0_0 f1_0_0 a1_0_1 f1_0_1 a1_0_2 f1_0_2 l1_1 a1_1_0 f1_1_0 a1_1_1 f1_1_1 a1_1_2 f1_1_2 l1_2 a1_2_0 f1_2_0 a1_2_1 f1_2_1 a1_2_2 f1_2_2
 have l2_0 := F1.out.1.lt
 have a2_0_0 := F1.out.1.cell 0 _ rfl
 have f2_0_0 := F1.out.1.fz 0
 have a2_0_1 := F1.out.1.cell 1 _ rfl
 have f2_0_1 := F1.out.1.fz 1
 have a2_0_2 := F1.out.1.cell 2 _ rfl
 have f2_0_2 := F1.out.1.fz 2
 have l2_1 := F1.out.2.1.lt
 have a2_1_0 := F1.out.2.1.cell 0 _ rfl
 have f2_1_0 := F1.out.2.1.fz 0
 have a2_1_1 := F1.out.2.1.cell 1 _ rfl
 have f2_1_1 := F1.out.2.1.fz 1
 have a2_1_2 := F1.out.2.1.cell 2 _ rfl
 have f2_1_2 := F1.out.2.1.fz 2
 have l2_2 := F1.out.2.2.1.lt
 have a2_2_0 := F1.out.2.2.1.cell 0 _ rfl
 have f2_2_0 := F1.out.2.2.1.fz 0
 have a2_2_1 := F1.out.2.2.1.cell 1 _ rfl
 have f2_2_1 := F1.out.2.2.1.fz 1
 have a2_2_2 := F1.out.2.2.1.cell 2 _ rfl
 have f2_2_2 := F1.out.2.2.1.fz 2
 have ne2_0_1 : ¬ w.heap.size = w.heap.size + 1 := by omega
 have ne2_0_2 : ¬ w.heap.size = w.heap.size + 1 + 1 := by omega
 have ne2_1_0 : ¬ w.heap.size + 1 = w.heap.size := by omega
 have ne2_1_2 : ¬ w.heap.size + 1 = w.heap.size + 1 + 1 := by omega
 have ne2_2_0 : ¬ w.heap.size + 1 + 1 = w.heap.size := by omega
 have ne2_2_1 : ¬ w.heap.size + 1 + 1 = w.heap.size + 1 := by omega
 go_wp2
 refine bodyPost_ret (v := .tuple #[.agg #[.string ⟨#[]⟩, .int .i64 0, .bool false], .int .i64 1]) (by simp [results, Tryz.results17, go_sem, World.cell?_setCell_same, World.cell?_setCell_other, *]) rfl ⟨rfl, ?_⟩
 repeat (first | refine Below.setCell ?_ (by first | exact Nat.le_refl _ | (dsimp only; omega)) _ | refine Below.alloc ?_ (by first | exact Nat.le_refl _ | omega | (simp; omega)) _ | refine Below.drew ?_)
 exact F1.out.2.2.2
theorem rse_bad2 {s t : ByteArray} {p q : Int} {a b c : Bool} {m : Int} (q1 : (m == 0) = false) (H1 : ∀ W, Calls Tryz.prog 19 #[.agg #[.string s, .int .i64 p, .bool a]] W fun e w' => e = .returned (.int .i64 0) ∧ Below W.heap.size W w') (H2 : ∀ W, Calls Tryz.prog 19 #[.agg #[.string t, .int .i64 q, .bool b]] W fun e w' => e = .returned (.int .i64 m) ∧ Below W.heap.size W w') (w : World) :
 Calls Tryz.prog 17 #[.agg #[.string s, .int .i64 p, .bool a], .agg #[.string t, .int .i64 q, .bool b], .bool c] w fun x w' => x = .returned (.tuple #[.agg #[.string ⟨#[]⟩, .int .i64 0, .bool false], .int .i64 1]) ∧ Below w.heap.size w w' := by
 have q2 : ¬ m = 0 := by simpa using q1
 have q3 : (m != 0) = true := by simpa using q1
 have F0 : Hid (Bk (((w.alloc (.cells #[.string s, .int .i64 p, .bool a] 24)).alloc (.cells #[.string t, .int .i64 q, .bool b] 24)).alloc (.cells #[.string ⟨#[]⟩, .int .i64 0, .bool false] 24)) (w.heap.size) [.string s, .int .i64 p, .bool a] ∧ Bk (((w.alloc (.cells #[.string s, .int .i64 p, .bool a] 24)).alloc (.cells #[.string t, .int .i64 q, .bool b] 24)).alloc (.cells #[.string ⟨#[]⟩, .int .i64 0, .bool false] 24)) (w.heap.size + 1) [.string t, .int .i64 q, .bool b] ∧ Bk (((w.alloc (.cells #[.string s, .int .i64 p, .bool a] 24)).alloc (.cells #[.string t, .int .i64 q, .bool b] 24)).alloc (.cells #[.string ⟨#[]⟩, .int .i64 0, .bool false] 24)) (w.heap.size + 1 + 1) [.string ⟨#[]⟩, .int .i64 0, .bool false] ∧ Below w.heap.size w (((w.alloc (.cells #[.string s, .int .i64 p, .bool a] 24)).alloc (.cells #[.string t, .int .i64 q, .bool b] 24)).alloc (.cells #[.string ⟨#[]⟩, .int .i64 0, .bool false] 24))) := ⟨((Bk.new3 w (.string s) (.int .i64 p) (.bool a) 24).step ((Below.refl _ _).alloc (Nat.le_refl _) _)).step ((Below.refl _ _).alloc (Nat.le_refl _) _), (((by have q := Bk.new3 (w.alloc (.cells #[.string s, .int .i64 p, .bool a] 24)) (.string t) (.int .i64 q) (.bool b) 24; simpa using q) : Bk ((w.alloc (.cells #[.string s, .int .i64 p, .bool a] 24)).alloc (.cells #[.string t, .int .i64 q, .bool b] 24)) (w.heap.size + 1) [.string t, .int .i64 q, .bool b])).step ((Below.refl _ _).alloc (Nat.le_refl _) _), ((by have q := Bk.new3 ((w.alloc (.cells #[.string s, .int .i64 p, .bool a] 24)).alloc (.cells #[.string t, .int .i64 q, .bool b] 24)) (.string ⟨#[]⟩) (.int .i64 0) (.bool false) 24; simpa using q) : Bk (((w.alloc (.cells #[.string s, .int .i64 p, .bool a] 24)).alloc (.cells #[.string t, .int .i64 q, .bool b] 24)).alloc (.cells #[.string ⟨#[]⟩, .int .i64 0, .bool false] 24)) (w.heap.size + 1 + 1) [.string ⟨#[]⟩, .int .i64 0, .bool false]), ((((Below.refl w.heap.size w)).alloc (Nat.le_refl _) _).alloc ((((Below.refl w.heap.size w)).alloc (Nat.le_refl _) _).size) _).alloc (((((Below.refl w.heap.size w)).alloc (Nat.le_refl _) _).alloc ((((Below.refl w.heap.size w)).alloc (Nat.le_refl _) _).size) _).size) _⟩
 go_enter Tryz.func17, Tryz.ntmps17
 go_upto_region 1 with fail
 generalize (((w.alloc (.cells #[.string s, .int .i64 p, .bool a] 24)).alloc (.cells #[.string t, .int .i64 q, .bool b] 24)).alloc (.cells #[.string ⟨#[]⟩, .int .i64 0, .bool false] 24)) = w1 at *
 have l1_0 := F0.out.1.lt
 have a1_0_0 := F0.out.1.cell 0 _ rfl
 have f1_0_0 := F0.out.1.fz 0
 have a1_0_1 := F0.out.1.cell 1 _ rfl
 have f1_0_1 := F0.out.1.fz 1
 have a1_0_2 := F0.out.1.cell 2 _ rfl
 have f1_0_2 := F0.out.1.fz 2
 have l1_1 := F0.out.2.1.lt
 have a1_1_0 := F0.out.2.1.cell 0 _ rfl
 have f1_1_0 := F0.out.2.1.fz 0
 have a1_1_1 := F0.out.2.1.cell 1 _ rfl
 have f1_1_1 := F0.out.2.1.fz 1
 have a1_1_2 := F0.out.2.1.cell 2 _ rfl
 have f1_1_2 := F0.out.2.1.fz 2
 have l1_2 := F0.out.2.2.1.lt
 have a1_2_0 := F0.out.2.2.1.cell 0 _ rfl
 have f1_2_0 := F0.out.2.2.1.fz 0
 have a1_2_1 := F0.out.2.2.1.cell 1 _ rfl
 have f1_2_1 := F0.out.2.2.1.fz 1
 have a1_2_2 := F0.out.2.2.1.cell 2 _ rfl
 have f1_2_2 := F0.out.2.2.1.fz 2
 have ne1_0_1 : ¬ w.heap.size = w.heap.size + 1 := by omega
 have ne1_0_2 : ¬ w.heap.size = w.heap.size + 1 + 1 := by omega
 have ne1_1_0 : ¬ w.heap.size + 1 = w.heap.size := by omega
 have ne1_1_2 : ¬ w.heap.size + 1 = w.heap.size + 1 + 1 := by omega
 have ne1_2_0 : ¬ w.heap.size + 1 + 1 = w.heap.size := by omega
 have ne1_2_1 : ¬ w.heap.size + 1 + 1 = w.heap.size + 1 := by omega
 go_wp2_with fail
 all_goals first | (exfalso; omega) | skip
 refine (H1 _).mono ?_
 rintro o2 w2 ⟨rfl, bb⟩
 have F1 : Hid (Bk w2 (w.heap.size) [.string s, .int .i64 p, .bool a] ∧ Bk w2 (w.heap.size + 1) [.string t, .int .i64 q, .bool b] ∧ Bk w2 (w.heap.size + 1 + 1) [.string ⟨#[]⟩, .int .i64 0, .bool false] ∧ Below w.heap.size w w2) := ⟨(F0.out.1).step bb, (F0.out.2.1).step bb, (F0.out.2.2.1).step bb, (F0.out.2.2.2).trans (bb.mono (F0.out.2.2.2).size)⟩
 clear F0
 clear bb
 clear l1_0 a1_0_0 f1_0_0 a1_0_1 f1_0_1 a1_0_2 f1_0_2 l1_1 a1_1_0 f1_1_0 a1_1_1 f1_1_1 a1_1_2 f1_1_2 l1_2 a1_2_0 f1_2_0 a1_2_1 f1_2_1 a1_2_2 f1_2_2
 have l2_0 := F1.out.1.lt
 have a2_0_0 := F1.out.1.cell 0 _ rfl
 have f2_0_0 := F1.out.1.fz 0
 have a2_0_1 := F1.out.1.cell 1 _ rfl
 have f2_0_1 := F1.out.1.fz 1
 have a2_0_2 := F1.out.1.cell 2 _ rfl
 have f2_0_2 := F1.out.1.fz 2
 have l2_1 := F1.out.2.1.lt
 have a2_1_0 := F1.out.2.1.cell 0 _ rfl
 have f2_1_0 := F1.out.2.1.fz 0
 have a2_1_1 := F1.out.2.1.cell 1 _ rfl
 have f2_1_1 := F1.out.2.1.fz 1
 have a2_1_2 := F1.out.2.1.cell 2 _ rfl
 have f2_1_2 := F1.out.2.1.fz 2
 have l2_2 := F1.out.2.2.1.lt
 have a2_2_0 := F1.out.2.2.1.cell 0 _ rfl
 have f2_2_0 := F1.out.2.2.1.fz 0
 have a2_2_1 := F1.out.2.2.1.cell 1 _ rfl
 have f2_2_1 := F1.out.2.2.1.fz 1
 have a2_2_2 := F1.out.2.2.1.cell 2 _ rfl
 have f2_2_2 := F1.out.2.2.1.fz 2
 have ne2_0_1 : ¬ w.heap.size = w.heap.size + 1 := by omega
 have ne2_0_2 : ¬ w.heap.size = w.heap.size + 1 + 1 := by omega
 have ne2_1_0 : ¬ w.heap.size + 1 = w.heap.size := by omega
 have ne2_1_2 : ¬ w.heap.size + 1 = w.heap.size + 1 + 1 := by omega
 have ne2_2_0 : ¬ w.heap.size + 1 + 1 = w.heap.size := by omega
 have ne2_2_1 : ¬ w.heap.size + 1 + 1 = w.heap.size + 1 := by omega
 go_wp2_with fail
 all_goals first | (exfalso; omega) | skip
 refine (H2 _).mono ?_
 rintro o3 w3 ⟨rfl, bb⟩
 have F2 : Hid (Bk w3 (w.heap.size) [.string s, .int .i64 p, .bool a] ∧ Bk w3 (w.heap.size + 1) [.string t, .int .i64 q, .bool b] ∧ Bk w3 (w.heap.size + 1 + 1) [.string ⟨#[]⟩, .int .i64 0, .bool false] ∧ Below w.heap.size w w3) := ⟨(F1.out.1).step bb, (F1.out.2.1).step bb, (F1.out.2.2.1).step bb, (F1.out.2.2.2).trans (bb.mono (F1.out.2.2.2).size)⟩
 clear F1
 clear bb
 clear l2_0 a2_0_0 f2_0_0 a2_0_1 f2_0_1 a2_0_2 f2_0_2 l2_1 a2_1_0 f2_1_0 a2_1_1 f2_1_1 a2_1_2 f2_1_2 l2_2 a2_2_0 f2_2_0 a2_2_1 f2_2_1 a2_2_2 f2_2_2
 have l3_0 := F2.out.1.lt
 have a3_0_0 := F2.out.1.cell 0 _ rfl
 have f3_0_0 := F2.out.1.fz 0
 have a3_0_1 := F2.out.1.cell 1 _ rfl
 have f3_0_1 := F2.out.1.fz 1
 have a3_0_2 := F2.out.1.cell 2 _ rfl
 have f3_0_2 := F2.out.1.fz 2
 have l3_1 := F2.out.2.1.lt
 have a3_1_0 := F2.out.2.1.cell 0 _ rfl
 have f3_1_0 := F2.out.2.1.fz 0
 have a3_1_1 := F2.out.2.1.cell 1 _ rfl
 have f3_1_1 := F2.out.2.1.fz 1
 have a3_1_2 := F2.out.2.1.cell 2 _ rfl
 have f3_1_2 := F2.out.2.1.fz 2
 have l3_2 := F2.out.2.2.1.lt
 have a3_2_0 := F2.out.2.2.1.cell 0 _ rfl
 have f3_2_0 := F2.out.2.2.1.fz 0
 have a3_2_1 := F2.out.2.2.1.cell 1 _ rfl
 have f3_2_1 := F2.out.2.2.1.fz 1
 have a3_2_2 := F2.out.2.2.1.cell 2 _ rfl
 have f3_2_2 := F2.out.2.2.1.fz 2
 have ne3_0_1 : ¬ w.heap.size = w.heap.size + 1 := by omega
 have ne3_0_2 : ¬ w.heap.size = w.heap.size + 1 + 1 := by omega
 have ne3_1_0 : ¬ w.heap.size + 1 = w.heap.size := by omega
 have ne3_1_2 : ¬ w.heap.size + 1 = w.heap.size + 1 + 1 := by omega
 have ne3_2_0 : ¬ w.heap.size + 1 + 1 = w.heap.size := by omega
 have ne3_2_1 : ¬ w.heap.size + 1 + 1 = w.heap.size + 1 := by omega
 go_wp2
 refine bodyPost_ret (v := .tuple #[.agg #[.string ⟨#[]⟩, .int .i64 0, .bool false], .int .i64 1]) (by simp [results, Tryz.results17, go_sem, World.cell?_setCell_same, World.cell?_setCell_other, *]) rfl ⟨rfl, ?_⟩
 repeat (first | refine Below.setCell ?_ (by first | exact Nat.le_refl _ | (dsimp only; omega)) _ | refine Below.alloc ?_ (by first | exact Nat.le_refl _ | omega | (simp; omega)) _ | refine Below.drew ?_)
 exact F2.out.2.2.2
theorem rse_cut1 {s t : ByteArray} {p q : Int} {a b c : Bool} (q1 : a = true) (H1 : ∀ W, Calls Tryz.prog 19 #[.agg #[.string s, .int .i64 p, .bool a]] W fun e w' => e = .returned (.int .i64 0) ∧ Below W.heap.size W w') (H2 : ∀ W, Calls Tryz.prog 19 #[.agg #[.string t, .int .i64 q, .bool b]] W fun e w' => e = .returned (.int .i64 0) ∧ Below W.heap.size W w') (w : World) :
 Calls Tryz.prog 17 #[.agg #[.string s, .int .i64 p, .bool a], .agg #[.string t, .int .i64 q, .bool b], .bool c] w fun x w' => x = .returned (.tuple #[.agg #[.string ⟨#[]⟩, .int .i64 0, .bool false], .int .i64 1]) ∧ Below w.heap.size w w' := by
 subst q1
 have F0 : Hid (Bk (((w.alloc (.cells #[.string s, .int .i64 p, .bool true] 24)).alloc (.cells #[.string t, .int .i64 q, .bool b] 24)).alloc (.cells #[.string ⟨#[]⟩, .int .i64 0, .bool false] 24)) (w.heap.size) [.string s, .int .i64 p, .bool true] ∧ Bk (((w.alloc (.cells #[.string s, .int .i64 p, .bool true] 24)).alloc (.cells #[.string t, .int .i64 q, .bool b] 24)).alloc (.cells #[.string ⟨#[]⟩, .int .i64 0, .bool false] 24)) (w.heap.size + 1) [.string t, .int .i64 q, .bool b] ∧ Bk (((w.alloc (.cells #[.string s, .int .i64 p, .bool true] 24)).alloc (.cells #[.string t, .int .i64 q, .bool b] 24)).alloc (.cells #[.string ⟨#[]⟩, .int .i64 0, .bool false] 24)) (w.heap.size + 1 + 1) [.string ⟨#[]⟩, .int .i64 0, .bool false] ∧ Below w.heap.size w (((w.alloc (.cells #[.string s, .int .i64 p, .bool true] 24)).alloc (.cells #[.string t, .int .i64 q, .bool b] 24)).alloc (.cells #[.string ⟨#[]⟩, .int .i64 0, .bool false] 24))) := ⟨((Bk.new3 w (.string s) (.int .i64 p) (.bool true) 24).step ((Below.refl _ _).alloc (Nat.le_refl _) _)).step ((Below.refl _ _).alloc (Nat.le_refl _) _), (((by have q := Bk.new3 (w.alloc (.cells #[.string s, .int .i64 p, .bool true] 24)) (.string t) (.int .i64 q) (.bool b) 24; simpa using q) : Bk ((w.alloc (.cells #[.string s, .int .i64 p, .bool true] 24)).alloc (.cells #[.string t, .int .i64 q, .bool b] 24)) (w.heap.size + 1) [.string t, .int .i64 q, .bool b])).step ((Below.refl _ _).alloc (Nat.le_refl _) _), ((by have q := Bk.new3 ((w.alloc (.cells #[.string s, .int .i64 p, .bool true] 24)).alloc (.cells #[.string t, .int .i64 q, .bool b] 24)) (.string ⟨#[]⟩) (.int .i64 0) (.bool false) 24; simpa using q) : Bk (((w.alloc (.cells #[.string s, .int .i64 p, .bool true] 24)).alloc (.cells #[.string t, .int .i64 q, .bool b] 24)).alloc (.cells #[.string ⟨#[]⟩, .int .i64 0, .bool false] 24)) (w.heap.size + 1 + 1) [.string ⟨#[]⟩, .int .i64 0, .bool false]), ((((Below.refl w.heap.size w)).alloc (Nat.le_refl _) _).alloc ((((Below.refl w.heap.size w)).alloc (Nat.le_refl _) _).size) _).alloc (((((Below.refl w.heap.size w)).alloc (Nat.le_refl _) _).alloc ((((Below.refl w.heap.size w)).alloc (Nat.le_refl _) _).size) _).size) _⟩
 go_enter Tryz.func17, Tryz.ntmps17
 go_upto_region 1 with fail
 generalize (((w.alloc (.cells #[.string s, .int .i64 p, .bool true] 24)).alloc (.cells #[.string t, .int .i64 q, .bool b] 24)).alloc (.cells #[.string ⟨#[]⟩, .int .i64 0, .bool false] 24)) = w1 at *
 have l1_0 := F0.out.1.lt
 have a1_0_0 := F0.out.1.cell 0 _ rfl
 have f1_0_0 := F0.out.1.fz 0
 have a1_0_1 := F0.out.1.cell 1 _ rfl
 have f1_0_1 := F0.out.1.fz 1
 have a1_0_2 := F0.out.1.cell 2 _ rfl
 have f1_0_2 := F0.out.1.fz 2
 have l1_1 := F0.out.2.1.lt
 have a1_1_0 := F0.out.2.1.cell 0 _ rfl
 have f1_1_0 := F0.out.2.1.fz 0
 have a1_1_1 := F0.out.2.1.cell 1 _ rfl
 have f1_1_1 := F0.out.2.1.fz 1
 have a1_1_2 := F0.out.2.1.cell 2 _ rfl
 have f1_1_2 := F0.out.2.1.fz 2
 have l1_2 := F0.out.2.2.1.lt
 have a1_2_0 := F0.out.2.2.1.cell 0 _ rfl
 have f1_2_0 := F0.out.2.2.1.fz 0
 have a1_2_1 := F0.out.2.2.1.cell 1 _ rfl
 have f1_2_1 := F0.out.2.2.1.fz 1
 have a1_2_2 := F0.out.2.2.1.cell 2 _ rfl
 have f1_2_2 := F0.out.2.2.1.fz 2
 have ne1_0_1 : ¬ w.heap.size = w.heap.size + 1 := by omega
 have ne1_0_2 : ¬ w.heap.size = w.heap.size + 1 + 1 := by omega
 have ne1_1_0 : ¬ w.heap.size + 1 = w.heap.size := by omega
 have ne1_1_2 : ¬ w.heap.size + 1 = w.heap.size + 1 + 1 := by omega
 have ne1_2_0 : ¬ w.heap.size + 1 + 1 = w.heap.size := by omega
 have ne1_2_1 : ¬ w.heap.size + 1 + 1 = w.heap.size + 1 := by omega
 go_wp2_with fail
 all_goals first | (exfalso; omega) | skip
 refine (H1 _).mono ?_
 rintro o2 w2 ⟨rfl, bb⟩
 have F1 : Hid (Bk w2 (w.heap.size) [.string s, .int .i64 p, .bool true] ∧ Bk w2 (w.heap.size + 1) [.string t, .int .i64 q, .bool b] ∧ Bk w2 (w.heap.size + 1 + 1) [.string ⟨#[]⟩, .int .i64 0, .bool false] ∧ Below w.heap.size w w2) := ⟨(F0.out.1).step bb, (F0.out.2.1).step bb, (F0.out.2.2.1).step bb, (F0.out.2.2.2).trans (bb.mono (F0.out.2.2.2).size)⟩
 clear F0
 clear bb
 clear l1_0 a1_0_0 f1_0_0 a1_0_1 f1_0_1 a1_0_2 f1_0_2 l1_1 a1_1_0 f1_1_0 a1_1_1 f1_1_1 a1_1_2 f1_1_2 l1_2 a1_2_0 f1_2_0 a1_2_1 f1_2_1 a1_2_2 f1_2_2
 have l2_0 := F1.out.1.lt
 have a2_0_0 := F1.out.1.cell 0 _ rfl
 have f2_0_0 := F1.out.1.fz 0
 have a2_0_1 := F1.out.1.cell 1 _ rfl
 have f2_0_1 := F1.out.1.fz 1
 have a2_0_2 := F1.out.1.cell 2 _ rfl
 have f2_0_2 := F1.out.1.fz 2
 have l2_1 := F1.out.2.1.lt
 have a2_1_0 := F1.out.2.1.cell 0 _ rfl
 have f2_1_0 := F1.out.2.1.fz 0
 have a2_1_1 := F1.out.2.1.cell 1 _ rfl
 have f2_1_1 := F1.out.2.1.fz 1
 have a2_1_2 := F1.out.2.1.cell 2 _ rfl
 have f2_1_2 := F1.out.2.1.fz 2
 have l2_2 := F1.out.2.2.1.lt
 have a2_2_0 := F1.out.2.2.1.cell 0 _ rfl
 have f2_2_0 := F1.out.2.2.1.fz 0
 have a2_2_1 := F1.out.2.2.1.cell 1 _ rfl
 have f2_2_1 := F1.out.2.2.1.fz 1
 have a2_2_2 := F1.out.2.2.1.cell 2 _ rfl
 have f2_2_2 := F1.out.2.2.1.fz 2
 have ne2_0_1 : ¬ w.heap.size = w.heap.size + 1 := by omega
 have ne2_0_2 : ¬ w.heap.size = w.heap.size + 1 + 1 := by omega
 have ne2_1_0 : ¬ w.heap.size + 1 = w.heap.size := by omega
 have ne2_1_2 : ¬ w.heap.size + 1 = w.heap.size + 1 + 1 := by omega
 have ne2_2_0 : ¬ w.heap.size + 1 + 1 = w.heap.size := by omega
 have ne2_2_1 : ¬ w.heap.size + 1 + 1 = w.heap.size + 1 := by omega
 go_wp2_with fail
 all_goals first | (exfalso; omega) | skip
 refine (H2 _).mono ?_
 rintro o3 w3 ⟨rfl, bb⟩
 have F2 : Hid (Bk w3 (w.heap.size) [.string s, .int .i64 p, .bool true] ∧ Bk w3 (w.heap.size + 1) [.string t, .int .i64 q, .bool b] ∧ Bk w3 (w.heap.size + 1 + 1) [.string ⟨#[]⟩, .int .i64 0, .bool false] ∧ Below w.heap.size w w3) := ⟨(F1.out.1).step bb, (F1.out.2.1).step bb, (F1.out.2.2.1).step bb, (F1.out.2.2.2).trans (bb.mono (F1.out.2.2.2).size)⟩
 clear F1
 clear bb
 clear l2_0 a2_0_0 f2_0_0 a2_0_1 f2_0_1 a2_0_2 f2_0_2 l2_1 a2_1_0 f2_1_0 a2_1_1 f2_1_1 a2_1_2 f2_1_2 l2_2 a2_2_0 f2_2_0 a2_2_1 f2_2_1 a2_2_2 f2_2_2
 have l3_0 := F2.out.1.lt
 have a3_0_0 := F2.out.1.cell 0 _ rfl
 have f3_0_0 := F2.out.1.fz 0
 have a3_0_1 := F2.out.1.cell 1 _ rfl
 have f3_0_1 := F2.out.1.fz 1
 have a3_0_2 := F2.out.1.cell 2 _ rfl
 have f3_0_2 := F2.out.1.fz 2
 have l3_1 := F2.out.2.1.lt
 have a3_1_0 := F2.out.2.1.cell 0 _ rfl
 have f3_1_0 := F2.out.2.1.fz 0
 have a3_1_1 := F2.out.2.1.cell 1 _ rfl
 have f3_1_1 := F2.out.2.1.fz 1
 have a3_1_2 := F2.out.2.1.cell 2 _ rfl
 have f3_1_2 := F2.out.2.1.fz 2
 have l3_2 := F2.out.2.2.1.lt
 have a3_2_0 := F2.out.2.2.1.cell 0 _ rfl
 have f3_2_0 := F2.out.2.2.1.fz 0
 have a3_2_1 := F2.out.2.2.1.cell 1 _ rfl
 have f3_2_1 := F2.out.2.2.1.fz 1
 have a3_2_2 := F2.out.2.2.1.cell 2 _ rfl
 have f3_2_2 := F2.out.2.2.1.fz 2
 have ne3_0_1 : ¬ w.heap.size = w.heap.size + 1 := by omega
 have ne3_0_2 : ¬ w.heap.size = w.heap.size + 1 + 1 := by omega
 have ne3_1_0 : ¬ w.heap.size + 1 = w.heap.size := by omega
 have ne3_1_2 : ¬ w.heap.size + 1 = w.heap.size + 1 + 1 := by omega
 have ne3_2_0 : ¬ w.heap.size + 1 + 1 = w.heap.size := by omega
 have ne3_2_1 : ¬ w.heap.size + 1 + 1 = w.heap.size + 1 := by omega
 go_wp2
 refine bodyPost_ret (v := .tuple #[.agg #[.string ⟨#[]⟩, .int .i64 0, .bool false], .int .i64 1]) (by simp [results, Tryz.results17, go_sem, World.cell?_setCell_same, World.cell?_setCell_other, *]) rfl ⟨rfl, ?_⟩
 repeat (first | refine Below.setCell ?_ (by first | exact Nat.le_refl _ | (dsimp only; omega)) _ | refine Below.alloc ?_ (by first | exact Nat.le_refl _ | omega | (simp; omega)) _ | refine Below.drew ?_)
 exact F2.out.2.2.2
theorem rse_cut2 {s t : ByteArray} {p q : Int} {a b c : Bool} (q1 : a = false) (q2 : b = true) (H1 : ∀ W, Calls Tryz.prog 19 #[.agg #[.string s, .int .i64 p, .bool a]] W fun e w' => e = .returned (.int .i64 0) ∧ Below W.heap.size W w') (H2 : ∀ W, Calls Tryz.prog 19 #[.agg #[.string t, .int .i64 q, .bool b]] W fun e w' => e = .returned (.int .i64 0) ∧ Below W.heap.size W w') (w : World) :
 Calls Tryz.prog 17 #[.agg #[.string s, .int .i64 p, .bool a], .agg #[.string t, .int .i64 q, .bool b], .bool c] w fun x w' => x = .returned (.tuple #[.agg #[.string ⟨#[]⟩, .int .i64 0, .bool false], .int .i64 1]) ∧ Below w.heap.size w w' := by
 subst q1
 subst q2
 have F0 : Hid (Bk (((w.alloc (.cells #[.string s, .int .i64 p, .bool false] 24)).alloc (.cells #[.string t, .int .i64 q, .bool true] 24)).alloc (.cells #[.string ⟨#[]⟩, .int .i64 0, .bool false] 24)) (w.heap.size) [.string s, .int .i64 p, .bool false] ∧ Bk (((w.alloc (.cells #[.string s, .int .i64 p, .bool false] 24)).alloc (.cells #[.string t, .int .i64 q, .bool true] 24)).alloc (.cells #[.string ⟨#[]⟩, .int .i64 0, .bool false] 24)) (w.heap.size + 1) [.string t, .int .i64 q, .bool true] ∧ Bk (((w.alloc (.cells #[.string s, .int .i64 p, .bool false] 24)).alloc (.cells #[.string t, .int .i64 q, .bool true] 24)).alloc (.cells #[.string ⟨#[]⟩, .int .i64 0, .bool false] 24)) (w.heap.size + 1 + 1) [.string ⟨#[]⟩, .int .i64 0, .bool false] ∧ Below w.heap.size w (((w.alloc (.cells #[.string s, .int .i64 p, .bool false] 24)).alloc (.cells #[.string t, .int .i64 q, .bool true] 24)).alloc (.cells #[.string ⟨#[]⟩, .int .i64 0, .bool false] 24))) := ⟨((Bk.new3 w (.string s) (.int .i64 p) (.bool false) 24).step ((Below.refl _ _).alloc (Nat.le_refl _) _)).step ((Below.refl _ _).alloc (Nat.le_refl _) _), (((by have q := Bk.new3 (w.alloc (.cells #[.string s, .int .i64 p, .bool false] 24)) (.string t) (.int .i64 q) (.bool true) 24; simpa using q) : Bk ((w.alloc (.cells #[.string s, .int .i64 p, .bool false] 24)).alloc (.cells #[.string t, .int .i64 q, .bool true] 24)) (w.heap.size + 1) [.string t, .int .i64 q, .bool true])).step ((Below.refl _ _).alloc (Nat.le_refl _) _), ((by have q := Bk.new3 ((w.alloc (.cells #[.string s, .int .i64 p, .bool false] 24)).alloc (.cells #[.string t, .int .i64 q, .bool true] 24)) (.string ⟨#[]⟩) (.int .i64 0) (.bool false) 24; simpa using q) : Bk (((w.alloc (.cells #[.string s, .int .i64 p, .bool false] 24)).alloc (.cells #[.string t, .int .i64 q, .bool true] 24)).alloc (.cells #[.string ⟨#[]⟩, .int .i64 0, .bool false] 24)) (w.heap.size + 1 + 1) [.string ⟨#[]⟩, .int .i64 0, .bool false]), ((((Below.refl w.heap.size w)).alloc (Nat.le_refl _) _).alloc ((((Below.refl w.heap.size w)).alloc (Nat.le_refl _) _).size) _).alloc (((((Below.refl w.heap.size w)).alloc (Nat.le_refl _) _).alloc ((((Below.refl w.heap.size w)).alloc (Nat.le_refl _) _).size) _).size) _⟩
 go_enter Tryz.func17, Tryz.ntmps17
 go_upto_region 1 with fail
 generalize (((w.alloc (.cells #[.string s, .int .i64 p, .bool false] 24)).alloc (.cells #[.string t, .int .i64 q, .bool true] 24)).alloc (.cells #[.string ⟨#[]⟩, .int .i64 0, .bool false] 24)) = w1 at *
 have l1_0 := F0.out.1.lt
 have a1_0_0 := F0.out.1.cell 0 _ rfl
 have f1_0_0 := F0.out.1.fz 0
 have a1_0_1 := F0.out.1.cell 1 _ rfl
 have f1_0_1 := F0.out.1.fz 1
 have a1_0_2 := F0.out.1.cell 2 _ rfl
 have f1_0_2 := F0.out.1.fz 2
 have l1_1 := F0.out.2.1.lt
 have a1_1_0 := F0.out.2.1.cell 0 _ rfl
 have f1_1_0 := F0.out.2.1.fz 0
 have a1_1_1 := F0.out.2.1.cell 1 _ rfl
 have f1_1_1 := F0.out.2.1.fz 1
 have a1_1_2 := F0.out.2.1.cell 2 _ rfl
 have f1_1_2 := F0.out.2.1.fz 2
 have l1_2 := F0.out.2.2.1.lt
 have a1_2_0 := F0.out.2.2.1.cell 0 _ rfl
 have f1_2_0 := F0.out.2.2.1.fz 0
 have a1_2_1 := F0.out.2.2.1.cell 1 _ rfl
 have f1_2_1 := F0.out.2.2.1.fz 1
 have a1_2_2 := F0.out.2.2.1.cell 2 _ rfl
 have f1_2_2 := F0.out.2.2.1.fz 2
 have ne1_0_1 : ¬ w.heap.size = w.heap.size + 1 := by omega
 have ne1_0_2 : ¬ w.heap.size = w.heap.size + 1 + 1 := by omega
 have ne1_1_0 : ¬ w.heap.size + 1 = w.heap.size := by omega
 have ne1_1_2 : ¬ w.heap.size + 1 = w.heap.size + 1 + 1 := by omega
 have ne1_2_0 : ¬ w.heap.size + 1 + 1 = w.heap.size := by omega
 have ne1_2_1 : ¬ w.heap.size + 1 + 1 = w.heap.size + 1 := by omega
 go_wp2_with fail
 all_goals first | (exfalso; omega) | skip
 refine (H1 _).mono ?_
 rintro o2 w2 ⟨rfl, bb⟩
 have F1 : Hid (Bk w2 (w.heap.size) [.string s, .int .i64 p, .bool false] ∧ Bk w2 (w.heap.size + 1) [.string t, .int .i64 q, .bool true] ∧ Bk w2 (w.heap.size + 1 + 1) [.string ⟨#[]⟩, .int .i64 0, .bool false] ∧ Below w.heap.size w w2) := ⟨(F0.out.1).step bb, (F0.out.2.1).step bb, (F0.out.2.2.1).step bb, (F0.out.2.2.2).trans (bb.mono (F0.out.2.2.2).size)⟩
 clear F0
 clear bb
 clear l1_0 a1_0_0 f1_0_0 a1_0_1 f1_0_1 a1_0_2 f1_0_2 l1_1 a1_1_0 f1_1_0 a1_1_1 f1_1_1 a1_1_2 f1_1_2 l1_2 a1_2_0 f1_2_0 a1_2_1 f1_2_1 a1_2_2 f1_2_2
 have l2_0 := F1.out.1.lt
 have a2_0_0 := F1.out.1.cell 0 _ rfl
 have f2_0_0 := F1.out.1.fz 0
 have a2_0_1 := F1.out.1.cell 1 _ rfl
 have f2_0_1 := F1.out.1.fz 1
 have a2_0_2 := F1.out.1.cell 2 _ rfl
 have f2_0_2 := F1.out.1.fz 2
 have l2_1 := F1.out.2.1.lt
 have a2_1_0 := F1.out.2.1.cell 0 _ rfl
 have f2_1_0 := F1.out.2.1.fz 0
 have a2_1_1 := F1.out.2.1.cell 1 _ rfl
 have f2_1_1 := F1.out.2.1.fz 1
 have a2_1_2 := F1.out.2.1.cell 2 _ rfl
 have f2_1_2 := F1.out.2.1.fz 2
 have l2_2 := F1.out.2.2.1.lt
 have a2_2_0 := F1.out.2.2.1.cell 0 _ rfl
 have f2_2_0 := F1.out.2.2.1.fz 0
 have a2_2_1 := F1.out.2.2.1.cell 1 _ rfl
 have f2_2_1 := F1.out.2.2.1.fz 1
 have a2_2_2 := F1.out.2.2.1.cell 2 _ rfl
 have f2_2_2 := F1.out.2.2.1.fz 2
 have ne2_0_1 : ¬ w.heap.size = w.heap.size + 1 := by omega
 have ne2_0_2 : ¬ w.heap.size = w.heap.size + 1 + 1 := by omega
 have ne2_1_0 : ¬ w.heap.size + 1 = w.heap.size := by omega
 have ne2_1_2 : ¬ w.heap.size + 1 = w.heap.size + 1 + 1 := by omega
 have ne2_2_0 : ¬ w.heap.size + 1 + 1 = w.heap.size := by omega
 have ne2_2_1 : ¬ w.heap.size + 1 + 1 = w.heap.size + 1 := by omega
 go_wp2_with fail
 all_goals first | (exfalso; omega) | skip
 refine (H2 _).mono ?_
 rintro o3 w3 ⟨rfl, bb⟩
 have F2 : Hid (Bk w3 (w.heap.size) [.string s, .int .i64 p, .bool false] ∧ Bk w3 (w.heap.size + 1) [.string t, .int .i64 q, .bool true] ∧ Bk w3 (w.heap.size + 1 + 1) [.string ⟨#[]⟩, .int .i64 0, .bool false] ∧ Below w.heap.size w w3) := ⟨(F1.out.1).step bb, (F1.out.2.1).step bb, (F1.out.2.2.1).step bb, (F1.out.2.2.2).trans (bb.mono (F1.out.2.2.2).size)⟩
 clear F1
 clear bb
 clear l2_0 a2_0_0 f2_0_0 a2_0_1 f2_0_1 a2_0_2 f2_0_2 l2_1 a2_1_0 f2_1_0 a2_1_1 f2_1_1 a2_1_2 f2_1_2 l2_2 a2_2_0 f2_2_0 a2_2_1 f2_2_1 a2_2_2 f2_2_2
 have l3_0 := F2.out.1.lt
 have a3_0_0 := F2.out.1.cell 0 _ rfl
 have f3_0_0 := F2.out.1.fz 0
 have a3_0_1 := F2.out.1.cell 1 _ rfl
 have f3_0_1 := F2.out.1.fz 1
 have a3_0_2 := F2.out.1.cell 2 _ rfl
 have f3_0_2 := F2.out.1.fz 2
 have l3_1 := F2.out.2.1.lt
 have a3_1_0 := F2.out.2.1.cell 0 _ rfl
 have f3_1_0 := F2.out.2.1.fz 0
 have a3_1_1 := F2.out.2.1.cell 1 _ rfl
 have f3_1_1 := F2.out.2.1.fz 1
 have a3_1_2 := F2.out.2.1.cell 2 _ rfl
 have f3_1_2 := F2.out.2.1.fz 2
 have l3_2 := F2.out.2.2.1.lt
 have a3_2_0 := F2.out.2.2.1.cell 0 _ rfl
 have f3_2_0 := F2.out.2.2.1.fz 0
 have a3_2_1 := F2.out.2.2.1.cell 1 _ rfl
 have f3_2_1 := F2.out.2.2.1.fz 1
 have a3_2_2 := F2.out.2.2.1.cell 2 _ rfl
 have f3_2_2 := F2.out.2.2.1.fz 2
 have ne3_0_1 : ¬ w.heap.size = w.heap.size + 1 := by omega
 have ne3_0_2 : ¬ w.heap.size = w.heap.size + 1 + 1 := by omega
 have ne3_1_0 : ¬ w.heap.size + 1 = w.heap.size := by omega
 have ne3_1_2 : ¬ w.heap.size + 1 = w.heap.size + 1 + 1 := by omega
 have ne3_2_0 : ¬ w.heap.size + 1 + 1 = w.heap.size := by omega
 have ne3_2_1 : ¬ w.heap.size + 1 + 1 = w.heap.size + 1 := by omega
 go_wp2
 refine bodyPost_ret (v := .tuple #[.agg #[.string ⟨#[]⟩, .int .i64 0, .bool false], .int .i64 1]) (by simp [results, Tryz.results17, go_sem, World.cell?_setCell_same, World.cell?_setCell_other, *]) rfl ⟨rfl, ?_⟩
 repeat (first | refine Below.setCell ?_ (by first | exact Nat.le_refl _ | (dsimp only; omega)) _ | refine Below.alloc ?_ (by first | exact Nat.le_refl _ | omega | (simp; omega)) _ | refine Below.drew ?_)
 exact F2.out.2.2.2
theorem rse_ord {s t : ByteArray} {p q : Int} {c : Bool} {r : Int} (q1 : 0 ≤ r) (H1 : ∀ W, Calls Tryz.prog 19 #[.agg #[.string s, .int .i64 p, .bool false]] W fun e w' => e = .returned (.int .i64 0) ∧ Below W.heap.size W w') (H2 : ∀ W, Calls Tryz.prog 19 #[.agg #[.string t, .int .i64 q, .bool false]] W fun e w' => e = .returned (.int .i64 0) ∧ Below W.heap.size W w') (HC : ∀ W, Calls Tryz.prog 23 #[.agg #[.string s, .int .i64 p, .bool false], .agg #[.string t, .int .i64 q, .bool false]] W fun e w' => e = .returned (.tuple #[.int .i64 r, .int .i64 0]) ∧ Below W.heap.size W w') (w : World) :
 Calls Tryz.prog 17 #[.agg #[.string s, .int .i64 p, .bool false], .agg #[.string t, .int .i64 q, .bool false], .bool c] w fun x w' => x = .returned (.tuple #[.agg #[.string ⟨#[]⟩, .int .i64 0, .bool false], .int .i64 1]) ∧ Below w.heap.size w w' := by
 have F0 : Hid (Bk (((w.alloc (.cells #[.string s, .int .i64 p, .bool false] 24)).alloc (.cells #[.string t, .int .i64 q, .bool false] 24)).alloc (.cells #[.string ⟨#[]⟩, .int .i64 0, .bool false] 24)) (w.heap.size) [.string s, .int .i64 p, .bool false] ∧ Bk (((w.alloc (.cells #[.string s, .int .i64 p, .bool false] 24)).alloc (.cells #[.string t, .int .i64 q, .bool false] 24)).alloc (.cells #[.string ⟨#[]⟩, .int .i64 0, .bool false] 24)) (w.heap.size + 1) [.string t, .int .i64 q, .bool false] ∧ Bk (((w.alloc (.cells #[.string s, .int .i64 p, .bool false] 24)).alloc (.cells #[.string t, .int .i64 q, .bool false] 24)).alloc (.cells #[.string ⟨#[]⟩, .int .i64 0, .bool false] 24)) (w.heap.size + 1 + 1) [.string ⟨#[]⟩, .int .i64 0, .bool false] ∧ Below w.heap.size w (((w.alloc (.cells #[.string s, .int .i64 p, .bool false] 24)).alloc (.cells #[.string t, .int .i64 q, .bool false] 24)).alloc (.cells #[.string ⟨#[]⟩, .int .i64 0, .bool false] 24))) := ⟨((Bk.new3 w (.string s) (.int .i64 p) (.bool false) 24).step ((Below.refl _ _).alloc (Nat.le_refl _) _)).step ((Below.refl _ _).alloc (Nat.le_refl _) _), (((by have q := Bk.new3 (w.alloc (.cells #[.string s, .int .i64 p, .bool false] 24)) (.string t) (.int .i64 q) (.bool false) 24; simpa using q) : Bk ((w.alloc (.cells #[.string s, .int .i64 p, .bool false] 24)).alloc (.cells #[.string t, .int .i64 q, .bool false] 24)) (w.heap.size + 1) [.string t, .int .i64 q, .bool false])).step ((Below.refl _ _).alloc (Nat.le_refl _) _), ((by have q := Bk.new3 ((w.alloc (.cells #[.string s, .int .i64 p, .bool false] 24)).alloc (.cells #[.string t, .int .i64 q, .bool false] 24)) (.string ⟨#[]⟩) (.int .i64 0) (.bool false) 24; simpa using q) : Bk (((w.alloc (.cells #[.string s, .int .i64 p, .bool false] 24)).alloc (.cells #[.string t, .int .i64 q, .bool false] 24)).alloc (.cells #[.string ⟨#[]⟩, .int .i64 0, .bool false] 24)) (w.heap.size + 1 + 1) [.string ⟨#[]⟩, .int .i64 0, .bool false]), ((((Below.refl w.heap.size w)).alloc (Nat.le_refl _) _).alloc ((((Below.refl w.heap.size w)).alloc (Nat.le_refl _) _).size) _).alloc (((((Below.refl w.heap.size w)).alloc (Nat.le_refl _) _).alloc ((((Below.refl w.heap.size w)).alloc (Nat.le_refl _) _).size) _).size) _⟩
 go_enter Tryz.func17, Tryz.ntmps17
 go_upto_region 1 with fail
 generalize (((w.alloc (.cells #[.string s, .int .i64 p, .bool false] 24)).alloc (.cells #[.string t, .int .i64 q, .bool false] 24)).alloc (.cells #[.string ⟨#[]⟩, .int .i64 0, .bool false] 24)) = w1 at *
 have l1_0 := F0.out.1.lt
 have a1_0_0 := F0.out.1.cell 0 _ rfl
 have f1_0_0 := F0.out.1.fz 0
 have a1_0_1 := F0.out.1.cell 1 _ rfl
 have f1_0_1 := F0.out.1.fz 1
 have a1_0_2 := F0.out.1.cell 2 _ rfl
 have f1_0_2 := F0.out.1.fz 2
 have l1_1 := F0.out.2.1.lt
 have a1_1_0 := F0.out.2.1.cell 0 _ rfl
 have f1_1_0 := F0.out.2.1.fz 0
 have a1_1_1 := F0.out.2.1.cell 1 _ rfl
 have f1_1_1 := F0.out.2.1.fz 1
 have a1_1_2 := F0.out.2.1.cell 2 _ rfl
 have f1_1_2 := F0.out.2.1.fz 2
 have l1_2 := F0.out.2.2.1.lt
 have a1_2_0 := F0.out.2.2.1.cell 0 _ rfl
 have f1_2_0 := F0.out.2.2.1.fz 0
 have a1_2_1 := F0.out.2.2.1.cell 1 _ rfl
 have f1_2_1 := F0.out.2.2.1.fz 1
 have a1_2_2 := F0.out.2.2.1.cell 2 _ rfl
 have f1_2_2 := F0.out.2.2.1.fz 2
 have ne1_0_1 : ¬ w.heap.size = w.heap.size + 1 := by omega
 have ne1_0_2 : ¬ w.heap.size = w.heap.size + 1 + 1 := by omega
 have ne1_1_0 : ¬ w.heap.size + 1 = w.heap.size := by omega
 have ne1_1_2 : ¬ w.heap.size + 1 = w.heap.size + 1 + 1 := by omega
 have ne1_2_0 : ¬ w.heap.size + 1 + 1 = w.heap.size := by omega
 have ne1_2_1 : ¬ w.heap.size + 1 + 1 = w.heap.size + 1 := by omega
 go_wp2_with fail
 all_goals first | (exfalso; omega) | skip
 refine (H1 _).mono ?_
 rintro o2 w2 ⟨rfl, bb⟩
 have F1 : Hid (Bk w2 (w.heap.size) [.string s, .int .i64 p, .bool false] ∧ Bk w2 (w.heap.size + 1) [.string t, .int .i64 q, .bool false] ∧ Bk w2 (w.heap.size + 1 + 1) [.string ⟨#[]⟩, .int .i64 0, .bool false] ∧ Below w.heap.size w w2) := ⟨(F0.out.1).step bb, (F0.out.2.1).step bb, (F0.out.2.2.1).step bb, (F0.out.2.2.2).trans (bb.mono (F0.out.2.2.2).size)⟩
 clear F0
 clear bb
 clear l1_0 a1_0_0 f1_0_0 a1_0_1 f1_0_1 a1_0_2 f1_0_2 l1_1 a1_1_0 f1_1_0 a1_1_1 f1_1_1 a1_1_2 f1_1_2 l1_2 a1_2_0 f1_2_0 a1_2_1 f1_2_1 a1_2_2 f1_2_2
 have l2_0 := F1.out.1.lt
 have a2_0_0 := F1.out.1.cell 0 _ rfl
 have f2_0_0 := F1.out.1.fz 0
 have a2_0_1 := F1.out.1.cell 1 _ rfl
 have f2_0_1 := F1.out.1.fz 1
 have a2_0_2 := F1.out.1.cell 2 _ rfl
 have f2_0_2 := F1.out.1.fz 2
 have l2_1 := F1.out.2.1.lt
 have a2_1_0 := F1.out.2.1.cell 0 _ rfl
 have f2_1_0 := F1.out.2.1.fz 0
 have a2_1_1 := F1.out.2.1.cell 1 _ rfl
 have f2_1_1 := F1.out.2.1.fz 1
 have a2_1_2 := F1.out.2.1.cell 2 _ rfl
 have f2_1_2 := F1.out.2.1.fz 2
 have l2_2 := F1.out.2.2.1.lt
 have a2_2_0 := F1.out.2.2.1.cell 0 _ rfl
 have f2_2_0 := F1.out.2.2.1.fz 0
 have a2_2_1 := F1.out.2.2.1.cell 1 _ rfl
 have f2_2_1 := F1.out.2.2.1.fz 1
 have a2_2_2 := F1.out.2.2.1.cell 2 _ rfl
 have f2_2_2 := F1.out.2.2.1.fz 2
 have ne2_0_1 : ¬ w.heap.size = w.heap.size + 1 := by omega
 have ne2_0_2 : ¬ w.heap.size = w.heap.size + 1 + 1 := by omega
 have ne2_1_0 : ¬ w.heap.size + 1 = w.heap.size := by omega
 have ne2_1_2 : ¬ w.heap.size + 1 = w.heap.size + 1 + 1 := by omega
 have ne2_2_0 : ¬ w.heap.size + 1 + 1 = w.heap.size := by omega
 have ne2_2_1 : ¬ w.heap.size + 1 + 1 = w.heap.size + 1 := by omega
 go_wp2_with fail
 all_goals first | (exfalso; omega) | skip
 refine (H2 _).mono ?_
 rintro o3 w3 ⟨rfl, bb⟩
 have F2 : Hid (Bk w3 (w.heap.size) [.string s, .int .i64 p, .bool false] ∧ Bk w3 (w.heap.size + 1) [.string t, .int .i64 q, .bool false] ∧ Bk w3 (w.heap.size + 1 + 1) [.string ⟨#[]⟩, .int .i64 0, .bool false] ∧ Below w.heap.size w w3) := ⟨(F1.out.1).step bb, (F1.out.2.1).step bb, (F1.out.2.2.1).step bb, (F1.out.2.2.2).trans (bb.mono (F1.out.2.2.2).size)⟩
 clear F1
 clear bb
 clear l2_0 a2_0_0 f2_0_0 a2_0_1 f2_0_1 a2_0_2 f2_0_2 l2_1 a2_1_0 f2_1_0 a2_1_1 f2_1_1 a2_1_2 f2_1_2 l2_2 a2_2_0 f2_2_0 a2_2_1 f2_2_1 a2_2_2 f2_2_2
 have l3_0 := F2.out.1.lt
 have a3_0_0 := F2.out.1.cell 0 _ rfl
 have f3_0_0 := F2.out.1.fz 0
 have a3_0_1 := F2.out.1.cell 1 _ rfl
 have f3_0_1 := F2.out.1.fz 1
 have a3_0_2 := F2.out.1.cell 2 _ rfl
 have f3_0_2 := F2.out.1.fz 2
 have l3_1 := F2.out.2.1.lt
 have a3_1_0 := F2.out.2.1.cell 0 _ rfl
 have f3_1_0 := F2.out.2.1.fz 0
 have a3_1_1 := F2.out.2.1.cell 1 _ rfl
 have f3_1_1 := F2.out.2.1.fz 1
 have a3_1_2 := F2.out.2.1.cell 2 _ rfl
 have f3_1_2 := F2.out.2.1.fz 2
 have l3_2 := F2.out.2.2.1.lt
 have a3_2_0 := F2.out.2.2.1.cell 0 _ rfl
 have f3_2_0 := F2.out.2.2.1.fz 0
 have a3_2_1 := F2.out.2.2.1.cell 1 _ rfl
 have f3_2_1 := F2.out.2.2.1.fz 1
 have a3_2_2 := F2.out.2.2.1.cell 2 _ rfl
 have f3_2_2 := F2.out.2.2.1.fz 2
 have ne3_0_1 : ¬ w.heap.size = w.heap.size + 1 := by omega
 have ne3_0_2 : ¬ w.heap.size = w.heap.size + 1 + 1 := by omega
 have ne3_1_0 : ¬ w.heap.size + 1 = w.heap.size := by omega
 have ne3_1_2 : ¬ w.heap.size + 1 = w.heap.size + 1 + 1 := by omega
 have ne3_2_0 : ¬ w.heap.size + 1 + 1 = w.heap.size := by omega
 have ne3_2_1 : ¬ w.heap.size + 1 + 1 = w.heap.size + 1 := by omega
 go_wp2_with fail
 all_goals first | (exfalso; omega) | skip
 refine (HC _).mono ?_
 rintro o4 w4 ⟨rfl, bb⟩
 have F3 : Hid (Bk w4 (w.heap.size) [.string s, .int .i64 p, .bool false] ∧ Bk w4 (w.heap.size + 1) [.string t, .int .i64 q, .bool false] ∧ Bk w4 (w.heap.size + 1 + 1) [.string ⟨#[]⟩, .int .i64 0, .bool false] ∧ Below w.heap.size w w4) := ⟨(F2.out.1).step bb, (F2.out.2.1).step bb, (F2.out.2.2.1).step bb, (F2.out.2.2.2).trans (bb.mono (F2.out.2.2.2).size)⟩
 clear F2
 clear bb
 clear l3_0 a3_0_0 f3_0_0 a3_0_1 f3_0_1 a3_0_2 f3_0_2 l3_1 a3_1_0 f3_1_0 a3_1_1 f3_1_1 a3_1_2 f3_1_2 l3_2 a3_2_0 f3_2_0 a3_2_1 f3_2_1 a3_2_2 f3_2_2
 have l4_0 := F3.out.1.lt
 have a4_0_0 := F3.out.1.cell 0 _ rfl
 have f4_0_0 := F3.out.1.fz 0
 have a4_0_1 := F3.out.1.cell 1 _ rfl
 have f4_0_1 := F3.out.1.fz 1
 have a4_0_2 := F3.out.1.cell 2 _ rfl
 have f4_0_2 := F3.out.1.fz 2
 have l4_1 := F3.out.2.1.lt
 have a4_1_0 := F3.out.2.1.cell 0 _ rfl
 have f4_1_0 := F3.out.2.1.fz 0
 have a4_1_1 := F3.out.2.1.cell 1 _ rfl
 have f4_1_1 := F3.out.2.1.fz 1
 have a4_1_2 := F3.out.2.1.cell 2 _ rfl
 have f4_1_2 := F3.out.2.1.fz 2
 have l4_2 := F3.out.2.2.1.lt
 have a4_2_0 := F3.out.2.2.1.cell 0 _ rfl
 have f4_2_0 := F3.out.2.2.1.fz 0
 have a4_2_1 := F3.out.2.2.1.cell 1 _ rfl
 have f4_2_1 := F3.out.2.2.1.fz 1
 have a4_2_2 := F3.out.2.2.1.cell 2 _ rfl
 have f4_2_2 := F3.out.2.2.1.fz 2
 have ne4_0_1 : ¬ w.heap.size = w.heap.size + 1 := by omega
 have ne4_0_2 : ¬ w.heap.size = w.heap.size + 1 + 1 := by omega
 have ne4_1_0 : ¬ w.heap.size + 1 = w.heap.size := by omega
 have ne4_1_2 : ¬ w.heap.size + 1 = w.heap.size + 1 + 1 := by omega
 have ne4_2_0 : ¬ w.heap.size + 1 + 1 = w.heap.size := by omega
 have ne4_2_1 : ¬ w.heap.size + 1 + 1 = w.heap.size + 1 := by omega
 go_wp2
 refine bodyPost_ret (v := .tuple #[.agg #[.string ⟨#[]⟩, .int .i64 0, .bool false], .int .i64 1]) (by simp [results, Tryz.results17, go_sem, World.cell?_setCell_same, World.cell?_setCell_other, *]) rfl ⟨rfl, ?_⟩
 repeat (first | refine Below.setCell ?_ (by first | exact Nat.le_refl _ | (dsimp only; omega)) _ | refine Below.alloc ?_ (by first | exact Nat.le_refl _ | omega | (simp; omega)) _ | refine Below.drew ?_)
 exact F3.out.2.2.2
theorem rse_open0 {t : ByteArray} {p q r : Int} (q1 : ¬ 0 ≤ r) (H1 : ∀ W, Calls Tryz.prog 19 #[.agg #[.string ⟨#[]⟩, .int .i64 p, .bool false]] W fun e w' => e = .returned (.int .i64 0) ∧ Below W.heap.size W w') (H2 : ∀ W, Calls Tryz.prog 19 #[.agg #[.string t, .int .i64 q, .bool false]] W fun e w' => e = .returned (.int .i64 0) ∧ Below W.heap.size W w') (HC : ∀ W, Calls Tryz.prog 23 #[.agg #[.string ⟨#[]⟩, .int .i64 p, .bool false], .agg #[.string t, .int .i64 q, .bool false]] W fun e w' => e = .returned (.tuple #[.int .i64 r, .int .i64 0]) ∧ Below W.heap.size W w') (w : World) :
 Calls Tryz.prog 17 #[.agg #[.string ⟨#[]⟩, .int .i64 p, .bool false], .agg #[.string t, .int .i64 q, .bool false], .bool false] w fun x w' => x = .returned (.tuple #[.agg #[.string ⟨#[]⟩, .int .i64 0, .bool false], .int .i64 1]) ∧ Below w.heap.size w w' := by
 have F0 : Hid (Bk (((w.alloc (.cells #[.string ⟨#[]⟩, .int .i64 p, .bool false] 24)).alloc (.cells #[.string t, .int .i64 q, .bool false] 24)).alloc (.cells #[.string ⟨#[]⟩, .int .i64 0, .bool false] 24)) (w.heap.size) [.string ⟨#[]⟩, .int .i64 p, .bool false] ∧ Bk (((w.alloc (.cells #[.string ⟨#[]⟩, .int .i64 p, .bool false] 24)).alloc (.cells #[.string t, .int .i64 q, .bool false] 24)).alloc (.cells #[.string ⟨#[]⟩, .int .i64 0, .bool false] 24)) (w.heap.size + 1) [.string t, .int .i64 q, .bool false] ∧ Bk (((w.alloc (.cells #[.string ⟨#[]⟩, .int .i64 p, .bool false] 24)).alloc (.cells #[.string t, .int .i64 q, .bool false] 24)).alloc (.cells #[.string ⟨#[]⟩, .int .i64 0, .bool false] 24)) (w.heap.size + 1 + 1) [.string ⟨#[]⟩, .int .i64 0, .bool false] ∧ Below w.heap.size w (((w.alloc (.cells #[.string ⟨#[]⟩, .int .i64 p, .bool false] 24)).alloc (.cells #[.string t, .int .i64 q, .bool false] 24)).alloc (.cells #[.string ⟨#[]⟩, .int .i64 0, .bool false] 24))) := ⟨((Bk.new3 w (.string ⟨#[]⟩) (.int .i64 p) (.bool false) 24).step ((Below.refl _ _).alloc (Nat.le_refl _) _)).step ((Below.refl _ _).alloc (Nat.le_refl _) _), (((by have q := Bk.new3 (w.alloc (.cells #[.string ⟨#[]⟩, .int .i64 p, .bool false] 24)) (.string t) (.int .i64 q) (.bool false) 24; simpa using q) : Bk ((w.alloc (.cells #[.string ⟨#[]⟩, .int .i64 p, .bool false] 24)).alloc (.cells #[.string t, .int .i64 q, .bool false] 24)) (w.heap.size + 1) [.string t, .int .i64 q, .bool false])).step ((Below.refl _ _).alloc (Nat.le_refl _) _), ((by have q := Bk.new3 ((w.alloc (.cells #[.string ⟨#[]⟩, .int .i64 p, .bool false] 24)).alloc (.cells #[.string t, .int .i64 q, .bool false] 24)) (.string ⟨#[]⟩) (.int .i64 0) (.bool false) 24; simpa using q) : Bk (((w.alloc (.cells #[.string ⟨#[]⟩, .int .i64 p, .bool false] 24)).alloc (.cells #[.string t, .int .i64 q, .bool false] 24)).alloc (.cells #[.string ⟨#[]⟩, .int .i64 0, .bool false] 24)) (w.heap.size + 1 + 1) [.string ⟨#[]⟩, .int .i64 0, .bool false]), ((((Below.refl w.heap.size w)).alloc (Nat.le_refl _) _).alloc ((((Below.refl w.heap.size w)).alloc (Nat.le_refl _) _).size) _).alloc (((((Below.refl w.heap.size w)).alloc (Nat.le_refl _) _).alloc ((((Below.refl w.heap.size w)).alloc (Nat.le_refl _) _).size) _).size) _⟩
 go_enter Tryz.func17, Tryz.ntmps17
 go_upto_region 1 with fail
 generalize (((w.alloc (.cells #[.string ⟨#[]⟩, .int .i64 p, .bool false] 24)).alloc (.cells #[.string t, .int .i64 q, .bool false] 24)).alloc (.cells #[.string ⟨#[]⟩, .int .i64 0, .bool false] 24)) = w1 at *
 have l1_0 := F0.out.1.lt
 have a1_0_0 := F0.out.1.cell 0 _ rfl
 have f1_0_0 := F0.out.1.fz 0
 have a1_0_1 := F0.out.1.cell 1 _ rfl
 have f1_0_1 := F0.out.1.fz 1
 have a1_0_2 := F0.out.1.cell 2 _ rfl
 have f1_0_2 := F0.out.1.fz 2
 have l1_1 := F0.out.2.1.lt
 have a1_1_0 := F0.out.2.1.cell 0 _ rfl
 have f1_1_0 := F0.out.2.1.fz 0
 have a1_1_1 := F0.out.2.1.cell 1 _ rfl
 have f1_1_1 := F0.out.2.1.fz 1
 have a1_1_2 := F0.out.2.1.cell 2 _ rfl
 have f1_1_2 := F0.out.2.1.fz 2
 have l1_2 := F0.out.2.2.1.lt
 have a1_2_0 := F0.out.2.2.1.cell 0 _ rfl
 have f1_2_0 := F0.out.2.2.1.fz 0
 have a1_2_1 := F0.out.2.2.1.cell 1 _ rfl
 have f1_2_1 := F0.out.2.2.1.fz 1
 have a1_2_2 := F0.out.2.2.1.cell 2 _ rfl
 have f1_2_2 := F0.out.2.2.1.fz 2
 have ne1_0_1 : ¬ w.heap.size = w.heap.size + 1 := by omega
 have ne1_0_2 : ¬ w.heap.size = w.heap.size + 1 + 1 := by omega
 have ne1_1_0 : ¬ w.heap.size + 1 = w.heap.size := by omega
 have ne1_1_2 : ¬ w.heap.size + 1 = w.heap.size + 1 + 1 := by omega
 have ne1_2_0 : ¬ w.heap.size + 1 + 1 = w.heap.size := by omega
 have ne1_2_1 : ¬ w.heap.size + 1 + 1 = w.heap.size + 1 := by omega
 go_wp2_with fail
 all_goals first | (exfalso; omega) | skip
 refine (H1 _).mono ?_
 rintro o2 w2 ⟨rfl, bb⟩
 have F1 : Hid (Bk w2 (w.heap.size) [.string ⟨#[]⟩, .int .i64 p, .bool false] ∧ Bk w2 (w.heap.size + 1) [.string t, .int .i64 q, .bool false] ∧ Bk w2 (w.heap.size + 1 + 1) [.string ⟨#[]⟩, .int .i64 0, .bool false] ∧ Below w.heap.size w w2) := ⟨(F0.out.1).step bb, (F0.out.2.1).step bb, (F0.out.2.2.1).step bb, (F0.out.2.2.2).trans (bb.mono (F0.out.2.2.2).size)⟩
 clear F0
 clear bb
 clear l1_0 a1_0_0 f1_0_0 a1_0_1 f1_0_1 a1_0_2 f1_0_2 l1_1 a1_1_0 f1_1_0 a1_1_1 f1_1_1 a1_1_2 f1_1_2 l1_2 a1_2_0 f1_2_0 a1_2_1 f1_2_1 a1_2_2 f1_2_2
 have l2_0 := F1.out.1.lt
 have a2_0_0 := F1.out.1.cell 0 _ rfl
 have f2_0_0 := F1.out.1.fz 0
 have a2_0_1 := F1.out.1.cell 1 _ rfl
 have f2_0_1 := F1.out.1.fz 1
 have a2_0_2 := F1.out.1.cell 2 _ rfl
 have f2_0_2 := F1.out.1.fz 2
 have l2_1 := F1.out.2.1.lt
 have a2_1_0 := F1.out.2.1.cell 0 _ rfl
 have f2_1_0 := F1.out.2.1.fz 0
 have a2_1_1 := F1.out.2.1.cell 1 _ rfl
 have f2_1_1 := F1.out.2.1.fz 1
 have a2_1_2 := F1.out.2.1.cell 2 _ rfl
 have f2_1_2 := F1.out.2.1.fz 2
 have l2_2 := F1.out.2.2.1.lt
 have a2_2_0 := F1.out.2.2.1.cell 0 _ rfl
 have f2_2_0 := F1.out.2.2.1.fz 0
 have a2_2_1 := F1.out.2.2.1.cell 1 _ rfl
 have f2_2_1 := F1.out.2.2.1.fz 1
 have a2_2_2 := F1.out.2.2.1.cell 2 _ rfl
 have f2_2_2 := F1.out.2.2.1.fz 2
 have ne2_0_1 : ¬ w.heap.size = w.heap.size + 1 := by omega
 have ne2_0_2 : ¬ w.heap.size = w.heap.size + 1 + 1 := by omega
 have ne2_1_0 : ¬ w.heap.size + 1 = w.heap.size := by omega
 have ne2_1_2 : ¬ w.heap.size + 1 = w.heap.size + 1 + 1 := by omega
 have ne2_2_0 : ¬ w.heap.size + 1 + 1 = w.heap.size := by omega
 have ne2_2_1 : ¬ w.heap.size + 1 + 1 = w.heap.size + 1 := by omega
 go_wp2_with fail
 all_goals first | (exfalso; omega) | skip
 refine (H2 _).mono ?_
 rintro o3 w3 ⟨rfl, bb⟩
 have F2 : Hid (Bk w3 (w.heap.size) [.string ⟨#[]⟩, .int .i64 p, .bool false] ∧ Bk w3 (w.heap.size + 1) [.string t, .int .i64 q, .bool false] ∧ Bk w3 (w.heap.size + 1 + 1) [.string ⟨#[]⟩, .int .i64 0, .bool false] ∧ Below w.heap.size w w3) := ⟨(F1.out.1).step bb, (F1.out.2.1).step bb, (F1.out.2.2.1).step bb, (F1.out.2.2.2).trans (bb.mono (F1.out.2.2.2).size)⟩
 clear F1
 clear bb
 clear l2_0 a2_0_0 f2_0_0 a2_0_1 f2_0_1 a2_0_2 f2_0_2 l2_1 a2_1_0 f2_1_0 a2_1_1 f2_1_1 a2_1_2 f2_1_2 l2_2 a2_2_0 f2_2_0 a2_2_1 f2_2_1 a2_2_2 f2_2_2
 have l3_0 := F2.out.1.lt
 have a3_0_0 := F2.out.1.cell 0 _ rfl
 have f3_0_0 := F2.out.1.fz 0
 have a3_0_1 := F2.out.1.cell 1 _ rfl
 have f3_0_1 := F2.out.1.fz 1
 have a3_0_2 := F2.out.1.cell 2 _ rfl
 have f3_0_2 := F2.out.1.fz 2
 have l3_1 := F2.out.2.1.lt
 have a3_1_0 := F2.out.2.1.cell 0 _ rfl
 have f3_1_0 := F2.out.2.1.fz 0
 have a3_1_1 := F2.out.2.1.cell 1 _ rfl
 have f3_1_1 := F2.out.2.1.fz 1
 have a3_1_2 := F2.out.2.1.cell 2 _ rfl
 have f3_1_2 := F2.out.2.1.fz 2
 have l3_2 := F2.out.2.2.1.lt
 have a3_2_0 := F2.out.2.2.1.cell 0 _ rfl
 have f3_2_0 := F2.out.2.2.1.fz 0
 have a3_2_1 := F2.out.2.2.1.cell 1 _ rfl
 have f3_2_1 := F2.out.2.2.1.fz 1
 have a3_2_2 := F2.out.2.2.1.cell 2 _ rfl
 have f3_2_2 := F2.out.2.2.1.fz 2
 have ne3_0_1 : ¬ w.heap.size = w.heap.size + 1 := by omega
 have ne3_0_2 : ¬ w.heap.size = w.heap.size + 1 + 1 := by omega
 have ne3_1_0 : ¬ w.heap.size + 1 = w.heap.size := by omega
 have ne3_1_2 : ¬ w.heap.size + 1 = w.heap.size + 1 + 1 := by omega
 have ne3_2_0 : ¬ w.heap.size + 1 + 1 = w.heap.size := by omega
 have ne3_2_1 : ¬ w.heap.size + 1 + 1 = w.heap.size + 1 := by omega
 go_wp2_with fail
 all_goals first | (exfalso; omega) | skip
 refine (HC _).mono ?_
 rintro o4 w4 ⟨rfl, bb⟩
 have F3 : Hid (Bk w4 (w.heap.size) [.string ⟨#[]⟩, .int .i64 p, .bool false] ∧ Bk w4 (w.heap.size + 1) [.string t, .int .i64 q, .bool false] ∧ Bk w4 (w.heap.size + 1 + 1) [.string ⟨#[]⟩, .int .i64 0, .bool false] ∧ Below w.heap.size w w4) := ⟨(F2.out.1).step bb, (F2.out.2.1).step bb, (F2.out.2.2.1).step bb, (F2.out.2.2.2).trans (bb.mono (F2.out.2.2.2).size)⟩
 clear F2
 clear bb
 clear l3_0 a3_0_0 f3_0_0 a3_0_1 f3_0_1 a3_0_2 f3_0_2 l3_1 a3_1_0 f3_1_0 a3_1_1 f3_1_1 a3_1_2 f3_1_2 l3_2 a3_2_0 f3_2_0 a3_2_1 f3_2_1 a3_2_2 f3_2_2
 have l4_0 := F3.out.1.lt
 have a4_0_0 := F3.out.1.cell 0 _ rfl
 have f4_0_0 := F3.out.1.fz 0
 have a4_0_1 := F3.out.1.cell 1 _ rfl
 have f4_0_1 := F3.out.1.fz 1
 have a4_0_2 := F3.out.1.cell 2 _ rfl
 have f4_0_2 := F3.out.1.fz 2
 have l4_1 := F3.out.2.1.lt
 have a4_1_0 := F3.out.2.1.cell 0 _ rfl
 have f4_1_0 := F3.out.2.1.fz 0
 have a4_1_1 := F3.out.2.1.cell 1 _ rfl
 have f4_1_1 := F3.out.2.1.fz 1
 have a4_1_2 := F3.out.2.1.cell 2 _ rfl
 have f4_1_2 := F3.out.2.1.fz 2
 have l4_2 := F3.out.2.2.1.lt
 have a4_2_0 := F3.out.2.2.1.cell 0 _ rfl
 have f4_2_0 := F3.out.2.2.1.fz 0
 have a4_2_1 := F3.out.2.2.1.cell 1 _ rfl
 have f4_2_1 := F3.out.2.2.1.fz 1
 have a4_2_2 := F3.out.2.2.1.cell 2 _ rfl
 have f4_2_2 := F3.out.2.2.1.fz 2
 have ne4_0_1 : ¬ w.heap.size = w.heap.size + 1 := by omega
 have ne4_0_2 : ¬ w.heap.size = w.heap.size + 1 + 1 := by omega
 have ne4_1_0 : ¬ w.heap.size + 1 = w.heap.size := by omega
 have ne4_1_2 : ¬ w.heap.size + 1 = w.heap.size + 1 + 1 := by omega
 have ne4_2_0 : ¬ w.heap.size + 1 + 1 = w.heap.size := by omega
 have ne4_2_1 : ¬ w.heap.size + 1 + 1 = w.heap.size + 1 := by omega
 go_wp2
 refine bodyPost_ret (v := .tuple #[.agg #[.string ⟨#[]⟩, .int .i64 0, .bool false], .int .i64 1]) (by simp [results, Tryz.results17, go_sem, World.cell?_setCell_same, World.cell?_setCell_other, *]) rfl ⟨rfl, ?_⟩
 repeat (first | refine Below.setCell ?_ (by first | exact Nat.le_refl _ | (dsimp only; omega)) _ | refine Below.alloc ?_ (by first | exact Nat.le_refl _ | omega | (simp; omega)) _ | refine Below.drew ?_)
 exact F3.out.2.2.2
theorem rse_zero {t : ByteArray} {p q r : Int} (q1 : ¬ 0 ≤ r) (H1 : ∀ W, Calls Tryz.prog 19 #[.agg #[.string ⟨#[]⟩, .int .i64 p, .bool false]] W fun e w' => e = .returned (.int .i64 0) ∧ Below W.heap.size W w') (H2 : ∀ W, Calls Tryz.prog 19 #[.agg #[.string t, .int .i64 q, .bool false]] W fun e w' => e = .returned (.int .i64 0) ∧ Below W.heap.size W w') (HC : ∀ W, Calls Tryz.prog 23 #[.agg #[.string ⟨#[]⟩, .int .i64 p, .bool false], .agg #[.string t, .int .i64 q, .bool false]] W fun e w' => e = .returned (.tuple #[.int .i64 r, .int .i64 0]) ∧ Below W.heap.size W w') (w : World) :
 Calls Tryz.prog 17 #[.agg #[.string ⟨#[]⟩, .int .i64 p, .bool false], .agg #[.string t, .int .i64 q, .bool false], .bool true] w fun x w' => x = .returned (.tuple #[.agg #[.string ⟨#[]⟩, .int .i64 0, .bool false], .int .i64 0]) ∧ Below w.heap.size w w' := by
 have F0 : Hid (Bk (((w.alloc (.cells #[.string ⟨#[]⟩, .int .i64 p, .bool false] 24)).alloc (.cells #[.string t, .int .i64 q, .bool false] 24)).alloc (.cells #[.string ⟨#[]⟩, .int .i64 0, .bool false] 24)) (w.heap.size) [.string ⟨#[]⟩, .int .i64 p, .bool false] ∧ Bk (((w.alloc (.cells #[.string ⟨#[]⟩, .int .i64 p, .bool false] 24)).alloc (.cells #[.string t, .int .i64 q, .bool false] 24)).alloc (.cells #[.string ⟨#[]⟩, .int .i64 0, .bool false] 24)) (w.heap.size + 1) [.string t, .int .i64 q, .bool false] ∧ Bk (((w.alloc (.cells #[.string ⟨#[]⟩, .int .i64 p, .bool false] 24)).alloc (.cells #[.string t, .int .i64 q, .bool false] 24)).alloc (.cells #[.string ⟨#[]⟩, .int .i64 0, .bool false] 24)) (w.heap.size + 1 + 1) [.string ⟨#[]⟩, .int .i64 0, .bool false] ∧ Below w.heap.size w (((w.alloc (.cells #[.string ⟨#[]⟩, .int .i64 p, .bool false] 24)).alloc (.cells #[.string t, .int .i64 q, .bool false] 24)).alloc (.cells #[.string ⟨#[]⟩, .int .i64 0, .bool false] 24))) := ⟨((Bk.new3 w (.string ⟨#[]⟩) (.int .i64 p) (.bool false) 24).step ((Below.refl _ _).alloc (Nat.le_refl _) _)).step ((Below.refl _ _).alloc (Nat.le_refl _) _), (((by have q := Bk.new3 (w.alloc (.cells #[.string ⟨#[]⟩, .int .i64 p, .bool false] 24)) (.string t) (.int .i64 q) (.bool false) 24; simpa using q) : Bk ((w.alloc (.cells #[.string ⟨#[]⟩, .int .i64 p, .bool false] 24)).alloc (.cells #[.string t, .int .i64 q, .bool false] 24)) (w.heap.size + 1) [.string t, .int .i64 q, .bool false])).step ((Below.refl _ _).alloc (Nat.le_refl _) _), ((by have q := Bk.new3 ((w.alloc (.cells #[.string ⟨#[]⟩, .int .i64 p, .bool false] 24)).alloc (.cells #[.string t, .int .i64 q, .bool false] 24)) (.string ⟨#[]⟩) (.int .i64 0) (.bool false) 24; simpa using q) : Bk (((w.alloc (.cells #[.string ⟨#[]⟩, .int .i64 p, .bool false] 24)).alloc (.cells #[.string t, .int .i64 q, .bool false] 24)).alloc (.cells #[.string ⟨#[]⟩, .int .i64 0, .bool false] 24)) (w.heap.size + 1 + 1) [.string ⟨#[]⟩, .int .i64 0, .bool false]), ((((Below.refl w.heap.size w)).alloc (Nat.le_refl _) _).alloc ((((Below.refl w.heap.size w)).alloc (Nat.le_refl _) _).size) _).alloc (((((Below.refl w.heap.size w)).alloc (Nat.le_refl _) _).alloc ((((Below.refl w.heap.size w)).alloc (Nat.le_refl _) _).size) _).size) _⟩
 go_enter Tryz.func17, Tryz.ntmps17
 go_upto_region 1 with fail
 generalize (((w.alloc (.cells #[.string ⟨#[]⟩, .int .i64 p, .bool false] 24)).alloc (.cells #[.string t, .int .i64 q, .bool false] 24)).alloc (.cells #[.string ⟨#[]⟩, .int .i64 0, .bool false] 24)) = w1 at *
 have l1_0 := F0.out.1.lt
 have a1_0_0 := F0.out.1.cell 0 _ rfl
 have f1_0_0 := F0.out.1.fz 0
 have a1_0_1 := F0.out.1.cell 1 _ rfl
 have f1_0_1 := F0.out.1.fz 1
 have a1_0_2 := F0.out.1.cell 2 _ rfl
 have f1_0_2 := F0.out.1.fz 2
 have l1_1 := F0.out.2.1.lt
 have a1_1_0 := F0.out.2.1.cell 0 _ rfl
 have f1_1_0 := F0.out.2.1.fz 0
 have a1_1_1 := F0.out.2.1.cell 1 _ rfl
 have f1_1_1 := F0.out.2.1.fz 1
 have a1_1_2 := F0.out.2.1.cell 2 _ rfl
 have f1_1_2 := F0.out.2.1.fz 2
 have l1_2 := F0.out.2.2.1.lt
 have a1_2_0 := F0.out.2.2.1.cell 0 _ rfl
 have f1_2_0 := F0.out.2.2.1.fz 0
 have a1_2_1 := F0.out.2.2.1.cell 1 _ rfl
 have f1_2_1 := F0.out.2.2.1.fz 1
 have a1_2_2 := F0.out.2.2.1.cell 2 _ rfl
 have f1_2_2 := F0.out.2.2.1.fz 2
 have ne1_0_1 : ¬ w.heap.size = w.heap.size + 1 := by omega
 have ne1_0_2 : ¬ w.heap.size = w.heap.size + 1 + 1 := by omega
 have ne1_1_0 : ¬ w.heap.size + 1 = w.heap.size := by omega
 have ne1_1_2 : ¬ w.heap.size + 1 = w.heap.size + 1 + 1 := by omega
 have ne1_2_0 : ¬ w.heap.size + 1 + 1 = w.heap.size := by omega
 have ne1_2_1 : ¬ w.heap.size + 1 + 1 = w.heap.size + 1 := by omega
 go_wp2_with fail
 all_goals first | (exfalso; omega) | skip
 refine (H1 _).mono ?_
 rintro o2 w2 ⟨rfl, bb⟩
 have F1 : Hid (Bk w2 (w.heap.size) [.string ⟨#[]⟩, .int .i64 p, .bool false] ∧ Bk w2 (w.heap.size + 1) [.string t, .int .i64 q, .bool false] ∧ Bk w2 (w.heap.size + 1 + 1) [.string ⟨#[]⟩, .int .i64 0, .bool false] ∧ Below w.heap.size w w2) := ⟨(F0.out.1).step bb, (F0.out.2.1).step bb, (F0.out.2.2.1).step bb, (F0.out.2.2.2).trans (bb.mono (F0.out.2.2.2).size)⟩
 clear F0
 clear bb
 clear l1_0 a1_0_0 f1_0_0 a1_0_1 f1_0_1 a1_0_2 f1_0_2 l1_1 a1_1_0 f1_1_0 a1_1_1 f1_1_1 a1_1_2 f1_1_2 l1_2 a1_2_0 f1_2_0 a1_2_1 f1_2_1 a1_2_2 f1_2_2
 have l2_0 := F1.out.1.lt
 have a2_0_0 := F1.out.1.cell 0 _ rfl
 have f2_0_0 := F1.out.1.fz 0
 have a2_0_1 := F1.out.1.cell 1 _ rfl
 have f2_0_1 := F1.out.1.fz 1
 have a2_0_2 := F1.out.1.cell 2 _ rfl
 have f2_0_2 := F1.out.1.fz 2
 have l2_1 := F1.out.2.1.lt
 have a2_1_0 := F1.out.2.1.cell 0 _ rfl
 have f2_1_0 := F1.out.2.1.fz 0
 have a2_1_1 := F1.out.2.1.cell 1 _ rfl
 have f2_1_1 := F1.out.2.1.fz 1
 have a2_1_2 := F1.out.2.1.cell 2 _ rfl
 have f2_1_2 := F1.out.2.1.fz 2
 have l2_2 := F1.out.2.2.1.lt
 have a2_2_0 := F1.out.2.2.1.cell 0 _ rfl
 have f2_2_0 := F1.out.2.2.1.fz 0
 have a2_2_1 := F1.out.2.2.1.cell 1 _ rfl
 have f2_2_1 := F1.out.2.2.1.fz 1
 have a2_2_2 := F1.out.2.2.1.cell 2 _ rfl
 have f2_2_2 := F1.out.2.2.1.fz 2
 have ne2_0_1 : ¬ w.heap.size = w.heap.size + 1 := by omega
 have ne2_0_2 : ¬ w.heap.size = w.heap.size + 1 + 1 := by omega
 have ne2_1_0 : ¬ w.heap.size + 1 = w.heap.size := by omega
 have ne2_1_2 : ¬ w.heap.size + 1 = w.heap.size + 1 + 1 := by omega
 have ne2_2_0 : ¬ w.heap.size + 1 + 1 = w.heap.size := by omega
 have ne2_2_1 : ¬ w.heap.size + 1 + 1 = w.heap.size + 1 := by omega
 go_wp2_with fail
 all_goals first | (exfalso; omega) | skip
 refine (H2 _).mono ?_
 rintro o3 w3 ⟨rfl, bb⟩
 have F2 : Hid (Bk w3 (w.heap.size) [.string ⟨#[]⟩, .int .i64 p, .bool false] ∧ Bk w3 (w.heap.size + 1) [.string t, .int .i64 q, .bool false] ∧ Bk w3 (w.heap.size + 1 + 1) [.string ⟨#[]⟩, .int .i64 0, .bool false] ∧ Below w.heap.size w w3) := ⟨(F1.out.1).step bb, (F1.out.2.1).step bb, (F1.out.2.2.1).step bb, (F1.out.2.2.2).trans (bb.mono (F1.out.2.2.2).size)⟩
 clear F1
 clear bb
 clear l2_0 a2_0_0 f2_0_0 a2_0_1 f2_0_1 a2_0_2 f2_0_2 l2_1 a2_1_0 f2_1_0 a2_1_1 f2_1_1 a2_1_2 f2_1_2 l2_2 a2_2_0 f2_2_0 a2_2_1 f2_2_1 a2_2_2 f2_2_2
 have l3_0 := F2.out.1.lt
 have a3_0_0 := F2.out.1.cell 0 _ rfl
 have f3_0_0 := F2.out.1.fz 0
 have a3_0_1 := F2.out.1.cell 1 _ rfl
 have f3_0_1 := F2.out.1.fz 1
 have a3_0_2 := F2.out.1.cell 2 _ rfl
 have f3_0_2 := F2.out.1.fz 2
 have l3_1 := F2.out.2.1.lt
 have a3_1_0 := F2.out.2.1.cell 0 _ rfl
 have f3_1_0 := F2.out.2.1.fz 0
 have a3_1_1 := F2.out.2.1.cell 1 _ rfl
 have f3_1_1 := F2.out.2.1.fz 1
 have a3_1_2 := F2.out.2.1.cell 2 _ rfl
 have f3_1_2 := F2.out.2.1.fz 2
 have l3_2 := F2.out.2.2.1.lt
 have a3_2_0 := F2.out.2.2.1.cell 0 _ rfl
 have f3_2_0 := F2.out.2.2.1.fz 0
 have a3_2_1 := F2.out.2.2.1.cell 1 _ rfl
 have f3_2_1 := F2.out.2.2.1.fz 1
 have a3_2_2 := F2.out.2.2.1.cell 2 _ rfl
 have f3_2_2 := F2.out.2.2.1.fz 2
 have ne3_0_1 : ¬ w.heap.size = w.heap.size + 1 := by omega
 have ne3_0_2 : ¬ w.heap.size = w.heap.size + 1 + 1 := by omega
 have ne3_1_0 : ¬ w.heap.size + 1 = w.heap.size := by omega
 have ne3_1_2 : ¬ w.heap.size + 1 = w.heap.size + 1 + 1 := by omega
 have ne3_2_0 : ¬ w.heap.size + 1 + 1 = w.heap.size := by omega
 have ne3_2_1 : ¬ w.heap.size + 1 + 1 = w.heap.size + 1 := by omega
 go_wp2_with fail
 all_goals first | (exfalso; omega) | skip
 refine (HC _).mono ?_
 rintro o4 w4 ⟨rfl, bb⟩
 have F3 : Hid (Bk w4 (w.heap.size) [.string ⟨#[]⟩, .int .i64 p, .bool false] ∧ Bk w4 (w.heap.size + 1) [.string t, .int .i64 q, .bool false] ∧ Bk w4 (w.heap.size + 1 + 1) [.string ⟨#[]⟩, .int .i64 0, .bool false] ∧ Below w.heap.size w w4) := ⟨(F2.out.1).step bb, (F2.out.2.1).step bb, (F2.out.2.2.1).step bb, (F2.out.2.2.2).trans (bb.mono (F2.out.2.2.2).size)⟩
 clear F2
 clear bb
 clear l3_0 a3_0_0 f3_0_0 a3_0_1 f3_0_1 a3_0_2 f3_0_2 l3_1 a3_1_0 f3_1_0 a3_1_1 f3_1_1 a3_1_2 f3_1_2 l3_2 a3_2_0 f3_2_0 a3_2_1 f3_2_1 a3_2_2 f3_2_2
 have l4_0 := F3.out.1.lt
 have a4_0_0 := F3.out.1.cell 0 _ rfl
 have f4_0_0 := F3.out.1.fz 0
 have a4_0_1 := F3.out.1.cell 1 _ rfl
 have f4_0_1 := F3.out.1.fz 1
 have a4_0_2 := F3.out.1.cell 2 _ rfl
 have f4_0_2 := F3.out.1.fz 2
 have l4_1 := F3.out.2.1.lt
 have a4_1_0 := F3.out.2.1.cell 0 _ rfl
 have f4_1_0 := F3.out.2.1.fz 0
 have a4_1_1 := F3.out.2.1.cell 1 _ rfl
 have f4_1_1 := F3.out.2.1.fz 1
 have a4_1_2 := F3.out.2.1.cell 2 _ rfl
 have f4_1_2 := F3.out.2.1.fz 2
 have l4_2 := F3.out.2.2.1.lt
 have a4_2_0 := F3.out.2.2.1.cell 0 _ rfl
 have f4_2_0 := F3.out.2.2.1.fz 0
 have a4_2_1 := F3.out.2.2.1.cell 1 _ rfl
 have f4_2_1 := F3.out.2.2.1.fz 1
 have a4_2_2 := F3.out.2.2.1.cell 2 _ rfl
 have f4_2_2 := F3.out.2.2.1.fz 2
 have ne4_0_1 : ¬ w.heap.size = w.heap.size + 1 := by omega
 have ne4_0_2 : ¬ w.heap.size = w.heap.size + 1 + 1 := by omega
 have ne4_1_0 : ¬ w.heap.size + 1 = w.heap.size := by omega
 have ne4_1_2 : ¬ w.heap.size + 1 = w.heap.size + 1 + 1 := by omega
 have ne4_2_0 : ¬ w.heap.size + 1 + 1 = w.heap.size := by omega
 have ne4_2_1 : ¬ w.heap.size + 1 + 1 = w.heap.size + 1 := by omega
 go_wp2
 refine bodyPost_ret (v := .tuple #[.agg #[.string ⟨#[]⟩, .int .i64 0, .bool false], .int .i64 0]) (by simp [results, Tryz.results17, go_sem, World.cell?_setCell_same, World.cell?_setCell_other, *]) rfl ⟨rfl, ?_⟩
 repeat (first | refine Below.setCell ?_ (by first | exact Nat.le_refl _ | (dsimp only; omega)) _ | refine Below.alloc ?_ (by first | exact Nat.le_refl _ | omega | (simp; omega)) _ | refine Below.drew ?_)
 exact F3.out.2.2.2
def stS (c : Bool) (s : ByteArray) (p : Int) (U : Dp) (k : Int) (n : Nat) : Option Dp := if c = true ∧ s.size ≤ n then some (s, p) else if 0 < U.1.size ∧ U.2 ≤ 1099511627776 ∧ (k < 0 ∨ (k = 0 ∧ c = true)) then some U else none
def ansD (R : Option Dp) : Value := match R with
 | some d => .tuple #[dcV d.1 d.2 false, .int .i64 0]
 | none => .tuple #[dcV ⟨#[]⟩ 0 false, .int .i64 4]
theorem first_step {f : Nat → Option Dp} {n g : Nat} {R : Option Dp} (h : firstF f n (g + 1) = R) {r : Option Dp} (e : f n = r) : (∀ d, r = some d → R = some d) ∧ (r = none → firstF f (n + 1) g = R) := by
 unfold firstF at h
 rw [e] at h
 constructor
 · rintro d rfl
   exact h.symm
 · rintro rfl
   exact h
theorem stS_self {c : Bool} {s : ByteArray} {p : Int} {U : Dp} {k : Int} {n : Nat} (h : c = true ∧ s.size ≤ n) : stS c s p U k n = some (s, p) := if_pos h
theorem stS_some {c : Bool} {s : ByteArray} {p : Int} {U : Dp} {k : Int} {n : Nat} (h : ¬ (c = true ∧ s.size ≤ n)) (h2 : 0 < U.1.size ∧ U.2 ≤ 1099511627776 ∧ (k < 0 ∨ (k = 0 ∧ c = true))) : stS c s p U k n = some U := (if_neg h).trans (if_pos h2)
theorem stS_none {c : Bool} {s : ByteArray} {p : Int} {U : Dp} {k : Int} {n : Nat} (h : ¬ (c = true ∧ s.size ≤ n)) (h2 : ¬ (0 < U.1.size ∧ U.2 ≤ 1099511627776 ∧ (k < 0 ∨ (k = 0 ∧ c = true)))) : stS c s p U k n = none := (if_neg h).trans (if_neg h2)
theorem rse_loop {s t : ByteArray} {p q r : Int} {c : Bool} {f : Nat → Option Dp} {dd ru U : Nat → Dp} {kk ee : Nat → Int} (h0 : 0 < s.size) (q1 : ¬ 0 ≤ r) (H1 : ∀ W, Calls Tryz.prog 19 #[.agg #[.string s, .int .i64 p, .bool false]] W fun e w' => e = .returned (.int .i64 0) ∧ Below W.heap.size W w') (H2 : ∀ W, Calls Tryz.prog 19 #[.agg #[.string t, .int .i64 q, .bool false]] W fun e w' => e = .returned (.int .i64 0) ∧ Below W.heap.size W w') (HC : ∀ W, Calls Tryz.prog 23 #[.agg #[.string s, .int .i64 p, .bool false], .agg #[.string t, .int .i64 q, .bool false]] W fun e w' => e = .returned (.tuple #[.int .i64 r, .int .i64 0]) ∧ Below W.heap.size W w') (HR : ∀ n : Nat, 1 ≤ n → n ≤ 800 → ∀ W, Calls Tryz.prog 34 #[.agg #[.string s, .int .i64 p, .bool false], .int .i64 (n : Int)] W fun e w' => e = .returned (.tuple #[dcV (dd n).1 (dd n).2 false, dcV (ru n).1 (ru n).2 false]) ∧ Below W.heap.size W w') (hru : ∀ n : Nat, 1 ≤ n → n < s.size → ru n = U n) (HA : ∀ n : Nat, s.size ≤ n → n ≤ 800 → ∀ W, Calls Tryz.prog 35 #[.agg #[.string s, .int .i64 p, .bool false], .int .i64 (n : Int)] W fun e w' => e = .returned (dcV (U n).1 (U n).2 false) ∧ Below W.heap.size W w') (HD : ∀ n : Nat, 1 ≤ n → n ≤ 800 → ∀ W, Calls Tryz.prog 23 #[dcV (U n).1 (U n).2 false, .agg #[.string t, .int .i64 q, .bool false]] W fun e w' => e = .returned (.tuple #[.int .i64 (kk n), .int .i64 (ee n)]) ∧ Below W.heap.size W w') (Hf : ∀ n : Nat, 1 ≤ n → n ≤ 800 → f n = stS c s p (U n) (kk n) n) (w : World) :
    Calls Tryz.prog 17 #[.agg #[.string s, .int .i64 p, .bool false], .agg #[.string t, .int .i64 q, .bool false], .bool c] w fun x w' => x = .returned (ansD (firstF f 1 800)) ∧ Below w.heap.size w w' := by
  have he : s.toList.isEmpty = false := empty_false h0
  obtain ⟨R, hR⟩ : ∃ R, R = firstF f 1 800 := ⟨_, rfl⟩
  rw [← hR]
  have HR0 : Hid (firstF f 1 800 = R) := hR.symm
  have HQ : Hid ((∀ n : Nat, 1 ≤ n → n ≤ 800 → ∀ W, Calls Tryz.prog 34 #[.agg #[.string s, .int .i64 p, .bool false], .int .i64 (n : Int)] W fun e w' => e = .returned (.tuple #[dcV (dd n).1 (dd n).2 false, dcV (ru n).1 (ru n).2 false]) ∧ Below W.heap.size W w') ∧ (∀ n : Nat, 1 ≤ n → n < s.size → ru n = U n) ∧ (∀ n : Nat, s.size ≤ n → n ≤ 800 → ∀ W, Calls Tryz.prog 35 #[.agg #[.string s, .int .i64 p, .bool false], .int .i64 (n : Int)] W fun e w' => e = .returned (dcV (U n).1 (U n).2 false) ∧ Below W.heap.size W w') ∧ (∀ n : Nat, 1 ≤ n → n ≤ 800 → ∀ W, Calls Tryz.prog 23 #[dcV (U n).1 (U n).2 false, .agg #[.string t, .int .i64 q, .bool false]] W fun e w' => e = .returned (.tuple #[.int .i64 (kk n), .int .i64 (ee n)]) ∧ Below W.heap.size W w') ∧ (∀ n : Nat, 1 ≤ n → n ≤ 800 → f n = stS c s p (U n) (kk n) n)) := ⟨HR, hru, HA, HD, Hf⟩
  clear hR HR hru HA HD Hf
  have F0 : Hid (Bk (((w.alloc (.cells #[.string s, .int .i64 p, .bool false] 24)).alloc (.cells #[.string t, .int .i64 q, .bool false] 24)).alloc (.cells #[.string ⟨#[]⟩, .int .i64 0, .bool false] 24)) (w.heap.size) [.string s, .int .i64 p, .bool false] ∧ Bk (((w.alloc (.cells #[.string s, .int .i64 p, .bool false] 24)).alloc (.cells #[.string t, .int .i64 q, .bool false] 24)).alloc (.cells #[.string ⟨#[]⟩, .int .i64 0, .bool false] 24)) (w.heap.size + 1) [.string t, .int .i64 q, .bool false] ∧ Bk (((w.alloc (.cells #[.string s, .int .i64 p, .bool false] 24)).alloc (.cells #[.string t, .int .i64 q, .bool false] 24)).alloc (.cells #[.string ⟨#[]⟩, .int .i64 0, .bool false] 24)) (w.heap.size + 1 + 1) [.string ⟨#[]⟩, .int .i64 0, .bool false] ∧ Below w.heap.size w (((w.alloc (.cells #[.string s, .int .i64 p, .bool false] 24)).alloc (.cells #[.string t, .int .i64 q, .bool false] 24)).alloc (.cells #[.string ⟨#[]⟩, .int .i64 0, .bool false] 24))) := ⟨((Bk.new3 w (.string s) (.int .i64 p) (.bool false) 24).step ((Below.refl _ _).alloc (Nat.le_refl _) _)).step ((Below.refl _ _).alloc (Nat.le_refl _) _), (((by have q := Bk.new3 (w.alloc (.cells #[.string s, .int .i64 p, .bool false] 24)) (.string t) (.int .i64 q) (.bool false) 24; simpa using q) : Bk ((w.alloc (.cells #[.string s, .int .i64 p, .bool false] 24)).alloc (.cells #[.string t, .int .i64 q, .bool false] 24)) (w.heap.size + 1) [.string t, .int .i64 q, .bool false])).step ((Below.refl _ _).alloc (Nat.le_refl _) _), ((by have q := Bk.new3 ((w.alloc (.cells #[.string s, .int .i64 p, .bool false] 24)).alloc (.cells #[.string t, .int .i64 q, .bool false] 24)) (.string ⟨#[]⟩) (.int .i64 0) (.bool false) 24; simpa using q) : Bk (((w.alloc (.cells #[.string s, .int .i64 p, .bool false] 24)).alloc (.cells #[.string t, .int .i64 q, .bool false] 24)).alloc (.cells #[.string ⟨#[]⟩, .int .i64 0, .bool false] 24)) (w.heap.size + 1 + 1) [.string ⟨#[]⟩, .int .i64 0, .bool false]), ((((Below.refl w.heap.size w)).alloc (Nat.le_refl _) _).alloc ((((Below.refl w.heap.size w)).alloc (Nat.le_refl _) _).size) _).alloc (((((Below.refl w.heap.size w)).alloc (Nat.le_refl _) _).alloc ((((Below.refl w.heap.size w)).alloc (Nat.le_refl _) _).size) _).size) _⟩
  go_enter Tryz.func17, Tryz.ntmps17
  go_upto_region 1 with fail
  generalize (((w.alloc (.cells #[.string s, .int .i64 p, .bool false] 24)).alloc (.cells #[.string t, .int .i64 q, .bool false] 24)).alloc (.cells #[.string ⟨#[]⟩, .int .i64 0, .bool false] 24)) = w1 at *
  have l1_0 := F0.out.1.lt
  have a1_0_0 := F0.out.1.cell 0 _ rfl
  have f1_0_0 := F0.out.1.fz 0
  have a1_0_1 := F0.out.1.cell 1 _ rfl
  have f1_0_1 := F0.out.1.fz 1
  have a1_0_2 := F0.out.1.cell 2 _ rfl
  have f1_0_2 := F0.out.1.fz 2
  have l1_1 := F0.out.2.1.lt
  have a1_1_0 := F0.out.2.1.cell 0 _ rfl
  have f1_1_0 := F0.out.2.1.fz 0
  have a1_1_1 := F0.out.2.1.cell 1 _ rfl
  have f1_1_1 := F0.out.2.1.fz 1
  have a1_1_2 := F0.out.2.1.cell 2 _ rfl
  have f1_1_2 := F0.out.2.1.fz 2
  have l1_2 := F0.out.2.2.1.lt
  have a1_2_0 := F0.out.2.2.1.cell 0 _ rfl
  have f1_2_0 := F0.out.2.2.1.fz 0
  have a1_2_1 := F0.out.2.2.1.cell 1 _ rfl
  have f1_2_1 := F0.out.2.2.1.fz 1
  have a1_2_2 := F0.out.2.2.1.cell 2 _ rfl
  have f1_2_2 := F0.out.2.2.1.fz 2
  have ne1_0_1 : ¬ w.heap.size = w.heap.size + 1 := by omega
  have ne1_0_2 : ¬ w.heap.size = w.heap.size + 1 + 1 := by omega
  have ne1_1_0 : ¬ w.heap.size + 1 = w.heap.size := by omega
  have ne1_1_2 : ¬ w.heap.size + 1 = w.heap.size + 1 + 1 := by omega
  have ne1_2_0 : ¬ w.heap.size + 1 + 1 = w.heap.size := by omega
  have ne1_2_1 : ¬ w.heap.size + 1 + 1 = w.heap.size + 1 := by omega
  go_wp2_with fail
  all_goals first | (exfalso; omega) | skip
  refine (H1 _).mono ?_
  rintro o2 w2 ⟨rfl, bb⟩
  have F1 : Hid (Bk w2 (w.heap.size) [.string s, .int .i64 p, .bool false] ∧ Bk w2 (w.heap.size + 1) [.string t, .int .i64 q, .bool false] ∧ Bk w2 (w.heap.size + 1 + 1) [.string ⟨#[]⟩, .int .i64 0, .bool false] ∧ Below w.heap.size w w2) := ⟨(F0.out.1).step bb, (F0.out.2.1).step bb, (F0.out.2.2.1).step bb, (F0.out.2.2.2).trans (bb.mono (F0.out.2.2.2).size)⟩
  clear F0
  clear bb
  clear l1_0 a1_0_0 f1_0_0 a1_0_1 f1_0_1 a1_0_2 f1_0_2 l1_1 a1_1_0 f1_1_0 a1_1_1 f1_1_1 a1_1_2 f1_1_2 l1_2 a1_2_0 f1_2_0 a1_2_1 f1_2_1 a1_2_2 f1_2_2
  have l2_0 := F1.out.1.lt
  have a2_0_0 := F1.out.1.cell 0 _ rfl
  have f2_0_0 := F1.out.1.fz 0
  have a2_0_1 := F1.out.1.cell 1 _ rfl
  have f2_0_1 := F1.out.1.fz 1
  have a2_0_2 := F1.out.1.cell 2 _ rfl
  have f2_0_2 := F1.out.1.fz 2
  have l2_1 := F1.out.2.1.lt
  have a2_1_0 := F1.out.2.1.cell 0 _ rfl
  have f2_1_0 := F1.out.2.1.fz 0
  have a2_1_1 := F1.out.2.1.cell 1 _ rfl
  have f2_1_1 := F1.out.2.1.fz 1
  have a2_1_2 := F1.out.2.1.cell 2 _ rfl
  have f2_1_2 := F1.out.2.1.fz 2
  have l2_2 := F1.out.2.2.1.lt
  have a2_2_0 := F1.out.2.2.1.cell 0 _ rfl
  have f2_2_0 := F1.out.2.2.1.fz 0
  have a2_2_1 := F1.out.2.2.1.cell 1 _ rfl
  have f2_2_1 := F1.out.2.2.1.fz 1
  have a2_2_2 := F1.out.2.2.1.cell 2 _ rfl
  have f2_2_2 := F1.out.2.2.1.fz 2
  have ne2_0_1 : ¬ w.heap.size = w.heap.size + 1 := by omega
  have ne2_0_2 : ¬ w.heap.size = w.heap.size + 1 + 1 := by omega
  have ne2_1_0 : ¬ w.heap.size + 1 = w.heap.size := by omega
  have ne2_1_2 : ¬ w.heap.size + 1 = w.heap.size + 1 + 1 := by omega
  have ne2_2_0 : ¬ w.heap.size + 1 + 1 = w.heap.size := by omega
  have ne2_2_1 : ¬ w.heap.size + 1 + 1 = w.heap.size + 1 := by omega
  go_wp2_with fail
  all_goals first | (exfalso; omega) | skip
  refine (H2 _).mono ?_
  rintro o3 w3 ⟨rfl, bb⟩
  have F2 : Hid (Bk w3 (w.heap.size) [.string s, .int .i64 p, .bool false] ∧ Bk w3 (w.heap.size + 1) [.string t, .int .i64 q, .bool false] ∧ Bk w3 (w.heap.size + 1 + 1) [.string ⟨#[]⟩, .int .i64 0, .bool false] ∧ Below w.heap.size w w3) := ⟨(F1.out.1).step bb, (F1.out.2.1).step bb, (F1.out.2.2.1).step bb, (F1.out.2.2.2).trans (bb.mono (F1.out.2.2.2).size)⟩
  clear F1
  clear bb
  clear l2_0 a2_0_0 f2_0_0 a2_0_1 f2_0_1 a2_0_2 f2_0_2 l2_1 a2_1_0 f2_1_0 a2_1_1 f2_1_1 a2_1_2 f2_1_2 l2_2 a2_2_0 f2_2_0 a2_2_1 f2_2_1 a2_2_2 f2_2_2
  have l3_0 := F2.out.1.lt
  have a3_0_0 := F2.out.1.cell 0 _ rfl
  have f3_0_0 := F2.out.1.fz 0
  have a3_0_1 := F2.out.1.cell 1 _ rfl
  have f3_0_1 := F2.out.1.fz 1
  have a3_0_2 := F2.out.1.cell 2 _ rfl
  have f3_0_2 := F2.out.1.fz 2
  have l3_1 := F2.out.2.1.lt
  have a3_1_0 := F2.out.2.1.cell 0 _ rfl
  have f3_1_0 := F2.out.2.1.fz 0
  have a3_1_1 := F2.out.2.1.cell 1 _ rfl
  have f3_1_1 := F2.out.2.1.fz 1
  have a3_1_2 := F2.out.2.1.cell 2 _ rfl
  have f3_1_2 := F2.out.2.1.fz 2
  have l3_2 := F2.out.2.2.1.lt
  have a3_2_0 := F2.out.2.2.1.cell 0 _ rfl
  have f3_2_0 := F2.out.2.2.1.fz 0
  have a3_2_1 := F2.out.2.2.1.cell 1 _ rfl
  have f3_2_1 := F2.out.2.2.1.fz 1
  have a3_2_2 := F2.out.2.2.1.cell 2 _ rfl
  have f3_2_2 := F2.out.2.2.1.fz 2
  have ne3_0_1 : ¬ w.heap.size = w.heap.size + 1 := by omega
  have ne3_0_2 : ¬ w.heap.size = w.heap.size + 1 + 1 := by omega
  have ne3_1_0 : ¬ w.heap.size + 1 = w.heap.size := by omega
  have ne3_1_2 : ¬ w.heap.size + 1 = w.heap.size + 1 + 1 := by omega
  have ne3_2_0 : ¬ w.heap.size + 1 + 1 = w.heap.size := by omega
  have ne3_2_1 : ¬ w.heap.size + 1 + 1 = w.heap.size + 1 := by omega
  go_wp2_with fail
  all_goals first | (exfalso; omega) | skip
  refine (HC _).mono ?_
  rintro o4 w4 ⟨rfl, bb⟩
  have F3 : Hid (Bk w4 (w.heap.size) [.string s, .int .i64 p, .bool false] ∧ Bk w4 (w.heap.size + 1) [.string t, .int .i64 q, .bool false] ∧ Bk w4 (w.heap.size + 1 + 1) [.string ⟨#[]⟩, .int .i64 0, .bool false] ∧ Below w.heap.size w w4) := ⟨(F2.out.1).step bb, (F2.out.2.1).step bb, (F2.out.2.2.1).step bb, (F2.out.2.2.2).trans (bb.mono (F2.out.2.2.2).size)⟩
  clear F2
  clear bb
  clear l3_0 a3_0_0 f3_0_0 a3_0_1 f3_0_1 a3_0_2 f3_0_2 l3_1 a3_1_0 f3_1_0 a3_1_1 f3_1_1 a3_1_2 f3_1_2 l3_2 a3_2_0 f3_2_0 a3_2_1 f3_2_1 a3_2_2 f3_2_2
  have l4_0 := F3.out.1.lt
  have a4_0_0 := F3.out.1.cell 0 _ rfl
  have f4_0_0 := F3.out.1.fz 0
  have a4_0_1 := F3.out.1.cell 1 _ rfl
  have f4_0_1 := F3.out.1.fz 1
  have a4_0_2 := F3.out.1.cell 2 _ rfl
  have f4_0_2 := F3.out.1.fz 2
  have l4_1 := F3.out.2.1.lt
  have a4_1_0 := F3.out.2.1.cell 0 _ rfl
  have f4_1_0 := F3.out.2.1.fz 0
  have a4_1_1 := F3.out.2.1.cell 1 _ rfl
  have f4_1_1 := F3.out.2.1.fz 1
  have a4_1_2 := F3.out.2.1.cell 2 _ rfl
  have f4_1_2 := F3.out.2.1.fz 2
  have l4_2 := F3.out.2.2.1.lt
  have a4_2_0 := F3.out.2.2.1.cell 0 _ rfl
  have f4_2_0 := F3.out.2.2.1.fz 0
  have a4_2_1 := F3.out.2.2.1.cell 1 _ rfl
  have f4_2_1 := F3.out.2.2.1.fz 1
  have a4_2_2 := F3.out.2.2.1.cell 2 _ rfl
  have f4_2_2 := F3.out.2.2.1.fz 2
  have ne4_0_1 : ¬ w.heap.size = w.heap.size + 1 := by omega
  have ne4_0_2 : ¬ w.heap.size = w.heap.size + 1 + 1 := by omega
  have ne4_1_0 : ¬ w.heap.size + 1 = w.heap.size := by omega
  have ne4_1_2 : ¬ w.heap.size + 1 = w.heap.size + 1 + 1 := by omega
  have ne4_2_0 : ¬ w.heap.size + 1 + 1 = w.heap.size := by omega
  have ne4_2_1 : ¬ w.heap.size + 1 + 1 = w.heap.size + 1 := by omega
  go_wp2
  have IB : Hid (Bk w4 (w.heap.size) [.string s, .int .i64 p, .bool false] ∧ Bk w4 (w.heap.size + 1) [.string t, .int .i64 q, .bool false] ∧ Bk w4 (w.heap.size + 1 + 1) [.string ⟨#[]⟩, .int .i64 0, .bool false] ∧ Below w.heap.size w w4) := F3.out
  clear l4_0 a4_0_0 f4_0_0 a4_0_1 f4_0_1 a4_0_2 f4_0_2 l4_1 a4_1_0 f4_1_0 a4_1_1 f4_1_1 a4_1_2 f4_1_2 l4_2 a4_2_0 f4_2_0 a4_2_1 f4_2_1 a4_2_2 f4_2_2
  clear F3 H1 H2 HC
  go_loopg [10, 11, 12, 13, 14] 800 (fun g iv _ _ _ _ wr => ∃ n : Nat, iv = .int .i64 (n : Int) ∧ 1 ≤ n ∧ n + g = 801 ∧ Hid (Bk wr (w.heap.size) [.string s, .int .i64 p, .bool false] ∧ Bk wr (w.heap.size + 1) [.string t, .int .i64 q, .bool false] ∧ Bk wr (w.heap.size + 1 + 1) [.string ⟨#[]⟩, .int .i64 0, .bool false] ∧ Below w.heap.size w wr) ∧ Hid (firstF f n g = R))
  case atStart => exact ⟨1, rfl, Nat.le_refl _, rfl, IB.out, HR0.out⟩
  case round =>
    obtain ⟨n, rfl, hn, hng, HB, HS⟩ := hrel
    clear IB HR0
    cases gk with
    | zero =>
      have F50 := HB
      clear HB HQ
      have n1 : ¬ (n : Int) ≤ 800 := by omega
      have e : R = none := HS.out.symm
      subst e
      clear HS
      have l21_0 := F50.out.1.lt
      have a21_0_0 := F50.out.1.cell 0 _ rfl
      have f21_0_0 := F50.out.1.fz 0
      have a21_0_1 := F50.out.1.cell 1 _ rfl
      have f21_0_1 := F50.out.1.fz 1
      have a21_0_2 := F50.out.1.cell 2 _ rfl
      have f21_0_2 := F50.out.1.fz 2
      have l21_1 := F50.out.2.1.lt
      have a21_1_0 := F50.out.2.1.cell 0 _ rfl
      have f21_1_0 := F50.out.2.1.fz 0
      have a21_1_1 := F50.out.2.1.cell 1 _ rfl
      have f21_1_1 := F50.out.2.1.fz 1
      have a21_1_2 := F50.out.2.1.cell 2 _ rfl
      have f21_1_2 := F50.out.2.1.fz 2
      have l21_2 := F50.out.2.2.1.lt
      have a21_2_0 := F50.out.2.2.1.cell 0 _ rfl
      have f21_2_0 := F50.out.2.2.1.fz 0
      have a21_2_1 := F50.out.2.2.1.cell 1 _ rfl
      have f21_2_1 := F50.out.2.2.1.fz 1
      have a21_2_2 := F50.out.2.2.1.cell 2 _ rfl
      have f21_2_2 := F50.out.2.2.1.fz 2
      have ne21_0_1 : ¬ w.heap.size = w.heap.size + 1 := by omega
      have ne21_0_2 : ¬ w.heap.size = w.heap.size + 1 + 1 := by omega
      have ne21_1_0 : ¬ w.heap.size + 1 = w.heap.size := by omega
      have ne21_1_2 : ¬ w.heap.size + 1 = w.heap.size + 1 + 1 := by omega
      have ne21_2_0 : ¬ w.heap.size + 1 + 1 = w.heap.size := by omega
      have ne21_2_1 : ¬ w.heap.size + 1 + 1 = w.heap.size + 1 := by omega
      go_wp2
      refine bodyPost_ret (v := .tuple #[.agg #[.string ⟨#[]⟩, .int .i64 0, .bool false], .int .i64 4]) (by simp [results, Tryz.results17, go_sem, World.cell?_setCell_same, World.cell?_setCell_other, *]) rfl ⟨rfl, ?_⟩
      repeat (first | refine Below.setCell ?_ (by first | exact Nat.le_refl _ | (dsimp only; omega)) _ | refine Below.alloc ?_ (by first | exact Nat.le_refl _ | omega | (simp; omega)) _ | refine Below.drew ?_)
      exact F50.out.2.2.2
    | succ g =>
    have F50 := HB
    clear HB
    have n1 : (n : Int) ≤ 800 := by omega
    have HRn := HQ.out.1 n hn (by omega)
    have HSS := fun r e => first_step HS.out (r := r) e
    have en := HQ.out.2.2.2.2 n hn (by omega)
    have HDn := HQ.out.2.2.2.1 n hn (by omega)
    have hrn := HQ.out.2.1 n hn
    have HAn := HQ.out.2.2.1 n
    clear HS HQ
    generalize kk n = kn at *
    generalize ee n = en' at *
    generalize dd n = d at *
    generalize U n = u at *
    generalize ru n = r at *
    obtain ⟨d1, d2⟩ := d
    obtain ⟨u1, u2⟩ := u
    obtain ⟨r1, r2⟩ := r
    unfold dcV at *
    dsimp only at *
    cases c with
    | true =>
      by_cases c1 : s.size ≤ n
      · have ln : (s.size : Int) ≤ (n : Int) := by omega
        have HAm := HAn c1 (by omega)
        clear HAn hrn
        have e0 := (HSS _ (en.trans (stS_self ⟨rfl, c1⟩))).1 _ rfl
        subst e0
        clear HSS en
        have l21_0 := F50.out.1.lt
        have a21_0_0 := F50.out.1.cell 0 _ rfl
        have f21_0_0 := F50.out.1.fz 0
        have a21_0_1 := F50.out.1.cell 1 _ rfl
        have f21_0_1 := F50.out.1.fz 1
        have a21_0_2 := F50.out.1.cell 2 _ rfl
        have f21_0_2 := F50.out.1.fz 2
        have l21_1 := F50.out.2.1.lt
        have a21_1_0 := F50.out.2.1.cell 0 _ rfl
        have f21_1_0 := F50.out.2.1.fz 0
        have a21_1_1 := F50.out.2.1.cell 1 _ rfl
        have f21_1_1 := F50.out.2.1.fz 1
        have a21_1_2 := F50.out.2.1.cell 2 _ rfl
        have f21_1_2 := F50.out.2.1.fz 2
        have l21_2 := F50.out.2.2.1.lt
        have a21_2_0 := F50.out.2.2.1.cell 0 _ rfl
        have f21_2_0 := F50.out.2.2.1.fz 0
        have a21_2_1 := F50.out.2.2.1.cell 1 _ rfl
        have f21_2_1 := F50.out.2.2.1.fz 1
        have a21_2_2 := F50.out.2.2.1.cell 2 _ rfl
        have f21_2_2 := F50.out.2.2.1.fz 2
        have ne21_0_1 : ¬ w.heap.size = w.heap.size + 1 := by omega
        have ne21_0_2 : ¬ w.heap.size = w.heap.size + 1 + 1 := by omega
        have ne21_1_0 : ¬ w.heap.size + 1 = w.heap.size := by omega
        have ne21_1_2 : ¬ w.heap.size + 1 = w.heap.size + 1 + 1 := by omega
        have ne21_2_0 : ¬ w.heap.size + 1 + 1 = w.heap.size := by omega
        have ne21_2_1 : ¬ w.heap.size + 1 + 1 = w.heap.size + 1 := by omega
        go_wp2_with fail
        all_goals first | (exfalso; omega) | skip
        refine (HRn _).mono ?_
        rintro o21 w21 ⟨rfl, bb⟩
        have F51 : Hid (Bk w21 (w.heap.size) [.string s, .int .i64 p, .bool false] ∧ Bk w21 (w.heap.size + 1) [.string t, .int .i64 q, .bool false] ∧ Bk w21 (w.heap.size + 1 + 1) [.string ⟨#[]⟩, .int .i64 0, .bool false] ∧ Below w.heap.size w w21) := ⟨(F50.out.1).step bb, (F50.out.2.1).step bb, (F50.out.2.2.1).step bb, (F50.out.2.2.2).trans (bb.mono (F50.out.2.2.2).size)⟩
        clear F50
        clear bb
        clear l21_0 a21_0_0 f21_0_0 a21_0_1 f21_0_1 a21_0_2 f21_0_2 l21_1 a21_1_0 f21_1_0 a21_1_1 f21_1_1 a21_1_2 f21_1_2 l21_2 a21_2_0 f21_2_0 a21_2_1 f21_2_1 a21_2_2 f21_2_2
        have lt0_3 := (F51.out.1).lt
        have lt1_3 := (F51.out.2.1).lt
        have lt2_3 := (F51.out.2.2.1).lt
        have le3 := (F51.out.2.2.2).size
        have F52 : Hid (Bk ((w21.alloc (.cells #[.string d1, .int .i64 d2, .bool false] 24)).alloc (.cells #[.string r1, .int .i64 r2, .bool false] 24)) (w.heap.size) [.string s, .int .i64 p, .bool false] ∧ Bk ((w21.alloc (.cells #[.string d1, .int .i64 d2, .bool false] 24)).alloc (.cells #[.string r1, .int .i64 r2, .bool false] 24)) (w.heap.size + 1) [.string t, .int .i64 q, .bool false] ∧ Bk ((w21.alloc (.cells #[.string d1, .int .i64 d2, .bool false] 24)).alloc (.cells #[.string r1, .int .i64 r2, .bool false] 24)) (w.heap.size + 1 + 1) [.string ⟨#[]⟩, .int .i64 0, .bool false] ∧ Bk ((w21.alloc (.cells #[.string d1, .int .i64 d2, .bool false] 24)).alloc (.cells #[.string r1, .int .i64 r2, .bool false] 24)) (w21.heap.size) [.string d1, .int .i64 d2, .bool false] ∧ Bk ((w21.alloc (.cells #[.string d1, .int .i64 d2, .bool false] 24)).alloc (.cells #[.string r1, .int .i64 r2, .bool false] 24)) (w21.heap.size + 1) [.string r1, .int .i64 r2, .bool false] ∧ Below w.heap.size w ((w21.alloc (.cells #[.string d1, .int .i64 d2, .bool false] 24)).alloc (.cells #[.string r1, .int .i64 r2, .bool false] 24))) := ⟨((F51.out.1).step ((Below.refl _ _).alloc (Nat.le_refl _) _)).step ((Below.refl _ _).alloc (Nat.le_refl _) _), ((F51.out.2.1).step ((Below.refl _ _).alloc (Nat.le_refl _) _)).step ((Below.refl _ _).alloc (Nat.le_refl _) _), ((F51.out.2.2.1).step ((Below.refl _ _).alloc (Nat.le_refl _) _)).step ((Below.refl _ _).alloc (Nat.le_refl _) _), (Bk.new3 w21 (.string d1) (.int .i64 d2) (.bool false) 24).step ((Below.refl _ _).alloc (Nat.le_refl _) _), ((by have q := Bk.new3 (w21.alloc (.cells #[.string d1, .int .i64 d2, .bool false] 24)) (.string r1) (.int .i64 r2) (.bool false) 24; simpa using q) : Bk ((w21.alloc (.cells #[.string d1, .int .i64 d2, .bool false] 24)).alloc (.cells #[.string r1, .int .i64 r2, .bool false] 24)) (w21.heap.size + 1) [.string r1, .int .i64 r2, .bool false]), ((F51.out.2.2.2).alloc ((F51.out.2.2.2).size) _).alloc (((F51.out.2.2.2).alloc ((F51.out.2.2.2).size) _).size) _⟩
        clear F51
        go_upto_region 12 with fail
        generalize ((w21.alloc (.cells #[.string d1, .int .i64 d2, .bool false] 24)).alloc (.cells #[.string r1, .int .i64 r2, .bool false] 24)) = w22 at *
        have l22_0 := F52.out.1.lt
        have a22_0_0 := F52.out.1.cell 0 _ rfl
        have f22_0_0 := F52.out.1.fz 0
        have a22_0_1 := F52.out.1.cell 1 _ rfl
        have f22_0_1 := F52.out.1.fz 1
        have a22_0_2 := F52.out.1.cell 2 _ rfl
        have f22_0_2 := F52.out.1.fz 2
        have l22_1 := F52.out.2.1.lt
        have a22_1_0 := F52.out.2.1.cell 0 _ rfl
        have f22_1_0 := F52.out.2.1.fz 0
        have a22_1_1 := F52.out.2.1.cell 1 _ rfl
        have f22_1_1 := F52.out.2.1.fz 1
        have a22_1_2 := F52.out.2.1.cell 2 _ rfl
        have f22_1_2 := F52.out.2.1.fz 2
        have l22_2 := F52.out.2.2.1.lt
        have a22_2_0 := F52.out.2.2.1.cell 0 _ rfl
        have f22_2_0 := F52.out.2.2.1.fz 0
        have a22_2_1 := F52.out.2.2.1.cell 1 _ rfl
        have f22_2_1 := F52.out.2.2.1.fz 1
        have a22_2_2 := F52.out.2.2.1.cell 2 _ rfl
        have f22_2_2 := F52.out.2.2.1.fz 2
        have l22_3 := F52.out.2.2.2.1.lt
        have a22_3_0 := F52.out.2.2.2.1.cell 0 _ rfl
        have f22_3_0 := F52.out.2.2.2.1.fz 0
        have a22_3_1 := F52.out.2.2.2.1.cell 1 _ rfl
        have f22_3_1 := F52.out.2.2.2.1.fz 1
        have a22_3_2 := F52.out.2.2.2.1.cell 2 _ rfl
        have f22_3_2 := F52.out.2.2.2.1.fz 2
        have l22_4 := F52.out.2.2.2.2.1.lt
        have a22_4_0 := F52.out.2.2.2.2.1.cell 0 _ rfl
        have f22_4_0 := F52.out.2.2.2.2.1.fz 0
        have a22_4_1 := F52.out.2.2.2.2.1.cell 1 _ rfl
        have f22_4_1 := F52.out.2.2.2.2.1.fz 1
        have a22_4_2 := F52.out.2.2.2.2.1.cell 2 _ rfl
        have f22_4_2 := F52.out.2.2.2.2.1.fz 2
        have ne22_0_1 : ¬ w.heap.size = w.heap.size + 1 := by omega
        have ne22_0_2 : ¬ w.heap.size = w.heap.size + 1 + 1 := by omega
        have ne22_0_3 : ¬ w.heap.size = w21.heap.size := by omega
        have ne22_0_4 : ¬ w.heap.size = w21.heap.size + 1 := by omega
        have ne22_1_0 : ¬ w.heap.size + 1 = w.heap.size := by omega
        have ne22_1_2 : ¬ w.heap.size + 1 = w.heap.size + 1 + 1 := by omega
        have ne22_1_3 : ¬ w.heap.size + 1 = w21.heap.size := by omega
        have ne22_1_4 : ¬ w.heap.size + 1 = w21.heap.size + 1 := by omega
        have ne22_2_0 : ¬ w.heap.size + 1 + 1 = w.heap.size := by omega
        have ne22_2_1 : ¬ w.heap.size + 1 + 1 = w.heap.size + 1 := by omega
        have ne22_2_3 : ¬ w.heap.size + 1 + 1 = w21.heap.size := by omega
        have ne22_2_4 : ¬ w.heap.size + 1 + 1 = w21.heap.size + 1 := by omega
        have ne22_3_0 : ¬ w21.heap.size = w.heap.size := by omega
        have ne22_3_1 : ¬ w21.heap.size = w.heap.size + 1 := by omega
        have ne22_3_2 : ¬ w21.heap.size = w.heap.size + 1 + 1 := by omega
        have ne22_3_4 : ¬ w21.heap.size = w21.heap.size + 1 := by omega
        have ne22_4_0 : ¬ w21.heap.size + 1 = w.heap.size := by omega
        have ne22_4_1 : ¬ w21.heap.size + 1 = w.heap.size + 1 := by omega
        have ne22_4_2 : ¬ w21.heap.size + 1 = w.heap.size + 1 + 1 := by omega
        have ne22_4_3 : ¬ w21.heap.size + 1 = w21.heap.size := by omega
        go_upto_region 14 with fail
        have F53 : Hid (Bk (((w22.setCell ⟨w21.heap.size, 0, none⟩ (.string s)).setCell ⟨w21.heap.size, 1, none⟩ (.int .i64 p)).setCell ⟨w21.heap.size, 2, none⟩ (.bool false)) (w.heap.size) [.string s, .int .i64 p, .bool false] ∧ Bk (((w22.setCell ⟨w21.heap.size, 0, none⟩ (.string s)).setCell ⟨w21.heap.size, 1, none⟩ (.int .i64 p)).setCell ⟨w21.heap.size, 2, none⟩ (.bool false)) (w.heap.size + 1) [.string t, .int .i64 q, .bool false] ∧ Bk (((w22.setCell ⟨w21.heap.size, 0, none⟩ (.string s)).setCell ⟨w21.heap.size, 1, none⟩ (.int .i64 p)).setCell ⟨w21.heap.size, 2, none⟩ (.bool false)) (w.heap.size + 1 + 1) [.string ⟨#[]⟩, .int .i64 0, .bool false] ∧ Bk (((w22.setCell ⟨w21.heap.size, 0, none⟩ (.string s)).setCell ⟨w21.heap.size, 1, none⟩ (.int .i64 p)).setCell ⟨w21.heap.size, 2, none⟩ (.bool false)) (w21.heap.size) [.string s, .int .i64 p, .bool false] ∧ Bk (((w22.setCell ⟨w21.heap.size, 0, none⟩ (.string s)).setCell ⟨w21.heap.size, 1, none⟩ (.int .i64 p)).setCell ⟨w21.heap.size, 2, none⟩ (.bool false)) (w21.heap.size + 1) [.string r1, .int .i64 r2, .bool false] ∧ Below w.heap.size w (((w22.setCell ⟨w21.heap.size, 0, none⟩ (.string s)).setCell ⟨w21.heap.size, 1, none⟩ (.int .i64 p)).setCell ⟨w21.heap.size, 2, none⟩ (.bool false))) := ⟨(((F52.out.1).setC (by omega) 0 _).setC (by omega) 1 _).setC (by omega) 2 _, (((F52.out.2.1).setC (by omega) 0 _).setC (by omega) 1 _).setC (by omega) 2 _, (((F52.out.2.2.1).setC (by omega) 0 _).setC (by omega) 1 _).setC (by omega) 2 _, (F52.out.2.2.2.1).fill3 _ _ _, (((F52.out.2.2.2.2.1).setC (by omega) 0 _).setC (by omega) 1 _).setC (by omega) 2 _, (((F52.out.2.2.2.2.2).setCell (by show w.heap.size ≤ w21.heap.size; omega) _).setCell (by show w.heap.size ≤ w21.heap.size; omega) _).setCell (by show w.heap.size ≤ w21.heap.size; omega) _⟩
        clear F52
        generalize (((w22.setCell ⟨w21.heap.size, 0, none⟩ (.string s)).setCell ⟨w21.heap.size, 1, none⟩ (.int .i64 p)).setCell ⟨w21.heap.size, 2, none⟩ (.bool false)) = w23 at *
        clear l22_0 a22_0_0 f22_0_0 a22_0_1 f22_0_1 a22_0_2 f22_0_2 l22_1 a22_1_0 f22_1_0 a22_1_1 f22_1_1 a22_1_2 f22_1_2 l22_2 a22_2_0 f22_2_0 a22_2_1 f22_2_1 a22_2_2 f22_2_2 l22_3 a22_3_0 f22_3_0 a22_3_1 f22_3_1 a22_3_2 f22_3_2 l22_4 a22_4_0 f22_4_0 a22_4_1 f22_4_1 a22_4_2 f22_4_2
        have l23_0 := F53.out.1.lt
        have a23_0_0 := F53.out.1.cell 0 _ rfl
        have f23_0_0 := F53.out.1.fz 0
        have a23_0_1 := F53.out.1.cell 1 _ rfl
        have f23_0_1 := F53.out.1.fz 1
        have a23_0_2 := F53.out.1.cell 2 _ rfl
        have f23_0_2 := F53.out.1.fz 2
        have l23_1 := F53.out.2.1.lt
        have a23_1_0 := F53.out.2.1.cell 0 _ rfl
        have f23_1_0 := F53.out.2.1.fz 0
        have a23_1_1 := F53.out.2.1.cell 1 _ rfl
        have f23_1_1 := F53.out.2.1.fz 1
        have a23_1_2 := F53.out.2.1.cell 2 _ rfl
        have f23_1_2 := F53.out.2.1.fz 2
        have l23_2 := F53.out.2.2.1.lt
        have a23_2_0 := F53.out.2.2.1.cell 0 _ rfl
        have f23_2_0 := F53.out.2.2.1.fz 0
        have a23_2_1 := F53.out.2.2.1.cell 1 _ rfl
        have f23_2_1 := F53.out.2.2.1.fz 1
        have a23_2_2 := F53.out.2.2.1.cell 2 _ rfl
        have f23_2_2 := F53.out.2.2.1.fz 2
        have l23_3 := F53.out.2.2.2.1.lt
        have a23_3_0 := F53.out.2.2.2.1.cell 0 _ rfl
        have f23_3_0 := F53.out.2.2.2.1.fz 0
        have a23_3_1 := F53.out.2.2.2.1.cell 1 _ rfl
        have f23_3_1 := F53.out.2.2.2.1.fz 1
        have a23_3_2 := F53.out.2.2.2.1.cell 2 _ rfl
        have f23_3_2 := F53.out.2.2.2.1.fz 2
        have l23_4 := F53.out.2.2.2.2.1.lt
        have a23_4_0 := F53.out.2.2.2.2.1.cell 0 _ rfl
        have f23_4_0 := F53.out.2.2.2.2.1.fz 0
        have a23_4_1 := F53.out.2.2.2.2.1.cell 1 _ rfl
        have f23_4_1 := F53.out.2.2.2.2.1.fz 1
        have a23_4_2 := F53.out.2.2.2.2.1.cell 2 _ rfl
        have f23_4_2 := F53.out.2.2.2.2.1.fz 2
        have ne23_0_1 : ¬ w.heap.size = w.heap.size + 1 := by omega
        have ne23_0_2 : ¬ w.heap.size = w.heap.size + 1 + 1 := by omega
        have ne23_0_3 : ¬ w.heap.size = w21.heap.size := by omega
        have ne23_0_4 : ¬ w.heap.size = w21.heap.size + 1 := by omega
        have ne23_1_0 : ¬ w.heap.size + 1 = w.heap.size := by omega
        have ne23_1_2 : ¬ w.heap.size + 1 = w.heap.size + 1 + 1 := by omega
        have ne23_1_3 : ¬ w.heap.size + 1 = w21.heap.size := by omega
        have ne23_1_4 : ¬ w.heap.size + 1 = w21.heap.size + 1 := by omega
        have ne23_2_0 : ¬ w.heap.size + 1 + 1 = w.heap.size := by omega
        have ne23_2_1 : ¬ w.heap.size + 1 + 1 = w.heap.size + 1 := by omega
        have ne23_2_3 : ¬ w.heap.size + 1 + 1 = w21.heap.size := by omega
        have ne23_2_4 : ¬ w.heap.size + 1 + 1 = w21.heap.size + 1 := by omega
        have ne23_3_0 : ¬ w21.heap.size = w.heap.size := by omega
        have ne23_3_1 : ¬ w21.heap.size = w.heap.size + 1 := by omega
        have ne23_3_2 : ¬ w21.heap.size = w.heap.size + 1 + 1 := by omega
        have ne23_3_4 : ¬ w21.heap.size = w21.heap.size + 1 := by omega
        have ne23_4_0 : ¬ w21.heap.size + 1 = w.heap.size := by omega
        have ne23_4_1 : ¬ w21.heap.size + 1 = w.heap.size + 1 := by omega
        have ne23_4_2 : ¬ w21.heap.size + 1 = w.heap.size + 1 + 1 := by omega
        have ne23_4_3 : ¬ w21.heap.size + 1 = w21.heap.size := by omega
        go_wp2_with fail
        all_goals first | (exfalso; omega) | skip
        refine (HAm _).mono ?_
        rintro o24 w24 ⟨rfl, bb⟩
        have F54 : Hid (Bk w24 (w.heap.size) [.string s, .int .i64 p, .bool false] ∧ Bk w24 (w.heap.size + 1) [.string t, .int .i64 q, .bool false] ∧ Bk w24 (w.heap.size + 1 + 1) [.string ⟨#[]⟩, .int .i64 0, .bool false] ∧ Bk w24 (w21.heap.size) [.string s, .int .i64 p, .bool false] ∧ Bk w24 (w21.heap.size + 1) [.string r1, .int .i64 r2, .bool false] ∧ Below w.heap.size w w24) := ⟨(F53.out.1).step bb, (F53.out.2.1).step bb, (F53.out.2.2.1).step bb, (F53.out.2.2.2.1).step bb, (F53.out.2.2.2.2.1).step bb, (F53.out.2.2.2.2.2).trans (bb.mono (F53.out.2.2.2.2.2).size)⟩
        clear F53
        clear bb
        clear l23_0 a23_0_0 f23_0_0 a23_0_1 f23_0_1 a23_0_2 f23_0_2 l23_1 a23_1_0 f23_1_0 a23_1_1 f23_1_1 a23_1_2 f23_1_2 l23_2 a23_2_0 f23_2_0 a23_2_1 f23_2_1 a23_2_2 f23_2_2 l23_3 a23_3_0 f23_3_0 a23_3_1 f23_3_1 a23_3_2 f23_3_2 l23_4 a23_4_0 f23_4_0 a23_4_1 f23_4_1 a23_4_2 f23_4_2
        have l24_0 := F54.out.1.lt
        have a24_0_0 := F54.out.1.cell 0 _ rfl
        have f24_0_0 := F54.out.1.fz 0
        have a24_0_1 := F54.out.1.cell 1 _ rfl
        have f24_0_1 := F54.out.1.fz 1
        have a24_0_2 := F54.out.1.cell 2 _ rfl
        have f24_0_2 := F54.out.1.fz 2
        have l24_1 := F54.out.2.1.lt
        have a24_1_0 := F54.out.2.1.cell 0 _ rfl
        have f24_1_0 := F54.out.2.1.fz 0
        have a24_1_1 := F54.out.2.1.cell 1 _ rfl
        have f24_1_1 := F54.out.2.1.fz 1
        have a24_1_2 := F54.out.2.1.cell 2 _ rfl
        have f24_1_2 := F54.out.2.1.fz 2
        have l24_2 := F54.out.2.2.1.lt
        have a24_2_0 := F54.out.2.2.1.cell 0 _ rfl
        have f24_2_0 := F54.out.2.2.1.fz 0
        have a24_2_1 := F54.out.2.2.1.cell 1 _ rfl
        have f24_2_1 := F54.out.2.2.1.fz 1
        have a24_2_2 := F54.out.2.2.1.cell 2 _ rfl
        have f24_2_2 := F54.out.2.2.1.fz 2
        have l24_3 := F54.out.2.2.2.1.lt
        have a24_3_0 := F54.out.2.2.2.1.cell 0 _ rfl
        have f24_3_0 := F54.out.2.2.2.1.fz 0
        have a24_3_1 := F54.out.2.2.2.1.cell 1 _ rfl
        have f24_3_1 := F54.out.2.2.2.1.fz 1
        have a24_3_2 := F54.out.2.2.2.1.cell 2 _ rfl
        have f24_3_2 := F54.out.2.2.2.1.fz 2
        have l24_4 := F54.out.2.2.2.2.1.lt
        have a24_4_0 := F54.out.2.2.2.2.1.cell 0 _ rfl
        have f24_4_0 := F54.out.2.2.2.2.1.fz 0
        have a24_4_1 := F54.out.2.2.2.2.1.cell 1 _ rfl
        have f24_4_1 := F54.out.2.2.2.2.1.fz 1
        have a24_4_2 := F54.out.2.2.2.2.1.cell 2 _ rfl
        have f24_4_2 := F54.out.2.2.2.2.1.fz 2
        have ne24_0_1 : ¬ w.heap.size = w.heap.size + 1 := by omega
        have ne24_0_2 : ¬ w.heap.size = w.heap.size + 1 + 1 := by omega
        have ne24_0_3 : ¬ w.heap.size = w21.heap.size := by omega
        have ne24_0_4 : ¬ w.heap.size = w21.heap.size + 1 := by omega
        have ne24_1_0 : ¬ w.heap.size + 1 = w.heap.size := by omega
        have ne24_1_2 : ¬ w.heap.size + 1 = w.heap.size + 1 + 1 := by omega
        have ne24_1_3 : ¬ w.heap.size + 1 = w21.heap.size := by omega
        have ne24_1_4 : ¬ w.heap.size + 1 = w21.heap.size + 1 := by omega
        have ne24_2_0 : ¬ w.heap.size + 1 + 1 = w.heap.size := by omega
        have ne24_2_1 : ¬ w.heap.size + 1 + 1 = w.heap.size + 1 := by omega
        have ne24_2_3 : ¬ w.heap.size + 1 + 1 = w21.heap.size := by omega
        have ne24_2_4 : ¬ w.heap.size + 1 + 1 = w21.heap.size + 1 := by omega
        have ne24_3_0 : ¬ w21.heap.size = w.heap.size := by omega
        have ne24_3_1 : ¬ w21.heap.size = w.heap.size + 1 := by omega
        have ne24_3_2 : ¬ w21.heap.size = w.heap.size + 1 + 1 := by omega
        have ne24_3_4 : ¬ w21.heap.size = w21.heap.size + 1 := by omega
        have ne24_4_0 : ¬ w21.heap.size + 1 = w.heap.size := by omega
        have ne24_4_1 : ¬ w21.heap.size + 1 = w.heap.size + 1 := by omega
        have ne24_4_2 : ¬ w21.heap.size + 1 = w.heap.size + 1 + 1 := by omega
        have ne24_4_3 : ¬ w21.heap.size + 1 = w21.heap.size := by omega
        go_upto_region 15 with fail
        have F55 : Hid (Bk (((w24.setCell ⟨w21.heap.size + 1, 0, none⟩ (.string u1)).setCell ⟨w21.heap.size + 1, 1, none⟩ (.int .i64 u2)).setCell ⟨w21.heap.size + 1, 2, none⟩ (.bool false)) (w.heap.size) [.string s, .int .i64 p, .bool false] ∧ Bk (((w24.setCell ⟨w21.heap.size + 1, 0, none⟩ (.string u1)).setCell ⟨w21.heap.size + 1, 1, none⟩ (.int .i64 u2)).setCell ⟨w21.heap.size + 1, 2, none⟩ (.bool false)) (w.heap.size + 1) [.string t, .int .i64 q, .bool false] ∧ Bk (((w24.setCell ⟨w21.heap.size + 1, 0, none⟩ (.string u1)).setCell ⟨w21.heap.size + 1, 1, none⟩ (.int .i64 u2)).setCell ⟨w21.heap.size + 1, 2, none⟩ (.bool false)) (w.heap.size + 1 + 1) [.string ⟨#[]⟩, .int .i64 0, .bool false] ∧ Bk (((w24.setCell ⟨w21.heap.size + 1, 0, none⟩ (.string u1)).setCell ⟨w21.heap.size + 1, 1, none⟩ (.int .i64 u2)).setCell ⟨w21.heap.size + 1, 2, none⟩ (.bool false)) (w21.heap.size) [.string s, .int .i64 p, .bool false] ∧ Bk (((w24.setCell ⟨w21.heap.size + 1, 0, none⟩ (.string u1)).setCell ⟨w21.heap.size + 1, 1, none⟩ (.int .i64 u2)).setCell ⟨w21.heap.size + 1, 2, none⟩ (.bool false)) (w21.heap.size + 1) [.string u1, .int .i64 u2, .bool false] ∧ Below w.heap.size w (((w24.setCell ⟨w21.heap.size + 1, 0, none⟩ (.string u1)).setCell ⟨w21.heap.size + 1, 1, none⟩ (.int .i64 u2)).setCell ⟨w21.heap.size + 1, 2, none⟩ (.bool false))) := ⟨(((F54.out.1).setC (by omega) 0 _).setC (by omega) 1 _).setC (by omega) 2 _, (((F54.out.2.1).setC (by omega) 0 _).setC (by omega) 1 _).setC (by omega) 2 _, (((F54.out.2.2.1).setC (by omega) 0 _).setC (by omega) 1 _).setC (by omega) 2 _, (((F54.out.2.2.2.1).setC (by omega) 0 _).setC (by omega) 1 _).setC (by omega) 2 _, (F54.out.2.2.2.2.1).fill3 _ _ _, (((F54.out.2.2.2.2.2).setCell (by show w.heap.size ≤ w21.heap.size + 1; omega) _).setCell (by show w.heap.size ≤ w21.heap.size + 1; omega) _).setCell (by show w.heap.size ≤ w21.heap.size + 1; omega) _⟩
        clear F54
        generalize (((w24.setCell ⟨w21.heap.size + 1, 0, none⟩ (.string u1)).setCell ⟨w21.heap.size + 1, 1, none⟩ (.int .i64 u2)).setCell ⟨w21.heap.size + 1, 2, none⟩ (.bool false)) = w25 at *
        clear l24_0 a24_0_0 f24_0_0 a24_0_1 f24_0_1 a24_0_2 f24_0_2 l24_1 a24_1_0 f24_1_0 a24_1_1 f24_1_1 a24_1_2 f24_1_2 l24_2 a24_2_0 f24_2_0 a24_2_1 f24_2_1 a24_2_2 f24_2_2 l24_3 a24_3_0 f24_3_0 a24_3_1 f24_3_1 a24_3_2 f24_3_2 l24_4 a24_4_0 f24_4_0 a24_4_1 f24_4_1 a24_4_2 f24_4_2
        have l25_0 := F55.out.1.lt
        have a25_0_0 := F55.out.1.cell 0 _ rfl
        have f25_0_0 := F55.out.1.fz 0
        have a25_0_1 := F55.out.1.cell 1 _ rfl
        have f25_0_1 := F55.out.1.fz 1
        have a25_0_2 := F55.out.1.cell 2 _ rfl
        have f25_0_2 := F55.out.1.fz 2
        have l25_1 := F55.out.2.1.lt
        have a25_1_0 := F55.out.2.1.cell 0 _ rfl
        have f25_1_0 := F55.out.2.1.fz 0
        have a25_1_1 := F55.out.2.1.cell 1 _ rfl
        have f25_1_1 := F55.out.2.1.fz 1
        have a25_1_2 := F55.out.2.1.cell 2 _ rfl
        have f25_1_2 := F55.out.2.1.fz 2
        have l25_2 := F55.out.2.2.1.lt
        have a25_2_0 := F55.out.2.2.1.cell 0 _ rfl
        have f25_2_0 := F55.out.2.2.1.fz 0
        have a25_2_1 := F55.out.2.2.1.cell 1 _ rfl
        have f25_2_1 := F55.out.2.2.1.fz 1
        have a25_2_2 := F55.out.2.2.1.cell 2 _ rfl
        have f25_2_2 := F55.out.2.2.1.fz 2
        have l25_3 := F55.out.2.2.2.1.lt
        have a25_3_0 := F55.out.2.2.2.1.cell 0 _ rfl
        have f25_3_0 := F55.out.2.2.2.1.fz 0
        have a25_3_1 := F55.out.2.2.2.1.cell 1 _ rfl
        have f25_3_1 := F55.out.2.2.2.1.fz 1
        have a25_3_2 := F55.out.2.2.2.1.cell 2 _ rfl
        have f25_3_2 := F55.out.2.2.2.1.fz 2
        have l25_4 := F55.out.2.2.2.2.1.lt
        have a25_4_0 := F55.out.2.2.2.2.1.cell 0 _ rfl
        have f25_4_0 := F55.out.2.2.2.2.1.fz 0
        have a25_4_1 := F55.out.2.2.2.2.1.cell 1 _ rfl
        have f25_4_1 := F55.out.2.2.2.2.1.fz 1
        have a25_4_2 := F55.out.2.2.2.2.1.cell 2 _ rfl
        have f25_4_2 := F55.out.2.2.2.2.1.fz 2
        have ne25_0_1 : ¬ w.heap.size = w.heap.size + 1 := by omega
        have ne25_0_2 : ¬ w.heap.size = w.heap.size + 1 + 1 := by omega
        have ne25_0_3 : ¬ w.heap.size = w21.heap.size := by omega
        have ne25_0_4 : ¬ w.heap.size = w21.heap.size + 1 := by omega
        have ne25_1_0 : ¬ w.heap.size + 1 = w.heap.size := by omega
        have ne25_1_2 : ¬ w.heap.size + 1 = w.heap.size + 1 + 1 := by omega
        have ne25_1_3 : ¬ w.heap.size + 1 = w21.heap.size := by omega
        have ne25_1_4 : ¬ w.heap.size + 1 = w21.heap.size + 1 := by omega
        have ne25_2_0 : ¬ w.heap.size + 1 + 1 = w.heap.size := by omega
        have ne25_2_1 : ¬ w.heap.size + 1 + 1 = w.heap.size + 1 := by omega
        have ne25_2_3 : ¬ w.heap.size + 1 + 1 = w21.heap.size := by omega
        have ne25_2_4 : ¬ w.heap.size + 1 + 1 = w21.heap.size + 1 := by omega
        have ne25_3_0 : ¬ w21.heap.size = w.heap.size := by omega
        have ne25_3_1 : ¬ w21.heap.size = w.heap.size + 1 := by omega
        have ne25_3_2 : ¬ w21.heap.size = w.heap.size + 1 + 1 := by omega
        have ne25_3_4 : ¬ w21.heap.size = w21.heap.size + 1 := by omega
        have ne25_4_0 : ¬ w21.heap.size + 1 = w.heap.size := by omega
        have ne25_4_1 : ¬ w21.heap.size + 1 = w.heap.size + 1 := by omega
        have ne25_4_2 : ¬ w21.heap.size + 1 = w.heap.size + 1 + 1 := by omega
        have ne25_4_3 : ¬ w21.heap.size + 1 = w21.heap.size := by omega
        go_wp2
        refine bodyPost_ret (v := .tuple #[.agg #[.string s, .int .i64 p, .bool false], .int .i64 0]) (by simp [results, Tryz.results17, go_sem, World.cell?_setCell_same, World.cell?_setCell_other, *]) rfl ⟨rfl, ?_⟩
        repeat (first | refine Below.setCell ?_ (by first | exact Nat.le_refl _ | (dsimp only; omega)) _ | refine Below.alloc ?_ (by first | exact Nat.le_refl _ | omega | (simp; omega)) _ | refine Below.drew ?_)
        exact F55.out.2.2.2.2.2
      · have ln : ¬ (s.size : Int) ≤ (n : Int) := by omega
        have e7 := hrn (by omega)
        injection e7 with e8 e9
        subst e8
        subst e9
        clear HAn hrn
        have l21_0 := F50.out.1.lt
        have a21_0_0 := F50.out.1.cell 0 _ rfl
        have f21_0_0 := F50.out.1.fz 0
        have a21_0_1 := F50.out.1.cell 1 _ rfl
        have f21_0_1 := F50.out.1.fz 1
        have a21_0_2 := F50.out.1.cell 2 _ rfl
        have f21_0_2 := F50.out.1.fz 2
        have l21_1 := F50.out.2.1.lt
        have a21_1_0 := F50.out.2.1.cell 0 _ rfl
        have f21_1_0 := F50.out.2.1.fz 0
        have a21_1_1 := F50.out.2.1.cell 1 _ rfl
        have f21_1_1 := F50.out.2.1.fz 1
        have a21_1_2 := F50.out.2.1.cell 2 _ rfl
        have f21_1_2 := F50.out.2.1.fz 2
        have l21_2 := F50.out.2.2.1.lt
        have a21_2_0 := F50.out.2.2.1.cell 0 _ rfl
        have f21_2_0 := F50.out.2.2.1.fz 0
        have a21_2_1 := F50.out.2.2.1.cell 1 _ rfl
        have f21_2_1 := F50.out.2.2.1.fz 1
        have a21_2_2 := F50.out.2.2.1.cell 2 _ rfl
        have f21_2_2 := F50.out.2.2.1.fz 2
        have ne21_0_1 : ¬ w.heap.size = w.heap.size + 1 := by omega
        have ne21_0_2 : ¬ w.heap.size = w.heap.size + 1 + 1 := by omega
        have ne21_1_0 : ¬ w.heap.size + 1 = w.heap.size := by omega
        have ne21_1_2 : ¬ w.heap.size + 1 = w.heap.size + 1 + 1 := by omega
        have ne21_2_0 : ¬ w.heap.size + 1 + 1 = w.heap.size := by omega
        have ne21_2_1 : ¬ w.heap.size + 1 + 1 = w.heap.size + 1 := by omega
        go_wp2_with fail
        all_goals first | (exfalso; omega) | skip
        refine (HRn _).mono ?_
        rintro o21 w21 ⟨rfl, bb⟩
        have F51 : Hid (Bk w21 (w.heap.size) [.string s, .int .i64 p, .bool false] ∧ Bk w21 (w.heap.size + 1) [.string t, .int .i64 q, .bool false] ∧ Bk w21 (w.heap.size + 1 + 1) [.string ⟨#[]⟩, .int .i64 0, .bool false] ∧ Below w.heap.size w w21) := ⟨(F50.out.1).step bb, (F50.out.2.1).step bb, (F50.out.2.2.1).step bb, (F50.out.2.2.2).trans (bb.mono (F50.out.2.2.2).size)⟩
        clear F50
        clear bb
        clear l21_0 a21_0_0 f21_0_0 a21_0_1 f21_0_1 a21_0_2 f21_0_2 l21_1 a21_1_0 f21_1_0 a21_1_1 f21_1_1 a21_1_2 f21_1_2 l21_2 a21_2_0 f21_2_0 a21_2_1 f21_2_1 a21_2_2 f21_2_2
        have lt0_3 := (F51.out.1).lt
        have lt1_3 := (F51.out.2.1).lt
        have lt2_3 := (F51.out.2.2.1).lt
        have le3 := (F51.out.2.2.2).size
        have F52 : Hid (Bk ((w21.alloc (.cells #[.string d1, .int .i64 d2, .bool false] 24)).alloc (.cells #[.string r1, .int .i64 r2, .bool false] 24)) (w.heap.size) [.string s, .int .i64 p, .bool false] ∧ Bk ((w21.alloc (.cells #[.string d1, .int .i64 d2, .bool false] 24)).alloc (.cells #[.string r1, .int .i64 r2, .bool false] 24)) (w.heap.size + 1) [.string t, .int .i64 q, .bool false] ∧ Bk ((w21.alloc (.cells #[.string d1, .int .i64 d2, .bool false] 24)).alloc (.cells #[.string r1, .int .i64 r2, .bool false] 24)) (w.heap.size + 1 + 1) [.string ⟨#[]⟩, .int .i64 0, .bool false] ∧ Bk ((w21.alloc (.cells #[.string d1, .int .i64 d2, .bool false] 24)).alloc (.cells #[.string r1, .int .i64 r2, .bool false] 24)) (w21.heap.size) [.string d1, .int .i64 d2, .bool false] ∧ Bk ((w21.alloc (.cells #[.string d1, .int .i64 d2, .bool false] 24)).alloc (.cells #[.string r1, .int .i64 r2, .bool false] 24)) (w21.heap.size + 1) [.string r1, .int .i64 r2, .bool false] ∧ Below w.heap.size w ((w21.alloc (.cells #[.string d1, .int .i64 d2, .bool false] 24)).alloc (.cells #[.string r1, .int .i64 r2, .bool false] 24))) := ⟨((F51.out.1).step ((Below.refl _ _).alloc (Nat.le_refl _) _)).step ((Below.refl _ _).alloc (Nat.le_refl _) _), ((F51.out.2.1).step ((Below.refl _ _).alloc (Nat.le_refl _) _)).step ((Below.refl _ _).alloc (Nat.le_refl _) _), ((F51.out.2.2.1).step ((Below.refl _ _).alloc (Nat.le_refl _) _)).step ((Below.refl _ _).alloc (Nat.le_refl _) _), (Bk.new3 w21 (.string d1) (.int .i64 d2) (.bool false) 24).step ((Below.refl _ _).alloc (Nat.le_refl _) _), ((by have q := Bk.new3 (w21.alloc (.cells #[.string d1, .int .i64 d2, .bool false] 24)) (.string r1) (.int .i64 r2) (.bool false) 24; simpa using q) : Bk ((w21.alloc (.cells #[.string d1, .int .i64 d2, .bool false] 24)).alloc (.cells #[.string r1, .int .i64 r2, .bool false] 24)) (w21.heap.size + 1) [.string r1, .int .i64 r2, .bool false]), ((F51.out.2.2.2).alloc ((F51.out.2.2.2).size) _).alloc (((F51.out.2.2.2).alloc ((F51.out.2.2.2).size) _).size) _⟩
        clear F51
        go_upto_region 12 with fail
        generalize ((w21.alloc (.cells #[.string d1, .int .i64 d2, .bool false] 24)).alloc (.cells #[.string r1, .int .i64 r2, .bool false] 24)) = w22 at *
        have l22_0 := F52.out.1.lt
        have a22_0_0 := F52.out.1.cell 0 _ rfl
        have f22_0_0 := F52.out.1.fz 0
        have a22_0_1 := F52.out.1.cell 1 _ rfl
        have f22_0_1 := F52.out.1.fz 1
        have a22_0_2 := F52.out.1.cell 2 _ rfl
        have f22_0_2 := F52.out.1.fz 2
        have l22_1 := F52.out.2.1.lt
        have a22_1_0 := F52.out.2.1.cell 0 _ rfl
        have f22_1_0 := F52.out.2.1.fz 0
        have a22_1_1 := F52.out.2.1.cell 1 _ rfl
        have f22_1_1 := F52.out.2.1.fz 1
        have a22_1_2 := F52.out.2.1.cell 2 _ rfl
        have f22_1_2 := F52.out.2.1.fz 2
        have l22_2 := F52.out.2.2.1.lt
        have a22_2_0 := F52.out.2.2.1.cell 0 _ rfl
        have f22_2_0 := F52.out.2.2.1.fz 0
        have a22_2_1 := F52.out.2.2.1.cell 1 _ rfl
        have f22_2_1 := F52.out.2.2.1.fz 1
        have a22_2_2 := F52.out.2.2.1.cell 2 _ rfl
        have f22_2_2 := F52.out.2.2.1.fz 2
        have l22_3 := F52.out.2.2.2.1.lt
        have a22_3_0 := F52.out.2.2.2.1.cell 0 _ rfl
        have f22_3_0 := F52.out.2.2.2.1.fz 0
        have a22_3_1 := F52.out.2.2.2.1.cell 1 _ rfl
        have f22_3_1 := F52.out.2.2.2.1.fz 1
        have a22_3_2 := F52.out.2.2.2.1.cell 2 _ rfl
        have f22_3_2 := F52.out.2.2.2.1.fz 2
        have l22_4 := F52.out.2.2.2.2.1.lt
        have a22_4_0 := F52.out.2.2.2.2.1.cell 0 _ rfl
        have f22_4_0 := F52.out.2.2.2.2.1.fz 0
        have a22_4_1 := F52.out.2.2.2.2.1.cell 1 _ rfl
        have f22_4_1 := F52.out.2.2.2.2.1.fz 1
        have a22_4_2 := F52.out.2.2.2.2.1.cell 2 _ rfl
        have f22_4_2 := F52.out.2.2.2.2.1.fz 2
        have ne22_0_1 : ¬ w.heap.size = w.heap.size + 1 := by omega
        have ne22_0_2 : ¬ w.heap.size = w.heap.size + 1 + 1 := by omega
        have ne22_0_3 : ¬ w.heap.size = w21.heap.size := by omega
        have ne22_0_4 : ¬ w.heap.size = w21.heap.size + 1 := by omega
        have ne22_1_0 : ¬ w.heap.size + 1 = w.heap.size := by omega
        have ne22_1_2 : ¬ w.heap.size + 1 = w.heap.size + 1 + 1 := by omega
        have ne22_1_3 : ¬ w.heap.size + 1 = w21.heap.size := by omega
        have ne22_1_4 : ¬ w.heap.size + 1 = w21.heap.size + 1 := by omega
        have ne22_2_0 : ¬ w.heap.size + 1 + 1 = w.heap.size := by omega
        have ne22_2_1 : ¬ w.heap.size + 1 + 1 = w.heap.size + 1 := by omega
        have ne22_2_3 : ¬ w.heap.size + 1 + 1 = w21.heap.size := by omega
        have ne22_2_4 : ¬ w.heap.size + 1 + 1 = w21.heap.size + 1 := by omega
        have ne22_3_0 : ¬ w21.heap.size = w.heap.size := by omega
        have ne22_3_1 : ¬ w21.heap.size = w.heap.size + 1 := by omega
        have ne22_3_2 : ¬ w21.heap.size = w.heap.size + 1 + 1 := by omega
        have ne22_3_4 : ¬ w21.heap.size = w21.heap.size + 1 := by omega
        have ne22_4_0 : ¬ w21.heap.size + 1 = w.heap.size := by omega
        have ne22_4_1 : ¬ w21.heap.size + 1 = w.heap.size + 1 := by omega
        have ne22_4_2 : ¬ w21.heap.size + 1 = w.heap.size + 1 + 1 := by omega
        have ne22_4_3 : ¬ w21.heap.size + 1 = w21.heap.size := by omega
        go_wp2_with fail
        all_goals first | (exfalso; omega) | skip
        refine (HDn _).mono ?_
        rintro o23 w23 ⟨rfl, bb⟩
        have F53 : Hid (Bk w23 (w.heap.size) [.string s, .int .i64 p, .bool false] ∧ Bk w23 (w.heap.size + 1) [.string t, .int .i64 q, .bool false] ∧ Bk w23 (w.heap.size + 1 + 1) [.string ⟨#[]⟩, .int .i64 0, .bool false] ∧ Bk w23 (w21.heap.size) [.string d1, .int .i64 d2, .bool false] ∧ Bk w23 (w21.heap.size + 1) [.string r1, .int .i64 r2, .bool false] ∧ Below w.heap.size w w23) := ⟨(F52.out.1).step bb, (F52.out.2.1).step bb, (F52.out.2.2.1).step bb, (F52.out.2.2.2.1).step bb, (F52.out.2.2.2.2.1).step bb, (F52.out.2.2.2.2.2).trans (bb.mono (F52.out.2.2.2.2.2).size)⟩
        clear F52
        clear bb
        clear l22_0 a22_0_0 f22_0_0 a22_0_1 f22_0_1 a22_0_2 f22_0_2 l22_1 a22_1_0 f22_1_0 a22_1_1 f22_1_1 a22_1_2 f22_1_2 l22_2 a22_2_0 f22_2_0 a22_2_1 f22_2_1 a22_2_2 f22_2_2 l22_3 a22_3_0 f22_3_0 a22_3_1 f22_3_1 a22_3_2 f22_3_2 l22_4 a22_4_0 f22_4_0 a22_4_1 f22_4_1 a22_4_2 f22_4_2
        rcases Nat.eq_zero_or_pos r1.size with z0 | z0
        · have z8 : Hid (¬ (0 < (r1, r2).1.size ∧ (r1, r2).2 ≤ 1099511627776 ∧ (kn < 0 ∨ (kn = 0 ∧ true = true)))) := fun h => absurd h.1 (by show ¬ 0 < r1.size; omega)
          have HS2 : Hid (firstF f (n + 1) g = R) := (HSS _ (en.trans (stS_none (fun h => by first | (exact absurd h.2 (by omega)) | cases h.1) z8.out))).2 rfl
          clear HSS en z8
          have e5 : r1 = ⟨#[]⟩ := ByteArray.ext (Array.eq_empty_of_size_eq_zero z0)
          subst e5
          clear z0
          have l23_0 := F53.out.1.lt
          have a23_0_0 := F53.out.1.cell 0 _ rfl
          have f23_0_0 := F53.out.1.fz 0
          have a23_0_1 := F53.out.1.cell 1 _ rfl
          have f23_0_1 := F53.out.1.fz 1
          have a23_0_2 := F53.out.1.cell 2 _ rfl
          have f23_0_2 := F53.out.1.fz 2
          have l23_1 := F53.out.2.1.lt
          have a23_1_0 := F53.out.2.1.cell 0 _ rfl
          have f23_1_0 := F53.out.2.1.fz 0
          have a23_1_1 := F53.out.2.1.cell 1 _ rfl
          have f23_1_1 := F53.out.2.1.fz 1
          have a23_1_2 := F53.out.2.1.cell 2 _ rfl
          have f23_1_2 := F53.out.2.1.fz 2
          have l23_2 := F53.out.2.2.1.lt
          have a23_2_0 := F53.out.2.2.1.cell 0 _ rfl
          have f23_2_0 := F53.out.2.2.1.fz 0
          have a23_2_1 := F53.out.2.2.1.cell 1 _ rfl
          have f23_2_1 := F53.out.2.2.1.fz 1
          have a23_2_2 := F53.out.2.2.1.cell 2 _ rfl
          have f23_2_2 := F53.out.2.2.1.fz 2
          have l23_3 := F53.out.2.2.2.1.lt
          have a23_3_0 := F53.out.2.2.2.1.cell 0 _ rfl
          have f23_3_0 := F53.out.2.2.2.1.fz 0
          have a23_3_1 := F53.out.2.2.2.1.cell 1 _ rfl
          have f23_3_1 := F53.out.2.2.2.1.fz 1
          have a23_3_2 := F53.out.2.2.2.1.cell 2 _ rfl
          have f23_3_2 := F53.out.2.2.2.1.fz 2
          have l23_4 := F53.out.2.2.2.2.1.lt
          have a23_4_0 := F53.out.2.2.2.2.1.cell 0 _ rfl
          have f23_4_0 := F53.out.2.2.2.2.1.fz 0
          have a23_4_1 := F53.out.2.2.2.2.1.cell 1 _ rfl
          have f23_4_1 := F53.out.2.2.2.2.1.fz 1
          have a23_4_2 := F53.out.2.2.2.2.1.cell 2 _ rfl
          have f23_4_2 := F53.out.2.2.2.2.1.fz 2
          have ne23_0_1 : ¬ w.heap.size = w.heap.size + 1 := by omega
          have ne23_0_2 : ¬ w.heap.size = w.heap.size + 1 + 1 := by omega
          have ne23_0_3 : ¬ w.heap.size = w21.heap.size := by omega
          have ne23_0_4 : ¬ w.heap.size = w21.heap.size + 1 := by omega
          have ne23_1_0 : ¬ w.heap.size + 1 = w.heap.size := by omega
          have ne23_1_2 : ¬ w.heap.size + 1 = w.heap.size + 1 + 1 := by omega
          have ne23_1_3 : ¬ w.heap.size + 1 = w21.heap.size := by omega
          have ne23_1_4 : ¬ w.heap.size + 1 = w21.heap.size + 1 := by omega
          have ne23_2_0 : ¬ w.heap.size + 1 + 1 = w.heap.size := by omega
          have ne23_2_1 : ¬ w.heap.size + 1 + 1 = w.heap.size + 1 := by omega
          have ne23_2_3 : ¬ w.heap.size + 1 + 1 = w21.heap.size := by omega
          have ne23_2_4 : ¬ w.heap.size + 1 + 1 = w21.heap.size + 1 := by omega
          have ne23_3_0 : ¬ w21.heap.size = w.heap.size := by omega
          have ne23_3_1 : ¬ w21.heap.size = w.heap.size + 1 := by omega
          have ne23_3_2 : ¬ w21.heap.size = w.heap.size + 1 + 1 := by omega
          have ne23_3_4 : ¬ w21.heap.size = w21.heap.size + 1 := by omega
          have ne23_4_0 : ¬ w21.heap.size + 1 = w.heap.size := by omega
          have ne23_4_1 : ¬ w21.heap.size + 1 = w.heap.size + 1 := by omega
          have ne23_4_2 : ¬ w21.heap.size + 1 = w.heap.size + 1 + 1 := by omega
          have ne23_4_3 : ¬ w21.heap.size + 1 = w21.heap.size := by omega
          go_wp2
          go_roundg g
          case measure => omega
          case rel => exact ⟨n + 1, by go_num, by omega, by omega, ⟨F53.out.1, F53.out.2.1, F53.out.2.2.1, F53.out.2.2.2.2.2⟩, HS2.out⟩
        · have hu : r1.toList.isEmpty = false := empty_false z0
          by_cases z1 : r2 ≤ 1099511627776
          · rcases Int.lt_trichotomy kn 0 with z2 | z2 | z2
            · have z8 : Hid (0 < (r1, r2).1.size ∧ (r1, r2).2 ≤ 1099511627776 ∧ (kn < 0 ∨ (kn = 0 ∧ true = true))) := ⟨z0, z1, Or.inl z2⟩
              have e0 := (HSS _ (en.trans (stS_some (fun h => by first | (exact absurd h.2 (by omega)) | cases h.1) z8.out))).1 _ rfl
              subst e0
              clear HSS en z8
              have l23_0 := F53.out.1.lt
              have a23_0_0 := F53.out.1.cell 0 _ rfl
              have f23_0_0 := F53.out.1.fz 0
              have a23_0_1 := F53.out.1.cell 1 _ rfl
              have f23_0_1 := F53.out.1.fz 1
              have a23_0_2 := F53.out.1.cell 2 _ rfl
              have f23_0_2 := F53.out.1.fz 2
              have l23_1 := F53.out.2.1.lt
              have a23_1_0 := F53.out.2.1.cell 0 _ rfl
              have f23_1_0 := F53.out.2.1.fz 0
              have a23_1_1 := F53.out.2.1.cell 1 _ rfl
              have f23_1_1 := F53.out.2.1.fz 1
              have a23_1_2 := F53.out.2.1.cell 2 _ rfl
              have f23_1_2 := F53.out.2.1.fz 2
              have l23_2 := F53.out.2.2.1.lt
              have a23_2_0 := F53.out.2.2.1.cell 0 _ rfl
              have f23_2_0 := F53.out.2.2.1.fz 0
              have a23_2_1 := F53.out.2.2.1.cell 1 _ rfl
              have f23_2_1 := F53.out.2.2.1.fz 1
              have a23_2_2 := F53.out.2.2.1.cell 2 _ rfl
              have f23_2_2 := F53.out.2.2.1.fz 2
              have l23_3 := F53.out.2.2.2.1.lt
              have a23_3_0 := F53.out.2.2.2.1.cell 0 _ rfl
              have f23_3_0 := F53.out.2.2.2.1.fz 0
              have a23_3_1 := F53.out.2.2.2.1.cell 1 _ rfl
              have f23_3_1 := F53.out.2.2.2.1.fz 1
              have a23_3_2 := F53.out.2.2.2.1.cell 2 _ rfl
              have f23_3_2 := F53.out.2.2.2.1.fz 2
              have l23_4 := F53.out.2.2.2.2.1.lt
              have a23_4_0 := F53.out.2.2.2.2.1.cell 0 _ rfl
              have f23_4_0 := F53.out.2.2.2.2.1.fz 0
              have a23_4_1 := F53.out.2.2.2.2.1.cell 1 _ rfl
              have f23_4_1 := F53.out.2.2.2.2.1.fz 1
              have a23_4_2 := F53.out.2.2.2.2.1.cell 2 _ rfl
              have f23_4_2 := F53.out.2.2.2.2.1.fz 2
              have ne23_0_1 : ¬ w.heap.size = w.heap.size + 1 := by omega
              have ne23_0_2 : ¬ w.heap.size = w.heap.size + 1 + 1 := by omega
              have ne23_0_3 : ¬ w.heap.size = w21.heap.size := by omega
              have ne23_0_4 : ¬ w.heap.size = w21.heap.size + 1 := by omega
              have ne23_1_0 : ¬ w.heap.size + 1 = w.heap.size := by omega
              have ne23_1_2 : ¬ w.heap.size + 1 = w.heap.size + 1 + 1 := by omega
              have ne23_1_3 : ¬ w.heap.size + 1 = w21.heap.size := by omega
              have ne23_1_4 : ¬ w.heap.size + 1 = w21.heap.size + 1 := by omega
              have ne23_2_0 : ¬ w.heap.size + 1 + 1 = w.heap.size := by omega
              have ne23_2_1 : ¬ w.heap.size + 1 + 1 = w.heap.size + 1 := by omega
              have ne23_2_3 : ¬ w.heap.size + 1 + 1 = w21.heap.size := by omega
              have ne23_2_4 : ¬ w.heap.size + 1 + 1 = w21.heap.size + 1 := by omega
              have ne23_3_0 : ¬ w21.heap.size = w.heap.size := by omega
              have ne23_3_1 : ¬ w21.heap.size = w.heap.size + 1 := by omega
              have ne23_3_2 : ¬ w21.heap.size = w.heap.size + 1 + 1 := by omega
              have ne23_3_4 : ¬ w21.heap.size = w21.heap.size + 1 := by omega
              have ne23_4_0 : ¬ w21.heap.size + 1 = w.heap.size := by omega
              have ne23_4_1 : ¬ w21.heap.size + 1 = w.heap.size + 1 := by omega
              have ne23_4_2 : ¬ w21.heap.size + 1 = w.heap.size + 1 + 1 := by omega
              have ne23_4_3 : ¬ w21.heap.size + 1 = w21.heap.size := by omega
              go_wp2
              refine bodyPost_ret (v := .tuple #[.agg #[.string r1, .int .i64 r2, .bool false], .int .i64 0]) (by simp [results, Tryz.results17, go_sem, World.cell?_setCell_same, World.cell?_setCell_other, *]) rfl ⟨rfl, ?_⟩
              repeat (first | refine Below.setCell ?_ (by first | exact Nat.le_refl _ | (dsimp only; omega)) _ | refine Below.alloc ?_ (by first | exact Nat.le_refl _ | omega | (simp; omega)) _ | refine Below.drew ?_)
              exact F53.out.2.2.2.2.2
            · have z8 : Hid (0 < (r1, r2).1.size ∧ (r1, r2).2 ≤ 1099511627776 ∧ (kn < 0 ∨ (kn = 0 ∧ true = true))) := ⟨z0, z1, Or.inr ⟨z2, rfl⟩⟩
              subst z2
              have e0 := (HSS _ (en.trans (stS_some (fun h => by first | (exact absurd h.2 (by omega)) | cases h.1) z8.out))).1 _ rfl
              subst e0
              clear HSS en z8
              have l23_0 := F53.out.1.lt
              have a23_0_0 := F53.out.1.cell 0 _ rfl
              have f23_0_0 := F53.out.1.fz 0
              have a23_0_1 := F53.out.1.cell 1 _ rfl
              have f23_0_1 := F53.out.1.fz 1
              have a23_0_2 := F53.out.1.cell 2 _ rfl
              have f23_0_2 := F53.out.1.fz 2
              have l23_1 := F53.out.2.1.lt
              have a23_1_0 := F53.out.2.1.cell 0 _ rfl
              have f23_1_0 := F53.out.2.1.fz 0
              have a23_1_1 := F53.out.2.1.cell 1 _ rfl
              have f23_1_1 := F53.out.2.1.fz 1
              have a23_1_2 := F53.out.2.1.cell 2 _ rfl
              have f23_1_2 := F53.out.2.1.fz 2
              have l23_2 := F53.out.2.2.1.lt
              have a23_2_0 := F53.out.2.2.1.cell 0 _ rfl
              have f23_2_0 := F53.out.2.2.1.fz 0
              have a23_2_1 := F53.out.2.2.1.cell 1 _ rfl
              have f23_2_1 := F53.out.2.2.1.fz 1
              have a23_2_2 := F53.out.2.2.1.cell 2 _ rfl
              have f23_2_2 := F53.out.2.2.1.fz 2
              have l23_3 := F53.out.2.2.2.1.lt
              have a23_3_0 := F53.out.2.2.2.1.cell 0 _ rfl
              have f23_3_0 := F53.out.2.2.2.1.fz 0
              have a23_3_1 := F53.out.2.2.2.1.cell 1 _ rfl
              have f23_3_1 := F53.out.2.2.2.1.fz 1
              have a23_3_2 := F53.out.2.2.2.1.cell 2 _ rfl
              have f23_3_2 := F53.out.2.2.2.1.fz 2
              have l23_4 := F53.out.2.2.2.2.1.lt
              have a23_4_0 := F53.out.2.2.2.2.1.cell 0 _ rfl
              have f23_4_0 := F53.out.2.2.2.2.1.fz 0
              have a23_4_1 := F53.out.2.2.2.2.1.cell 1 _ rfl
              have f23_4_1 := F53.out.2.2.2.2.1.fz 1
              have a23_4_2 := F53.out.2.2.2.2.1.cell 2 _ rfl
              have f23_4_2 := F53.out.2.2.2.2.1.fz 2
              have ne23_0_1 : ¬ w.heap.size = w.heap.size + 1 := by omega
              have ne23_0_2 : ¬ w.heap.size = w.heap.size + 1 + 1 := by omega
              have ne23_0_3 : ¬ w.heap.size = w21.heap.size := by omega
              have ne23_0_4 : ¬ w.heap.size = w21.heap.size + 1 := by omega
              have ne23_1_0 : ¬ w.heap.size + 1 = w.heap.size := by omega
              have ne23_1_2 : ¬ w.heap.size + 1 = w.heap.size + 1 + 1 := by omega
              have ne23_1_3 : ¬ w.heap.size + 1 = w21.heap.size := by omega
              have ne23_1_4 : ¬ w.heap.size + 1 = w21.heap.size + 1 := by omega
              have ne23_2_0 : ¬ w.heap.size + 1 + 1 = w.heap.size := by omega
              have ne23_2_1 : ¬ w.heap.size + 1 + 1 = w.heap.size + 1 := by omega
              have ne23_2_3 : ¬ w.heap.size + 1 + 1 = w21.heap.size := by omega
              have ne23_2_4 : ¬ w.heap.size + 1 + 1 = w21.heap.size + 1 := by omega
              have ne23_3_0 : ¬ w21.heap.size = w.heap.size := by omega
              have ne23_3_1 : ¬ w21.heap.size = w.heap.size + 1 := by omega
              have ne23_3_2 : ¬ w21.heap.size = w.heap.size + 1 + 1 := by omega
              have ne23_3_4 : ¬ w21.heap.size = w21.heap.size + 1 := by omega
              have ne23_4_0 : ¬ w21.heap.size + 1 = w.heap.size := by omega
              have ne23_4_1 : ¬ w21.heap.size + 1 = w.heap.size + 1 := by omega
              have ne23_4_2 : ¬ w21.heap.size + 1 = w.heap.size + 1 + 1 := by omega
              have ne23_4_3 : ¬ w21.heap.size + 1 = w21.heap.size := by omega
              go_wp2
              refine bodyPost_ret (v := .tuple #[.agg #[.string r1, .int .i64 r2, .bool false], .int .i64 0]) (by simp [results, Tryz.results17, go_sem, World.cell?_setCell_same, World.cell?_setCell_other, *]) rfl ⟨rfl, ?_⟩
              repeat (first | refine Below.setCell ?_ (by first | exact Nat.le_refl _ | (dsimp only; omega)) _ | refine Below.alloc ?_ (by first | exact Nat.le_refl _ | omega | (simp; omega)) _ | refine Below.drew ?_)
              exact F53.out.2.2.2.2.2
            · have z8 : Hid (¬ (0 < (r1, r2).1.size ∧ (r1, r2).2 ≤ 1099511627776 ∧ (kn < 0 ∨ (kn = 0 ∧ true = true)))) := fun h => by rcases h.2.2 with a | ⟨a, _⟩ <;> omega
              have z7 : (kn == 0) = false := beq_eq_false_iff_ne.mpr (by omega)
              have z6 : ¬ kn < 0 := by omega
              have HS2 : Hid (firstF f (n + 1) g = R) := (HSS _ (en.trans (stS_none (fun h => by first | (exact absurd h.2 (by omega)) | cases h.1) z8.out))).2 rfl
              clear HSS en z8
              have l23_0 := F53.out.1.lt
              have a23_0_0 := F53.out.1.cell 0 _ rfl
              have f23_0_0 := F53.out.1.fz 0
              have a23_0_1 := F53.out.1.cell 1 _ rfl
              have f23_0_1 := F53.out.1.fz 1
              have a23_0_2 := F53.out.1.cell 2 _ rfl
              have f23_0_2 := F53.out.1.fz 2
              have l23_1 := F53.out.2.1.lt
              have a23_1_0 := F53.out.2.1.cell 0 _ rfl
              have f23_1_0 := F53.out.2.1.fz 0
              have a23_1_1 := F53.out.2.1.cell 1 _ rfl
              have f23_1_1 := F53.out.2.1.fz 1
              have a23_1_2 := F53.out.2.1.cell 2 _ rfl
              have f23_1_2 := F53.out.2.1.fz 2
              have l23_2 := F53.out.2.2.1.lt
              have a23_2_0 := F53.out.2.2.1.cell 0 _ rfl
              have f23_2_0 := F53.out.2.2.1.fz 0
              have a23_2_1 := F53.out.2.2.1.cell 1 _ rfl
              have f23_2_1 := F53.out.2.2.1.fz 1
              have a23_2_2 := F53.out.2.2.1.cell 2 _ rfl
              have f23_2_2 := F53.out.2.2.1.fz 2
              have l23_3 := F53.out.2.2.2.1.lt
              have a23_3_0 := F53.out.2.2.2.1.cell 0 _ rfl
              have f23_3_0 := F53.out.2.2.2.1.fz 0
              have a23_3_1 := F53.out.2.2.2.1.cell 1 _ rfl
              have f23_3_1 := F53.out.2.2.2.1.fz 1
              have a23_3_2 := F53.out.2.2.2.1.cell 2 _ rfl
              have f23_3_2 := F53.out.2.2.2.1.fz 2
              have l23_4 := F53.out.2.2.2.2.1.lt
              have a23_4_0 := F53.out.2.2.2.2.1.cell 0 _ rfl
              have f23_4_0 := F53.out.2.2.2.2.1.fz 0
              have a23_4_1 := F53.out.2.2.2.2.1.cell 1 _ rfl
              have f23_4_1 := F53.out.2.2.2.2.1.fz 1
              have a23_4_2 := F53.out.2.2.2.2.1.cell 2 _ rfl
              have f23_4_2 := F53.out.2.2.2.2.1.fz 2
              have ne23_0_1 : ¬ w.heap.size = w.heap.size + 1 := by omega
              have ne23_0_2 : ¬ w.heap.size = w.heap.size + 1 + 1 := by omega
              have ne23_0_3 : ¬ w.heap.size = w21.heap.size := by omega
              have ne23_0_4 : ¬ w.heap.size = w21.heap.size + 1 := by omega
              have ne23_1_0 : ¬ w.heap.size + 1 = w.heap.size := by omega
              have ne23_1_2 : ¬ w.heap.size + 1 = w.heap.size + 1 + 1 := by omega
              have ne23_1_3 : ¬ w.heap.size + 1 = w21.heap.size := by omega
              have ne23_1_4 : ¬ w.heap.size + 1 = w21.heap.size + 1 := by omega
              have ne23_2_0 : ¬ w.heap.size + 1 + 1 = w.heap.size := by omega
              have ne23_2_1 : ¬ w.heap.size + 1 + 1 = w.heap.size + 1 := by omega
              have ne23_2_3 : ¬ w.heap.size + 1 + 1 = w21.heap.size := by omega
              have ne23_2_4 : ¬ w.heap.size + 1 + 1 = w21.heap.size + 1 := by omega
              have ne23_3_0 : ¬ w21.heap.size = w.heap.size := by omega
              have ne23_3_1 : ¬ w21.heap.size = w.heap.size + 1 := by omega
              have ne23_3_2 : ¬ w21.heap.size = w.heap.size + 1 + 1 := by omega
              have ne23_3_4 : ¬ w21.heap.size = w21.heap.size + 1 := by omega
              have ne23_4_0 : ¬ w21.heap.size + 1 = w.heap.size := by omega
              have ne23_4_1 : ¬ w21.heap.size + 1 = w.heap.size + 1 := by omega
              have ne23_4_2 : ¬ w21.heap.size + 1 = w.heap.size + 1 + 1 := by omega
              have ne23_4_3 : ¬ w21.heap.size + 1 = w21.heap.size := by omega
              go_wp2
              go_roundg g
              case measure => omega
              case rel => exact ⟨n + 1, by go_num, by omega, by omega, ⟨F53.out.1, F53.out.2.1, F53.out.2.2.1, F53.out.2.2.2.2.2⟩, HS2.out⟩
          · have z8 : Hid (¬ (0 < (r1, r2).1.size ∧ (r1, r2).2 ≤ 1099511627776 ∧ (kn < 0 ∨ (kn = 0 ∧ true = true)))) := fun h => z1 h.2.1
            have HS2 : Hid (firstF f (n + 1) g = R) := (HSS _ (en.trans (stS_none (fun h => by first | (exact absurd h.2 (by omega)) | cases h.1) z8.out))).2 rfl
            clear HSS en z8
            have l23_0 := F53.out.1.lt
            have a23_0_0 := F53.out.1.cell 0 _ rfl
            have f23_0_0 := F53.out.1.fz 0
            have a23_0_1 := F53.out.1.cell 1 _ rfl
            have f23_0_1 := F53.out.1.fz 1
            have a23_0_2 := F53.out.1.cell 2 _ rfl
            have f23_0_2 := F53.out.1.fz 2
            have l23_1 := F53.out.2.1.lt
            have a23_1_0 := F53.out.2.1.cell 0 _ rfl
            have f23_1_0 := F53.out.2.1.fz 0
            have a23_1_1 := F53.out.2.1.cell 1 _ rfl
            have f23_1_1 := F53.out.2.1.fz 1
            have a23_1_2 := F53.out.2.1.cell 2 _ rfl
            have f23_1_2 := F53.out.2.1.fz 2
            have l23_2 := F53.out.2.2.1.lt
            have a23_2_0 := F53.out.2.2.1.cell 0 _ rfl
            have f23_2_0 := F53.out.2.2.1.fz 0
            have a23_2_1 := F53.out.2.2.1.cell 1 _ rfl
            have f23_2_1 := F53.out.2.2.1.fz 1
            have a23_2_2 := F53.out.2.2.1.cell 2 _ rfl
            have f23_2_2 := F53.out.2.2.1.fz 2
            have l23_3 := F53.out.2.2.2.1.lt
            have a23_3_0 := F53.out.2.2.2.1.cell 0 _ rfl
            have f23_3_0 := F53.out.2.2.2.1.fz 0
            have a23_3_1 := F53.out.2.2.2.1.cell 1 _ rfl
            have f23_3_1 := F53.out.2.2.2.1.fz 1
            have a23_3_2 := F53.out.2.2.2.1.cell 2 _ rfl
            have f23_3_2 := F53.out.2.2.2.1.fz 2
            have l23_4 := F53.out.2.2.2.2.1.lt
            have a23_4_0 := F53.out.2.2.2.2.1.cell 0 _ rfl
            have f23_4_0 := F53.out.2.2.2.2.1.fz 0
            have a23_4_1 := F53.out.2.2.2.2.1.cell 1 _ rfl
            have f23_4_1 := F53.out.2.2.2.2.1.fz 1
            have a23_4_2 := F53.out.2.2.2.2.1.cell 2 _ rfl
            have f23_4_2 := F53.out.2.2.2.2.1.fz 2
            have ne23_0_1 : ¬ w.heap.size = w.heap.size + 1 := by omega
            have ne23_0_2 : ¬ w.heap.size = w.heap.size + 1 + 1 := by omega
            have ne23_0_3 : ¬ w.heap.size = w21.heap.size := by omega
            have ne23_0_4 : ¬ w.heap.size = w21.heap.size + 1 := by omega
            have ne23_1_0 : ¬ w.heap.size + 1 = w.heap.size := by omega
            have ne23_1_2 : ¬ w.heap.size + 1 = w.heap.size + 1 + 1 := by omega
            have ne23_1_3 : ¬ w.heap.size + 1 = w21.heap.size := by omega
            have ne23_1_4 : ¬ w.heap.size + 1 = w21.heap.size + 1 := by omega
            have ne23_2_0 : ¬ w.heap.size + 1 + 1 = w.heap.size := by omega
            have ne23_2_1 : ¬ w.heap.size + 1 + 1 = w.heap.size + 1 := by omega
            have ne23_2_3 : ¬ w.heap.size + 1 + 1 = w21.heap.size := by omega
            have ne23_2_4 : ¬ w.heap.size + 1 + 1 = w21.heap.size + 1 := by omega
            have ne23_3_0 : ¬ w21.heap.size = w.heap.size := by omega
            have ne23_3_1 : ¬ w21.heap.size = w.heap.size + 1 := by omega
            have ne23_3_2 : ¬ w21.heap.size = w.heap.size + 1 + 1 := by omega
            have ne23_3_4 : ¬ w21.heap.size = w21.heap.size + 1 := by omega
            have ne23_4_0 : ¬ w21.heap.size + 1 = w.heap.size := by omega
            have ne23_4_1 : ¬ w21.heap.size + 1 = w.heap.size + 1 := by omega
            have ne23_4_2 : ¬ w21.heap.size + 1 = w.heap.size + 1 + 1 := by omega
            have ne23_4_3 : ¬ w21.heap.size + 1 = w21.heap.size := by omega
            go_wp2
            go_roundg g
            case measure => omega
            case rel => exact ⟨n + 1, by go_num, by omega, by omega, ⟨F53.out.1, F53.out.2.1, F53.out.2.2.1, F53.out.2.2.2.2.2⟩, HS2.out⟩
    | false =>
      by_cases c1 : s.size ≤ n
      · have ln : (s.size : Int) ≤ (n : Int) := by omega
        have HAm := HAn c1 (by omega)
        clear HAn hrn
        have l21_0 := F50.out.1.lt
        have a21_0_0 := F50.out.1.cell 0 _ rfl
        have f21_0_0 := F50.out.1.fz 0
        have a21_0_1 := F50.out.1.cell 1 _ rfl
        have f21_0_1 := F50.out.1.fz 1
        have a21_0_2 := F50.out.1.cell 2 _ rfl
        have f21_0_2 := F50.out.1.fz 2
        have l21_1 := F50.out.2.1.lt
        have a21_1_0 := F50.out.2.1.cell 0 _ rfl
        have f21_1_0 := F50.out.2.1.fz 0
        have a21_1_1 := F50.out.2.1.cell 1 _ rfl
        have f21_1_1 := F50.out.2.1.fz 1
        have a21_1_2 := F50.out.2.1.cell 2 _ rfl
        have f21_1_2 := F50.out.2.1.fz 2
        have l21_2 := F50.out.2.2.1.lt
        have a21_2_0 := F50.out.2.2.1.cell 0 _ rfl
        have f21_2_0 := F50.out.2.2.1.fz 0
        have a21_2_1 := F50.out.2.2.1.cell 1 _ rfl
        have f21_2_1 := F50.out.2.2.1.fz 1
        have a21_2_2 := F50.out.2.2.1.cell 2 _ rfl
        have f21_2_2 := F50.out.2.2.1.fz 2
        have ne21_0_1 : ¬ w.heap.size = w.heap.size + 1 := by omega
        have ne21_0_2 : ¬ w.heap.size = w.heap.size + 1 + 1 := by omega
        have ne21_1_0 : ¬ w.heap.size + 1 = w.heap.size := by omega
        have ne21_1_2 : ¬ w.heap.size + 1 = w.heap.size + 1 + 1 := by omega
        have ne21_2_0 : ¬ w.heap.size + 1 + 1 = w.heap.size := by omega
        have ne21_2_1 : ¬ w.heap.size + 1 + 1 = w.heap.size + 1 := by omega
        go_wp2_with fail
        all_goals first | (exfalso; omega) | skip
        refine (HRn _).mono ?_
        rintro o21 w21 ⟨rfl, bb⟩
        have F51 : Hid (Bk w21 (w.heap.size) [.string s, .int .i64 p, .bool false] ∧ Bk w21 (w.heap.size + 1) [.string t, .int .i64 q, .bool false] ∧ Bk w21 (w.heap.size + 1 + 1) [.string ⟨#[]⟩, .int .i64 0, .bool false] ∧ Below w.heap.size w w21) := ⟨(F50.out.1).step bb, (F50.out.2.1).step bb, (F50.out.2.2.1).step bb, (F50.out.2.2.2).trans (bb.mono (F50.out.2.2.2).size)⟩
        clear F50
        clear bb
        clear l21_0 a21_0_0 f21_0_0 a21_0_1 f21_0_1 a21_0_2 f21_0_2 l21_1 a21_1_0 f21_1_0 a21_1_1 f21_1_1 a21_1_2 f21_1_2 l21_2 a21_2_0 f21_2_0 a21_2_1 f21_2_1 a21_2_2 f21_2_2
        have lt0_3 := (F51.out.1).lt
        have lt1_3 := (F51.out.2.1).lt
        have lt2_3 := (F51.out.2.2.1).lt
        have le3 := (F51.out.2.2.2).size
        have F52 : Hid (Bk ((w21.alloc (.cells #[.string d1, .int .i64 d2, .bool false] 24)).alloc (.cells #[.string r1, .int .i64 r2, .bool false] 24)) (w.heap.size) [.string s, .int .i64 p, .bool false] ∧ Bk ((w21.alloc (.cells #[.string d1, .int .i64 d2, .bool false] 24)).alloc (.cells #[.string r1, .int .i64 r2, .bool false] 24)) (w.heap.size + 1) [.string t, .int .i64 q, .bool false] ∧ Bk ((w21.alloc (.cells #[.string d1, .int .i64 d2, .bool false] 24)).alloc (.cells #[.string r1, .int .i64 r2, .bool false] 24)) (w.heap.size + 1 + 1) [.string ⟨#[]⟩, .int .i64 0, .bool false] ∧ Bk ((w21.alloc (.cells #[.string d1, .int .i64 d2, .bool false] 24)).alloc (.cells #[.string r1, .int .i64 r2, .bool false] 24)) (w21.heap.size) [.string d1, .int .i64 d2, .bool false] ∧ Bk ((w21.alloc (.cells #[.string d1, .int .i64 d2, .bool false] 24)).alloc (.cells #[.string r1, .int .i64 r2, .bool false] 24)) (w21.heap.size + 1) [.string r1, .int .i64 r2, .bool false] ∧ Below w.heap.size w ((w21.alloc (.cells #[.string d1, .int .i64 d2, .bool false] 24)).alloc (.cells #[.string r1, .int .i64 r2, .bool false] 24))) := ⟨((F51.out.1).step ((Below.refl _ _).alloc (Nat.le_refl _) _)).step ((Below.refl _ _).alloc (Nat.le_refl _) _), ((F51.out.2.1).step ((Below.refl _ _).alloc (Nat.le_refl _) _)).step ((Below.refl _ _).alloc (Nat.le_refl _) _), ((F51.out.2.2.1).step ((Below.refl _ _).alloc (Nat.le_refl _) _)).step ((Below.refl _ _).alloc (Nat.le_refl _) _), (Bk.new3 w21 (.string d1) (.int .i64 d2) (.bool false) 24).step ((Below.refl _ _).alloc (Nat.le_refl _) _), ((by have q := Bk.new3 (w21.alloc (.cells #[.string d1, .int .i64 d2, .bool false] 24)) (.string r1) (.int .i64 r2) (.bool false) 24; simpa using q) : Bk ((w21.alloc (.cells #[.string d1, .int .i64 d2, .bool false] 24)).alloc (.cells #[.string r1, .int .i64 r2, .bool false] 24)) (w21.heap.size + 1) [.string r1, .int .i64 r2, .bool false]), ((F51.out.2.2.2).alloc ((F51.out.2.2.2).size) _).alloc (((F51.out.2.2.2).alloc ((F51.out.2.2.2).size) _).size) _⟩
        clear F51
        go_upto_region 12 with fail
        generalize ((w21.alloc (.cells #[.string d1, .int .i64 d2, .bool false] 24)).alloc (.cells #[.string r1, .int .i64 r2, .bool false] 24)) = w22 at *
        have l22_0 := F52.out.1.lt
        have a22_0_0 := F52.out.1.cell 0 _ rfl
        have f22_0_0 := F52.out.1.fz 0
        have a22_0_1 := F52.out.1.cell 1 _ rfl
        have f22_0_1 := F52.out.1.fz 1
        have a22_0_2 := F52.out.1.cell 2 _ rfl
        have f22_0_2 := F52.out.1.fz 2
        have l22_1 := F52.out.2.1.lt
        have a22_1_0 := F52.out.2.1.cell 0 _ rfl
        have f22_1_0 := F52.out.2.1.fz 0
        have a22_1_1 := F52.out.2.1.cell 1 _ rfl
        have f22_1_1 := F52.out.2.1.fz 1
        have a22_1_2 := F52.out.2.1.cell 2 _ rfl
        have f22_1_2 := F52.out.2.1.fz 2
        have l22_2 := F52.out.2.2.1.lt
        have a22_2_0 := F52.out.2.2.1.cell 0 _ rfl
        have f22_2_0 := F52.out.2.2.1.fz 0
        have a22_2_1 := F52.out.2.2.1.cell 1 _ rfl
        have f22_2_1 := F52.out.2.2.1.fz 1
        have a22_2_2 := F52.out.2.2.1.cell 2 _ rfl
        have f22_2_2 := F52.out.2.2.1.fz 2
        have l22_3 := F52.out.2.2.2.1.lt
        have a22_3_0 := F52.out.2.2.2.1.cell 0 _ rfl
        have f22_3_0 := F52.out.2.2.2.1.fz 0
        have a22_3_1 := F52.out.2.2.2.1.cell 1 _ rfl
        have f22_3_1 := F52.out.2.2.2.1.fz 1
        have a22_3_2 := F52.out.2.2.2.1.cell 2 _ rfl
        have f22_3_2 := F52.out.2.2.2.1.fz 2
        have l22_4 := F52.out.2.2.2.2.1.lt
        have a22_4_0 := F52.out.2.2.2.2.1.cell 0 _ rfl
        have f22_4_0 := F52.out.2.2.2.2.1.fz 0
        have a22_4_1 := F52.out.2.2.2.2.1.cell 1 _ rfl
        have f22_4_1 := F52.out.2.2.2.2.1.fz 1
        have a22_4_2 := F52.out.2.2.2.2.1.cell 2 _ rfl
        have f22_4_2 := F52.out.2.2.2.2.1.fz 2
        have ne22_0_1 : ¬ w.heap.size = w.heap.size + 1 := by omega
        have ne22_0_2 : ¬ w.heap.size = w.heap.size + 1 + 1 := by omega
        have ne22_0_3 : ¬ w.heap.size = w21.heap.size := by omega
        have ne22_0_4 : ¬ w.heap.size = w21.heap.size + 1 := by omega
        have ne22_1_0 : ¬ w.heap.size + 1 = w.heap.size := by omega
        have ne22_1_2 : ¬ w.heap.size + 1 = w.heap.size + 1 + 1 := by omega
        have ne22_1_3 : ¬ w.heap.size + 1 = w21.heap.size := by omega
        have ne22_1_4 : ¬ w.heap.size + 1 = w21.heap.size + 1 := by omega
        have ne22_2_0 : ¬ w.heap.size + 1 + 1 = w.heap.size := by omega
        have ne22_2_1 : ¬ w.heap.size + 1 + 1 = w.heap.size + 1 := by omega
        have ne22_2_3 : ¬ w.heap.size + 1 + 1 = w21.heap.size := by omega
        have ne22_2_4 : ¬ w.heap.size + 1 + 1 = w21.heap.size + 1 := by omega
        have ne22_3_0 : ¬ w21.heap.size = w.heap.size := by omega
        have ne22_3_1 : ¬ w21.heap.size = w.heap.size + 1 := by omega
        have ne22_3_2 : ¬ w21.heap.size = w.heap.size + 1 + 1 := by omega
        have ne22_3_4 : ¬ w21.heap.size = w21.heap.size + 1 := by omega
        have ne22_4_0 : ¬ w21.heap.size + 1 = w.heap.size := by omega
        have ne22_4_1 : ¬ w21.heap.size + 1 = w.heap.size + 1 := by omega
        have ne22_4_2 : ¬ w21.heap.size + 1 = w.heap.size + 1 + 1 := by omega
        have ne22_4_3 : ¬ w21.heap.size + 1 = w21.heap.size := by omega
        go_upto_region 14 with fail
        have F53 : Hid (Bk (((w22.setCell ⟨w21.heap.size, 0, none⟩ (.string s)).setCell ⟨w21.heap.size, 1, none⟩ (.int .i64 p)).setCell ⟨w21.heap.size, 2, none⟩ (.bool false)) (w.heap.size) [.string s, .int .i64 p, .bool false] ∧ Bk (((w22.setCell ⟨w21.heap.size, 0, none⟩ (.string s)).setCell ⟨w21.heap.size, 1, none⟩ (.int .i64 p)).setCell ⟨w21.heap.size, 2, none⟩ (.bool false)) (w.heap.size + 1) [.string t, .int .i64 q, .bool false] ∧ Bk (((w22.setCell ⟨w21.heap.size, 0, none⟩ (.string s)).setCell ⟨w21.heap.size, 1, none⟩ (.int .i64 p)).setCell ⟨w21.heap.size, 2, none⟩ (.bool false)) (w.heap.size + 1 + 1) [.string ⟨#[]⟩, .int .i64 0, .bool false] ∧ Bk (((w22.setCell ⟨w21.heap.size, 0, none⟩ (.string s)).setCell ⟨w21.heap.size, 1, none⟩ (.int .i64 p)).setCell ⟨w21.heap.size, 2, none⟩ (.bool false)) (w21.heap.size) [.string s, .int .i64 p, .bool false] ∧ Bk (((w22.setCell ⟨w21.heap.size, 0, none⟩ (.string s)).setCell ⟨w21.heap.size, 1, none⟩ (.int .i64 p)).setCell ⟨w21.heap.size, 2, none⟩ (.bool false)) (w21.heap.size + 1) [.string r1, .int .i64 r2, .bool false] ∧ Below w.heap.size w (((w22.setCell ⟨w21.heap.size, 0, none⟩ (.string s)).setCell ⟨w21.heap.size, 1, none⟩ (.int .i64 p)).setCell ⟨w21.heap.size, 2, none⟩ (.bool false))) := ⟨(((F52.out.1).setC (by omega) 0 _).setC (by omega) 1 _).setC (by omega) 2 _, (((F52.out.2.1).setC (by omega) 0 _).setC (by omega) 1 _).setC (by omega) 2 _, (((F52.out.2.2.1).setC (by omega) 0 _).setC (by omega) 1 _).setC (by omega) 2 _, (F52.out.2.2.2.1).fill3 _ _ _, (((F52.out.2.2.2.2.1).setC (by omega) 0 _).setC (by omega) 1 _).setC (by omega) 2 _, (((F52.out.2.2.2.2.2).setCell (by show w.heap.size ≤ w21.heap.size; omega) _).setCell (by show w.heap.size ≤ w21.heap.size; omega) _).setCell (by show w.heap.size ≤ w21.heap.size; omega) _⟩
        clear F52
        generalize (((w22.setCell ⟨w21.heap.size, 0, none⟩ (.string s)).setCell ⟨w21.heap.size, 1, none⟩ (.int .i64 p)).setCell ⟨w21.heap.size, 2, none⟩ (.bool false)) = w23 at *
        clear l22_0 a22_0_0 f22_0_0 a22_0_1 f22_0_1 a22_0_2 f22_0_2 l22_1 a22_1_0 f22_1_0 a22_1_1 f22_1_1 a22_1_2 f22_1_2 l22_2 a22_2_0 f22_2_0 a22_2_1 f22_2_1 a22_2_2 f22_2_2 l22_3 a22_3_0 f22_3_0 a22_3_1 f22_3_1 a22_3_2 f22_3_2 l22_4 a22_4_0 f22_4_0 a22_4_1 f22_4_1 a22_4_2 f22_4_2
        have l23_0 := F53.out.1.lt
        have a23_0_0 := F53.out.1.cell 0 _ rfl
        have f23_0_0 := F53.out.1.fz 0
        have a23_0_1 := F53.out.1.cell 1 _ rfl
        have f23_0_1 := F53.out.1.fz 1
        have a23_0_2 := F53.out.1.cell 2 _ rfl
        have f23_0_2 := F53.out.1.fz 2
        have l23_1 := F53.out.2.1.lt
        have a23_1_0 := F53.out.2.1.cell 0 _ rfl
        have f23_1_0 := F53.out.2.1.fz 0
        have a23_1_1 := F53.out.2.1.cell 1 _ rfl
        have f23_1_1 := F53.out.2.1.fz 1
        have a23_1_2 := F53.out.2.1.cell 2 _ rfl
        have f23_1_2 := F53.out.2.1.fz 2
        have l23_2 := F53.out.2.2.1.lt
        have a23_2_0 := F53.out.2.2.1.cell 0 _ rfl
        have f23_2_0 := F53.out.2.2.1.fz 0
        have a23_2_1 := F53.out.2.2.1.cell 1 _ rfl
        have f23_2_1 := F53.out.2.2.1.fz 1
        have a23_2_2 := F53.out.2.2.1.cell 2 _ rfl
        have f23_2_2 := F53.out.2.2.1.fz 2
        have l23_3 := F53.out.2.2.2.1.lt
        have a23_3_0 := F53.out.2.2.2.1.cell 0 _ rfl
        have f23_3_0 := F53.out.2.2.2.1.fz 0
        have a23_3_1 := F53.out.2.2.2.1.cell 1 _ rfl
        have f23_3_1 := F53.out.2.2.2.1.fz 1
        have a23_3_2 := F53.out.2.2.2.1.cell 2 _ rfl
        have f23_3_2 := F53.out.2.2.2.1.fz 2
        have l23_4 := F53.out.2.2.2.2.1.lt
        have a23_4_0 := F53.out.2.2.2.2.1.cell 0 _ rfl
        have f23_4_0 := F53.out.2.2.2.2.1.fz 0
        have a23_4_1 := F53.out.2.2.2.2.1.cell 1 _ rfl
        have f23_4_1 := F53.out.2.2.2.2.1.fz 1
        have a23_4_2 := F53.out.2.2.2.2.1.cell 2 _ rfl
        have f23_4_2 := F53.out.2.2.2.2.1.fz 2
        have ne23_0_1 : ¬ w.heap.size = w.heap.size + 1 := by omega
        have ne23_0_2 : ¬ w.heap.size = w.heap.size + 1 + 1 := by omega
        have ne23_0_3 : ¬ w.heap.size = w21.heap.size := by omega
        have ne23_0_4 : ¬ w.heap.size = w21.heap.size + 1 := by omega
        have ne23_1_0 : ¬ w.heap.size + 1 = w.heap.size := by omega
        have ne23_1_2 : ¬ w.heap.size + 1 = w.heap.size + 1 + 1 := by omega
        have ne23_1_3 : ¬ w.heap.size + 1 = w21.heap.size := by omega
        have ne23_1_4 : ¬ w.heap.size + 1 = w21.heap.size + 1 := by omega
        have ne23_2_0 : ¬ w.heap.size + 1 + 1 = w.heap.size := by omega
        have ne23_2_1 : ¬ w.heap.size + 1 + 1 = w.heap.size + 1 := by omega
        have ne23_2_3 : ¬ w.heap.size + 1 + 1 = w21.heap.size := by omega
        have ne23_2_4 : ¬ w.heap.size + 1 + 1 = w21.heap.size + 1 := by omega
        have ne23_3_0 : ¬ w21.heap.size = w.heap.size := by omega
        have ne23_3_1 : ¬ w21.heap.size = w.heap.size + 1 := by omega
        have ne23_3_2 : ¬ w21.heap.size = w.heap.size + 1 + 1 := by omega
        have ne23_3_4 : ¬ w21.heap.size = w21.heap.size + 1 := by omega
        have ne23_4_0 : ¬ w21.heap.size + 1 = w.heap.size := by omega
        have ne23_4_1 : ¬ w21.heap.size + 1 = w.heap.size + 1 := by omega
        have ne23_4_2 : ¬ w21.heap.size + 1 = w.heap.size + 1 + 1 := by omega
        have ne23_4_3 : ¬ w21.heap.size + 1 = w21.heap.size := by omega
        go_wp2_with fail
        all_goals first | (exfalso; omega) | skip
        refine (HAm _).mono ?_
        rintro o24 w24 ⟨rfl, bb⟩
        have F54 : Hid (Bk w24 (w.heap.size) [.string s, .int .i64 p, .bool false] ∧ Bk w24 (w.heap.size + 1) [.string t, .int .i64 q, .bool false] ∧ Bk w24 (w.heap.size + 1 + 1) [.string ⟨#[]⟩, .int .i64 0, .bool false] ∧ Bk w24 (w21.heap.size) [.string s, .int .i64 p, .bool false] ∧ Bk w24 (w21.heap.size + 1) [.string r1, .int .i64 r2, .bool false] ∧ Below w.heap.size w w24) := ⟨(F53.out.1).step bb, (F53.out.2.1).step bb, (F53.out.2.2.1).step bb, (F53.out.2.2.2.1).step bb, (F53.out.2.2.2.2.1).step bb, (F53.out.2.2.2.2.2).trans (bb.mono (F53.out.2.2.2.2.2).size)⟩
        clear F53
        clear bb
        clear l23_0 a23_0_0 f23_0_0 a23_0_1 f23_0_1 a23_0_2 f23_0_2 l23_1 a23_1_0 f23_1_0 a23_1_1 f23_1_1 a23_1_2 f23_1_2 l23_2 a23_2_0 f23_2_0 a23_2_1 f23_2_1 a23_2_2 f23_2_2 l23_3 a23_3_0 f23_3_0 a23_3_1 f23_3_1 a23_3_2 f23_3_2 l23_4 a23_4_0 f23_4_0 a23_4_1 f23_4_1 a23_4_2 f23_4_2
        have l24_0 := F54.out.1.lt
        have a24_0_0 := F54.out.1.cell 0 _ rfl
        have f24_0_0 := F54.out.1.fz 0
        have a24_0_1 := F54.out.1.cell 1 _ rfl
        have f24_0_1 := F54.out.1.fz 1
        have a24_0_2 := F54.out.1.cell 2 _ rfl
        have f24_0_2 := F54.out.1.fz 2
        have l24_1 := F54.out.2.1.lt
        have a24_1_0 := F54.out.2.1.cell 0 _ rfl
        have f24_1_0 := F54.out.2.1.fz 0
        have a24_1_1 := F54.out.2.1.cell 1 _ rfl
        have f24_1_1 := F54.out.2.1.fz 1
        have a24_1_2 := F54.out.2.1.cell 2 _ rfl
        have f24_1_2 := F54.out.2.1.fz 2
        have l24_2 := F54.out.2.2.1.lt
        have a24_2_0 := F54.out.2.2.1.cell 0 _ rfl
        have f24_2_0 := F54.out.2.2.1.fz 0
        have a24_2_1 := F54.out.2.2.1.cell 1 _ rfl
        have f24_2_1 := F54.out.2.2.1.fz 1
        have a24_2_2 := F54.out.2.2.1.cell 2 _ rfl
        have f24_2_2 := F54.out.2.2.1.fz 2
        have l24_3 := F54.out.2.2.2.1.lt
        have a24_3_0 := F54.out.2.2.2.1.cell 0 _ rfl
        have f24_3_0 := F54.out.2.2.2.1.fz 0
        have a24_3_1 := F54.out.2.2.2.1.cell 1 _ rfl
        have f24_3_1 := F54.out.2.2.2.1.fz 1
        have a24_3_2 := F54.out.2.2.2.1.cell 2 _ rfl
        have f24_3_2 := F54.out.2.2.2.1.fz 2
        have l24_4 := F54.out.2.2.2.2.1.lt
        have a24_4_0 := F54.out.2.2.2.2.1.cell 0 _ rfl
        have f24_4_0 := F54.out.2.2.2.2.1.fz 0
        have a24_4_1 := F54.out.2.2.2.2.1.cell 1 _ rfl
        have f24_4_1 := F54.out.2.2.2.2.1.fz 1
        have a24_4_2 := F54.out.2.2.2.2.1.cell 2 _ rfl
        have f24_4_2 := F54.out.2.2.2.2.1.fz 2
        have ne24_0_1 : ¬ w.heap.size = w.heap.size + 1 := by omega
        have ne24_0_2 : ¬ w.heap.size = w.heap.size + 1 + 1 := by omega
        have ne24_0_3 : ¬ w.heap.size = w21.heap.size := by omega
        have ne24_0_4 : ¬ w.heap.size = w21.heap.size + 1 := by omega
        have ne24_1_0 : ¬ w.heap.size + 1 = w.heap.size := by omega
        have ne24_1_2 : ¬ w.heap.size + 1 = w.heap.size + 1 + 1 := by omega
        have ne24_1_3 : ¬ w.heap.size + 1 = w21.heap.size := by omega
        have ne24_1_4 : ¬ w.heap.size + 1 = w21.heap.size + 1 := by omega
        have ne24_2_0 : ¬ w.heap.size + 1 + 1 = w.heap.size := by omega
        have ne24_2_1 : ¬ w.heap.size + 1 + 1 = w.heap.size + 1 := by omega
        have ne24_2_3 : ¬ w.heap.size + 1 + 1 = w21.heap.size := by omega
        have ne24_2_4 : ¬ w.heap.size + 1 + 1 = w21.heap.size + 1 := by omega
        have ne24_3_0 : ¬ w21.heap.size = w.heap.size := by omega
        have ne24_3_1 : ¬ w21.heap.size = w.heap.size + 1 := by omega
        have ne24_3_2 : ¬ w21.heap.size = w.heap.size + 1 + 1 := by omega
        have ne24_3_4 : ¬ w21.heap.size = w21.heap.size + 1 := by omega
        have ne24_4_0 : ¬ w21.heap.size + 1 = w.heap.size := by omega
        have ne24_4_1 : ¬ w21.heap.size + 1 = w.heap.size + 1 := by omega
        have ne24_4_2 : ¬ w21.heap.size + 1 = w.heap.size + 1 + 1 := by omega
        have ne24_4_3 : ¬ w21.heap.size + 1 = w21.heap.size := by omega
        go_upto_region 15 with fail
        have F55 : Hid (Bk (((w24.setCell ⟨w21.heap.size + 1, 0, none⟩ (.string u1)).setCell ⟨w21.heap.size + 1, 1, none⟩ (.int .i64 u2)).setCell ⟨w21.heap.size + 1, 2, none⟩ (.bool false)) (w.heap.size) [.string s, .int .i64 p, .bool false] ∧ Bk (((w24.setCell ⟨w21.heap.size + 1, 0, none⟩ (.string u1)).setCell ⟨w21.heap.size + 1, 1, none⟩ (.int .i64 u2)).setCell ⟨w21.heap.size + 1, 2, none⟩ (.bool false)) (w.heap.size + 1) [.string t, .int .i64 q, .bool false] ∧ Bk (((w24.setCell ⟨w21.heap.size + 1, 0, none⟩ (.string u1)).setCell ⟨w21.heap.size + 1, 1, none⟩ (.int .i64 u2)).setCell ⟨w21.heap.size + 1, 2, none⟩ (.bool false)) (w.heap.size + 1 + 1) [.string ⟨#[]⟩, .int .i64 0, .bool false] ∧ Bk (((w24.setCell ⟨w21.heap.size + 1, 0, none⟩ (.string u1)).setCell ⟨w21.heap.size + 1, 1, none⟩ (.int .i64 u2)).setCell ⟨w21.heap.size + 1, 2, none⟩ (.bool false)) (w21.heap.size) [.string s, .int .i64 p, .bool false] ∧ Bk (((w24.setCell ⟨w21.heap.size + 1, 0, none⟩ (.string u1)).setCell ⟨w21.heap.size + 1, 1, none⟩ (.int .i64 u2)).setCell ⟨w21.heap.size + 1, 2, none⟩ (.bool false)) (w21.heap.size + 1) [.string u1, .int .i64 u2, .bool false] ∧ Below w.heap.size w (((w24.setCell ⟨w21.heap.size + 1, 0, none⟩ (.string u1)).setCell ⟨w21.heap.size + 1, 1, none⟩ (.int .i64 u2)).setCell ⟨w21.heap.size + 1, 2, none⟩ (.bool false))) := ⟨(((F54.out.1).setC (by omega) 0 _).setC (by omega) 1 _).setC (by omega) 2 _, (((F54.out.2.1).setC (by omega) 0 _).setC (by omega) 1 _).setC (by omega) 2 _, (((F54.out.2.2.1).setC (by omega) 0 _).setC (by omega) 1 _).setC (by omega) 2 _, (((F54.out.2.2.2.1).setC (by omega) 0 _).setC (by omega) 1 _).setC (by omega) 2 _, (F54.out.2.2.2.2.1).fill3 _ _ _, (((F54.out.2.2.2.2.2).setCell (by show w.heap.size ≤ w21.heap.size + 1; omega) _).setCell (by show w.heap.size ≤ w21.heap.size + 1; omega) _).setCell (by show w.heap.size ≤ w21.heap.size + 1; omega) _⟩
        clear F54
        generalize (((w24.setCell ⟨w21.heap.size + 1, 0, none⟩ (.string u1)).setCell ⟨w21.heap.size + 1, 1, none⟩ (.int .i64 u2)).setCell ⟨w21.heap.size + 1, 2, none⟩ (.bool false)) = w25 at *
        clear l24_0 a24_0_0 f24_0_0 a24_0_1 f24_0_1 a24_0_2 f24_0_2 l24_1 a24_1_0 f24_1_0 a24_1_1 f24_1_1 a24_1_2 f24_1_2 l24_2 a24_2_0 f24_2_0 a24_2_1 f24_2_1 a24_2_2 f24_2_2 l24_3 a24_3_0 f24_3_0 a24_3_1 f24_3_1 a24_3_2 f24_3_2 l24_4 a24_4_0 f24_4_0 a24_4_1 f24_4_1 a24_4_2 f24_4_2
        have l25_0 := F55.out.1.lt
        have a25_0_0 := F55.out.1.cell 0 _ rfl
        have f25_0_0 := F55.out.1.fz 0
        have a25_0_1 := F55.out.1.cell 1 _ rfl
        have f25_0_1 := F55.out.1.fz 1
        have a25_0_2 := F55.out.1.cell 2 _ rfl
        have f25_0_2 := F55.out.1.fz 2
        have l25_1 := F55.out.2.1.lt
        have a25_1_0 := F55.out.2.1.cell 0 _ rfl
        have f25_1_0 := F55.out.2.1.fz 0
        have a25_1_1 := F55.out.2.1.cell 1 _ rfl
        have f25_1_1 := F55.out.2.1.fz 1
        have a25_1_2 := F55.out.2.1.cell 2 _ rfl
        have f25_1_2 := F55.out.2.1.fz 2
        have l25_2 := F55.out.2.2.1.lt
        have a25_2_0 := F55.out.2.2.1.cell 0 _ rfl
        have f25_2_0 := F55.out.2.2.1.fz 0
        have a25_2_1 := F55.out.2.2.1.cell 1 _ rfl
        have f25_2_1 := F55.out.2.2.1.fz 1
        have a25_2_2 := F55.out.2.2.1.cell 2 _ rfl
        have f25_2_2 := F55.out.2.2.1.fz 2
        have l25_3 := F55.out.2.2.2.1.lt
        have a25_3_0 := F55.out.2.2.2.1.cell 0 _ rfl
        have f25_3_0 := F55.out.2.2.2.1.fz 0
        have a25_3_1 := F55.out.2.2.2.1.cell 1 _ rfl
        have f25_3_1 := F55.out.2.2.2.1.fz 1
        have a25_3_2 := F55.out.2.2.2.1.cell 2 _ rfl
        have f25_3_2 := F55.out.2.2.2.1.fz 2
        have l25_4 := F55.out.2.2.2.2.1.lt
        have a25_4_0 := F55.out.2.2.2.2.1.cell 0 _ rfl
        have f25_4_0 := F55.out.2.2.2.2.1.fz 0
        have a25_4_1 := F55.out.2.2.2.2.1.cell 1 _ rfl
        have f25_4_1 := F55.out.2.2.2.2.1.fz 1
        have a25_4_2 := F55.out.2.2.2.2.1.cell 2 _ rfl
        have f25_4_2 := F55.out.2.2.2.2.1.fz 2
        have ne25_0_1 : ¬ w.heap.size = w.heap.size + 1 := by omega
        have ne25_0_2 : ¬ w.heap.size = w.heap.size + 1 + 1 := by omega
        have ne25_0_3 : ¬ w.heap.size = w21.heap.size := by omega
        have ne25_0_4 : ¬ w.heap.size = w21.heap.size + 1 := by omega
        have ne25_1_0 : ¬ w.heap.size + 1 = w.heap.size := by omega
        have ne25_1_2 : ¬ w.heap.size + 1 = w.heap.size + 1 + 1 := by omega
        have ne25_1_3 : ¬ w.heap.size + 1 = w21.heap.size := by omega
        have ne25_1_4 : ¬ w.heap.size + 1 = w21.heap.size + 1 := by omega
        have ne25_2_0 : ¬ w.heap.size + 1 + 1 = w.heap.size := by omega
        have ne25_2_1 : ¬ w.heap.size + 1 + 1 = w.heap.size + 1 := by omega
        have ne25_2_3 : ¬ w.heap.size + 1 + 1 = w21.heap.size := by omega
        have ne25_2_4 : ¬ w.heap.size + 1 + 1 = w21.heap.size + 1 := by omega
        have ne25_3_0 : ¬ w21.heap.size = w.heap.size := by omega
        have ne25_3_1 : ¬ w21.heap.size = w.heap.size + 1 := by omega
        have ne25_3_2 : ¬ w21.heap.size = w.heap.size + 1 + 1 := by omega
        have ne25_3_4 : ¬ w21.heap.size = w21.heap.size + 1 := by omega
        have ne25_4_0 : ¬ w21.heap.size + 1 = w.heap.size := by omega
        have ne25_4_1 : ¬ w21.heap.size + 1 = w.heap.size + 1 := by omega
        have ne25_4_2 : ¬ w21.heap.size + 1 = w.heap.size + 1 + 1 := by omega
        have ne25_4_3 : ¬ w21.heap.size + 1 = w21.heap.size := by omega
        go_wp2_with fail
        all_goals first | (exfalso; omega) | skip
        refine (HDn _).mono ?_
        rintro o26 w26 ⟨rfl, bb⟩
        have F56 : Hid (Bk w26 (w.heap.size) [.string s, .int .i64 p, .bool false] ∧ Bk w26 (w.heap.size + 1) [.string t, .int .i64 q, .bool false] ∧ Bk w26 (w.heap.size + 1 + 1) [.string ⟨#[]⟩, .int .i64 0, .bool false] ∧ Bk w26 (w21.heap.size) [.string s, .int .i64 p, .bool false] ∧ Bk w26 (w21.heap.size + 1) [.string u1, .int .i64 u2, .bool false] ∧ Below w.heap.size w w26) := ⟨(F55.out.1).step bb, (F55.out.2.1).step bb, (F55.out.2.2.1).step bb, (F55.out.2.2.2.1).step bb, (F55.out.2.2.2.2.1).step bb, (F55.out.2.2.2.2.2).trans (bb.mono (F55.out.2.2.2.2.2).size)⟩
        clear F55
        clear bb
        clear l25_0 a25_0_0 f25_0_0 a25_0_1 f25_0_1 a25_0_2 f25_0_2 l25_1 a25_1_0 f25_1_0 a25_1_1 f25_1_1 a25_1_2 f25_1_2 l25_2 a25_2_0 f25_2_0 a25_2_1 f25_2_1 a25_2_2 f25_2_2 l25_3 a25_3_0 f25_3_0 a25_3_1 f25_3_1 a25_3_2 f25_3_2 l25_4 a25_4_0 f25_4_0 a25_4_1 f25_4_1 a25_4_2 f25_4_2
        rcases Nat.eq_zero_or_pos u1.size with z0 | z0
        · have z8 : Hid (¬ (0 < (u1, u2).1.size ∧ (u1, u2).2 ≤ 1099511627776 ∧ (kn < 0 ∨ (kn = 0 ∧ false = true)))) := fun h => absurd h.1 (by show ¬ 0 < u1.size; omega)
          have HS2 : Hid (firstF f (n + 1) g = R) := (HSS _ (en.trans (stS_none (fun h => by first | (exact absurd h.2 (by omega)) | cases h.1) z8.out))).2 rfl
          clear HSS en z8
          have e5 : u1 = ⟨#[]⟩ := ByteArray.ext (Array.eq_empty_of_size_eq_zero z0)
          subst e5
          clear z0
          have l26_0 := F56.out.1.lt
          have a26_0_0 := F56.out.1.cell 0 _ rfl
          have f26_0_0 := F56.out.1.fz 0
          have a26_0_1 := F56.out.1.cell 1 _ rfl
          have f26_0_1 := F56.out.1.fz 1
          have a26_0_2 := F56.out.1.cell 2 _ rfl
          have f26_0_2 := F56.out.1.fz 2
          have l26_1 := F56.out.2.1.lt
          have a26_1_0 := F56.out.2.1.cell 0 _ rfl
          have f26_1_0 := F56.out.2.1.fz 0
          have a26_1_1 := F56.out.2.1.cell 1 _ rfl
          have f26_1_1 := F56.out.2.1.fz 1
          have a26_1_2 := F56.out.2.1.cell 2 _ rfl
          have f26_1_2 := F56.out.2.1.fz 2
          have l26_2 := F56.out.2.2.1.lt
          have a26_2_0 := F56.out.2.2.1.cell 0 _ rfl
          have f26_2_0 := F56.out.2.2.1.fz 0
          have a26_2_1 := F56.out.2.2.1.cell 1 _ rfl
          have f26_2_1 := F56.out.2.2.1.fz 1
          have a26_2_2 := F56.out.2.2.1.cell 2 _ rfl
          have f26_2_2 := F56.out.2.2.1.fz 2
          have l26_3 := F56.out.2.2.2.1.lt
          have a26_3_0 := F56.out.2.2.2.1.cell 0 _ rfl
          have f26_3_0 := F56.out.2.2.2.1.fz 0
          have a26_3_1 := F56.out.2.2.2.1.cell 1 _ rfl
          have f26_3_1 := F56.out.2.2.2.1.fz 1
          have a26_3_2 := F56.out.2.2.2.1.cell 2 _ rfl
          have f26_3_2 := F56.out.2.2.2.1.fz 2
          have l26_4 := F56.out.2.2.2.2.1.lt
          have a26_4_0 := F56.out.2.2.2.2.1.cell 0 _ rfl
          have f26_4_0 := F56.out.2.2.2.2.1.fz 0
          have a26_4_1 := F56.out.2.2.2.2.1.cell 1 _ rfl
          have f26_4_1 := F56.out.2.2.2.2.1.fz 1
          have a26_4_2 := F56.out.2.2.2.2.1.cell 2 _ rfl
          have f26_4_2 := F56.out.2.2.2.2.1.fz 2
          have ne26_0_1 : ¬ w.heap.size = w.heap.size + 1 := by omega
          have ne26_0_2 : ¬ w.heap.size = w.heap.size + 1 + 1 := by omega
          have ne26_0_3 : ¬ w.heap.size = w21.heap.size := by omega
          have ne26_0_4 : ¬ w.heap.size = w21.heap.size + 1 := by omega
          have ne26_1_0 : ¬ w.heap.size + 1 = w.heap.size := by omega
          have ne26_1_2 : ¬ w.heap.size + 1 = w.heap.size + 1 + 1 := by omega
          have ne26_1_3 : ¬ w.heap.size + 1 = w21.heap.size := by omega
          have ne26_1_4 : ¬ w.heap.size + 1 = w21.heap.size + 1 := by omega
          have ne26_2_0 : ¬ w.heap.size + 1 + 1 = w.heap.size := by omega
          have ne26_2_1 : ¬ w.heap.size + 1 + 1 = w.heap.size + 1 := by omega
          have ne26_2_3 : ¬ w.heap.size + 1 + 1 = w21.heap.size := by omega
          have ne26_2_4 : ¬ w.heap.size + 1 + 1 = w21.heap.size + 1 := by omega
          have ne26_3_0 : ¬ w21.heap.size = w.heap.size := by omega
          have ne26_3_1 : ¬ w21.heap.size = w.heap.size + 1 := by omega
          have ne26_3_2 : ¬ w21.heap.size = w.heap.size + 1 + 1 := by omega
          have ne26_3_4 : ¬ w21.heap.size = w21.heap.size + 1 := by omega
          have ne26_4_0 : ¬ w21.heap.size + 1 = w.heap.size := by omega
          have ne26_4_1 : ¬ w21.heap.size + 1 = w.heap.size + 1 := by omega
          have ne26_4_2 : ¬ w21.heap.size + 1 = w.heap.size + 1 + 1 := by omega
          have ne26_4_3 : ¬ w21.heap.size + 1 = w21.heap.size := by omega
          go_wp2
          go_roundg g
          case measure => omega
          case rel => exact ⟨n + 1, by go_num, by omega, by omega, ⟨F56.out.1, F56.out.2.1, F56.out.2.2.1, F56.out.2.2.2.2.2⟩, HS2.out⟩
        · have hu : u1.toList.isEmpty = false := empty_false z0
          by_cases z1 : u2 ≤ 1099511627776
          · rcases Int.lt_trichotomy kn 0 with z2 | z2 | z2
            · have z8 : Hid (0 < (u1, u2).1.size ∧ (u1, u2).2 ≤ 1099511627776 ∧ (kn < 0 ∨ (kn = 0 ∧ false = true))) := ⟨z0, z1, Or.inl z2⟩
              have e0 := (HSS _ (en.trans (stS_some (fun h => by first | (exact absurd h.2 (by omega)) | cases h.1) z8.out))).1 _ rfl
              subst e0
              clear HSS en z8
              have l26_0 := F56.out.1.lt
              have a26_0_0 := F56.out.1.cell 0 _ rfl
              have f26_0_0 := F56.out.1.fz 0
              have a26_0_1 := F56.out.1.cell 1 _ rfl
              have f26_0_1 := F56.out.1.fz 1
              have a26_0_2 := F56.out.1.cell 2 _ rfl
              have f26_0_2 := F56.out.1.fz 2
              have l26_1 := F56.out.2.1.lt
              have a26_1_0 := F56.out.2.1.cell 0 _ rfl
              have f26_1_0 := F56.out.2.1.fz 0
              have a26_1_1 := F56.out.2.1.cell 1 _ rfl
              have f26_1_1 := F56.out.2.1.fz 1
              have a26_1_2 := F56.out.2.1.cell 2 _ rfl
              have f26_1_2 := F56.out.2.1.fz 2
              have l26_2 := F56.out.2.2.1.lt
              have a26_2_0 := F56.out.2.2.1.cell 0 _ rfl
              have f26_2_0 := F56.out.2.2.1.fz 0
              have a26_2_1 := F56.out.2.2.1.cell 1 _ rfl
              have f26_2_1 := F56.out.2.2.1.fz 1
              have a26_2_2 := F56.out.2.2.1.cell 2 _ rfl
              have f26_2_2 := F56.out.2.2.1.fz 2
              have l26_3 := F56.out.2.2.2.1.lt
              have a26_3_0 := F56.out.2.2.2.1.cell 0 _ rfl
              have f26_3_0 := F56.out.2.2.2.1.fz 0
              have a26_3_1 := F56.out.2.2.2.1.cell 1 _ rfl
              have f26_3_1 := F56.out.2.2.2.1.fz 1
              have a26_3_2 := F56.out.2.2.2.1.cell 2 _ rfl
              have f26_3_2 := F56.out.2.2.2.1.fz 2
              have l26_4 := F56.out.2.2.2.2.1.lt
              have a26_4_0 := F56.out.2.2.2.2.1.cell 0 _ rfl
              have f26_4_0 := F56.out.2.2.2.2.1.fz 0
              have a26_4_1 := F56.out.2.2.2.2.1.cell 1 _ rfl
              have f26_4_1 := F56.out.2.2.2.2.1.fz 1
              have a26_4_2 := F56.out.2.2.2.2.1.cell 2 _ rfl
              have f26_4_2 := F56.out.2.2.2.2.1.fz 2
              have ne26_0_1 : ¬ w.heap.size = w.heap.size + 1 := by omega
              have ne26_0_2 : ¬ w.heap.size = w.heap.size + 1 + 1 := by omega
              have ne26_0_3 : ¬ w.heap.size = w21.heap.size := by omega
              have ne26_0_4 : ¬ w.heap.size = w21.heap.size + 1 := by omega
              have ne26_1_0 : ¬ w.heap.size + 1 = w.heap.size := by omega
              have ne26_1_2 : ¬ w.heap.size + 1 = w.heap.size + 1 + 1 := by omega
              have ne26_1_3 : ¬ w.heap.size + 1 = w21.heap.size := by omega
              have ne26_1_4 : ¬ w.heap.size + 1 = w21.heap.size + 1 := by omega
              have ne26_2_0 : ¬ w.heap.size + 1 + 1 = w.heap.size := by omega
              have ne26_2_1 : ¬ w.heap.size + 1 + 1 = w.heap.size + 1 := by omega
              have ne26_2_3 : ¬ w.heap.size + 1 + 1 = w21.heap.size := by omega
              have ne26_2_4 : ¬ w.heap.size + 1 + 1 = w21.heap.size + 1 := by omega
              have ne26_3_0 : ¬ w21.heap.size = w.heap.size := by omega
              have ne26_3_1 : ¬ w21.heap.size = w.heap.size + 1 := by omega
              have ne26_3_2 : ¬ w21.heap.size = w.heap.size + 1 + 1 := by omega
              have ne26_3_4 : ¬ w21.heap.size = w21.heap.size + 1 := by omega
              have ne26_4_0 : ¬ w21.heap.size + 1 = w.heap.size := by omega
              have ne26_4_1 : ¬ w21.heap.size + 1 = w.heap.size + 1 := by omega
              have ne26_4_2 : ¬ w21.heap.size + 1 = w.heap.size + 1 + 1 := by omega
              have ne26_4_3 : ¬ w21.heap.size + 1 = w21.heap.size := by omega
              go_wp2
              refine bodyPost_ret (v := .tuple #[.agg #[.string u1, .int .i64 u2, .bool false], .int .i64 0]) (by simp [results, Tryz.results17, go_sem, World.cell?_setCell_same, World.cell?_setCell_other, *]) rfl ⟨rfl, ?_⟩
              repeat (first | refine Below.setCell ?_ (by first | exact Nat.le_refl _ | (dsimp only; omega)) _ | refine Below.alloc ?_ (by first | exact Nat.le_refl _ | omega | (simp; omega)) _ | refine Below.drew ?_)
              exact F56.out.2.2.2.2.2
            · have z8 : Hid (¬ (0 < (u1, u2).1.size ∧ (u1, u2).2 ≤ 1099511627776 ∧ (kn < 0 ∨ (kn = 0 ∧ false = true)))) := fun h => by rcases h.2.2 with a | ⟨_, a⟩; omega; cases a
              subst z2
              have HS2 : Hid (firstF f (n + 1) g = R) := (HSS _ (en.trans (stS_none (fun h => by first | (exact absurd h.2 (by omega)) | cases h.1) z8.out))).2 rfl
              clear HSS en z8
              have l26_0 := F56.out.1.lt
              have a26_0_0 := F56.out.1.cell 0 _ rfl
              have f26_0_0 := F56.out.1.fz 0
              have a26_0_1 := F56.out.1.cell 1 _ rfl
              have f26_0_1 := F56.out.1.fz 1
              have a26_0_2 := F56.out.1.cell 2 _ rfl
              have f26_0_2 := F56.out.1.fz 2
              have l26_1 := F56.out.2.1.lt
              have a26_1_0 := F56.out.2.1.cell 0 _ rfl
              have f26_1_0 := F56.out.2.1.fz 0
              have a26_1_1 := F56.out.2.1.cell 1 _ rfl
              have f26_1_1 := F56.out.2.1.fz 1
              have a26_1_2 := F56.out.2.1.cell 2 _ rfl
              have f26_1_2 := F56.out.2.1.fz 2
              have l26_2 := F56.out.2.2.1.lt
              have a26_2_0 := F56.out.2.2.1.cell 0 _ rfl
              have f26_2_0 := F56.out.2.2.1.fz 0
              have a26_2_1 := F56.out.2.2.1.cell 1 _ rfl
              have f26_2_1 := F56.out.2.2.1.fz 1
              have a26_2_2 := F56.out.2.2.1.cell 2 _ rfl
              have f26_2_2 := F56.out.2.2.1.fz 2
              have l26_3 := F56.out.2.2.2.1.lt
              have a26_3_0 := F56.out.2.2.2.1.cell 0 _ rfl
              have f26_3_0 := F56.out.2.2.2.1.fz 0
              have a26_3_1 := F56.out.2.2.2.1.cell 1 _ rfl
              have f26_3_1 := F56.out.2.2.2.1.fz 1
              have a26_3_2 := F56.out.2.2.2.1.cell 2 _ rfl
              have f26_3_2 := F56.out.2.2.2.1.fz 2
              have l26_4 := F56.out.2.2.2.2.1.lt
              have a26_4_0 := F56.out.2.2.2.2.1.cell 0 _ rfl
              have f26_4_0 := F56.out.2.2.2.2.1.fz 0
              have a26_4_1 := F56.out.2.2.2.2.1.cell 1 _ rfl
              have f26_4_1 := F56.out.2.2.2.2.1.fz 1
              have a26_4_2 := F56.out.2.2.2.2.1.cell 2 _ rfl
              have f26_4_2 := F56.out.2.2.2.2.1.fz 2
              have ne26_0_1 : ¬ w.heap.size = w.heap.size + 1 := by omega
              have ne26_0_2 : ¬ w.heap.size = w.heap.size + 1 + 1 := by omega
              have ne26_0_3 : ¬ w.heap.size = w21.heap.size := by omega
              have ne26_0_4 : ¬ w.heap.size = w21.heap.size + 1 := by omega
              have ne26_1_0 : ¬ w.heap.size + 1 = w.heap.size := by omega
              have ne26_1_2 : ¬ w.heap.size + 1 = w.heap.size + 1 + 1 := by omega
              have ne26_1_3 : ¬ w.heap.size + 1 = w21.heap.size := by omega
              have ne26_1_4 : ¬ w.heap.size + 1 = w21.heap.size + 1 := by omega
              have ne26_2_0 : ¬ w.heap.size + 1 + 1 = w.heap.size := by omega
              have ne26_2_1 : ¬ w.heap.size + 1 + 1 = w.heap.size + 1 := by omega
              have ne26_2_3 : ¬ w.heap.size + 1 + 1 = w21.heap.size := by omega
              have ne26_2_4 : ¬ w.heap.size + 1 + 1 = w21.heap.size + 1 := by omega
              have ne26_3_0 : ¬ w21.heap.size = w.heap.size := by omega
              have ne26_3_1 : ¬ w21.heap.size = w.heap.size + 1 := by omega
              have ne26_3_2 : ¬ w21.heap.size = w.heap.size + 1 + 1 := by omega
              have ne26_3_4 : ¬ w21.heap.size = w21.heap.size + 1 := by omega
              have ne26_4_0 : ¬ w21.heap.size + 1 = w.heap.size := by omega
              have ne26_4_1 : ¬ w21.heap.size + 1 = w.heap.size + 1 := by omega
              have ne26_4_2 : ¬ w21.heap.size + 1 = w.heap.size + 1 + 1 := by omega
              have ne26_4_3 : ¬ w21.heap.size + 1 = w21.heap.size := by omega
              go_wp2
              go_roundg g
              case measure => omega
              case rel => exact ⟨n + 1, by go_num, by omega, by omega, ⟨F56.out.1, F56.out.2.1, F56.out.2.2.1, F56.out.2.2.2.2.2⟩, HS2.out⟩
            · have z8 : Hid (¬ (0 < (u1, u2).1.size ∧ (u1, u2).2 ≤ 1099511627776 ∧ (kn < 0 ∨ (kn = 0 ∧ false = true)))) := fun h => by rcases h.2.2 with a | ⟨a, _⟩ <;> omega
              have z7 : (kn == 0) = false := beq_eq_false_iff_ne.mpr (by omega)
              have z6 : ¬ kn < 0 := by omega
              have HS2 : Hid (firstF f (n + 1) g = R) := (HSS _ (en.trans (stS_none (fun h => by first | (exact absurd h.2 (by omega)) | cases h.1) z8.out))).2 rfl
              clear HSS en z8
              have l26_0 := F56.out.1.lt
              have a26_0_0 := F56.out.1.cell 0 _ rfl
              have f26_0_0 := F56.out.1.fz 0
              have a26_0_1 := F56.out.1.cell 1 _ rfl
              have f26_0_1 := F56.out.1.fz 1
              have a26_0_2 := F56.out.1.cell 2 _ rfl
              have f26_0_2 := F56.out.1.fz 2
              have l26_1 := F56.out.2.1.lt
              have a26_1_0 := F56.out.2.1.cell 0 _ rfl
              have f26_1_0 := F56.out.2.1.fz 0
              have a26_1_1 := F56.out.2.1.cell 1 _ rfl
              have f26_1_1 := F56.out.2.1.fz 1
              have a26_1_2 := F56.out.2.1.cell 2 _ rfl
              have f26_1_2 := F56.out.2.1.fz 2
              have l26_2 := F56.out.2.2.1.lt
              have a26_2_0 := F56.out.2.2.1.cell 0 _ rfl
              have f26_2_0 := F56.out.2.2.1.fz 0
              have a26_2_1 := F56.out.2.2.1.cell 1 _ rfl
              have f26_2_1 := F56.out.2.2.1.fz 1
              have a26_2_2 := F56.out.2.2.1.cell 2 _ rfl
              have f26_2_2 := F56.out.2.2.1.fz 2
              have l26_3 := F56.out.2.2.2.1.lt
              have a26_3_0 := F56.out.2.2.2.1.cell 0 _ rfl
              have f26_3_0 := F56.out.2.2.2.1.fz 0
              have a26_3_1 := F56.out.2.2.2.1.cell 1 _ rfl
              have f26_3_1 := F56.out.2.2.2.1.fz 1
              have a26_3_2 := F56.out.2.2.2.1.cell 2 _ rfl
              have f26_3_2 := F56.out.2.2.2.1.fz 2
              have l26_4 := F56.out.2.2.2.2.1.lt
              have a26_4_0 := F56.out.2.2.2.2.1.cell 0 _ rfl
              have f26_4_0 := F56.out.2.2.2.2.1.fz 0
              have a26_4_1 := F56.out.2.2.2.2.1.cell 1 _ rfl
              have f26_4_1 := F56.out.2.2.2.2.1.fz 1
              have a26_4_2 := F56.out.2.2.2.2.1.cell 2 _ rfl
              have f26_4_2 := F56.out.2.2.2.2.1.fz 2
              have ne26_0_1 : ¬ w.heap.size = w.heap.size + 1 := by omega
              have ne26_0_2 : ¬ w.heap.size = w.heap.size + 1 + 1 := by omega
              have ne26_0_3 : ¬ w.heap.size = w21.heap.size := by omega
              have ne26_0_4 : ¬ w.heap.size = w21.heap.size + 1 := by omega
              have ne26_1_0 : ¬ w.heap.size + 1 = w.heap.size := by omega
              have ne26_1_2 : ¬ w.heap.size + 1 = w.heap.size + 1 + 1 := by omega
              have ne26_1_3 : ¬ w.heap.size + 1 = w21.heap.size := by omega
              have ne26_1_4 : ¬ w.heap.size + 1 = w21.heap.size + 1 := by omega
              have ne26_2_0 : ¬ w.heap.size + 1 + 1 = w.heap.size := by omega
              have ne26_2_1 : ¬ w.heap.size + 1 + 1 = w.heap.size + 1 := by omega
              have ne26_2_3 : ¬ w.heap.size + 1 + 1 = w21.heap.size := by omega
              have ne26_2_4 : ¬ w.heap.size + 1 + 1 = w21.heap.size + 1 := by omega
              have ne26_3_0 : ¬ w21.heap.size = w.heap.size := by omega
              have ne26_3_1 : ¬ w21.heap.size = w.heap.size + 1 := by omega
              have ne26_3_2 : ¬ w21.heap.size = w.heap.size + 1 + 1 := by omega
              have ne26_3_4 : ¬ w21.heap.size = w21.heap.size + 1 := by omega
              have ne26_4_0 : ¬ w21.heap.size + 1 = w.heap.size := by omega
              have ne26_4_1 : ¬ w21.heap.size + 1 = w.heap.size + 1 := by omega
              have ne26_4_2 : ¬ w21.heap.size + 1 = w.heap.size + 1 + 1 := by omega
              have ne26_4_3 : ¬ w21.heap.size + 1 = w21.heap.size := by omega
              go_wp2
              go_roundg g
              case measure => omega
              case rel => exact ⟨n + 1, by go_num, by omega, by omega, ⟨F56.out.1, F56.out.2.1, F56.out.2.2.1, F56.out.2.2.2.2.2⟩, HS2.out⟩
          · have z8 : Hid (¬ (0 < (u1, u2).1.size ∧ (u1, u2).2 ≤ 1099511627776 ∧ (kn < 0 ∨ (kn = 0 ∧ false = true)))) := fun h => z1 h.2.1
            have HS2 : Hid (firstF f (n + 1) g = R) := (HSS _ (en.trans (stS_none (fun h => by first | (exact absurd h.2 (by omega)) | cases h.1) z8.out))).2 rfl
            clear HSS en z8
            have l26_0 := F56.out.1.lt
            have a26_0_0 := F56.out.1.cell 0 _ rfl
            have f26_0_0 := F56.out.1.fz 0
            have a26_0_1 := F56.out.1.cell 1 _ rfl
            have f26_0_1 := F56.out.1.fz 1
            have a26_0_2 := F56.out.1.cell 2 _ rfl
            have f26_0_2 := F56.out.1.fz 2
            have l26_1 := F56.out.2.1.lt
            have a26_1_0 := F56.out.2.1.cell 0 _ rfl
            have f26_1_0 := F56.out.2.1.fz 0
            have a26_1_1 := F56.out.2.1.cell 1 _ rfl
            have f26_1_1 := F56.out.2.1.fz 1
            have a26_1_2 := F56.out.2.1.cell 2 _ rfl
            have f26_1_2 := F56.out.2.1.fz 2
            have l26_2 := F56.out.2.2.1.lt
            have a26_2_0 := F56.out.2.2.1.cell 0 _ rfl
            have f26_2_0 := F56.out.2.2.1.fz 0
            have a26_2_1 := F56.out.2.2.1.cell 1 _ rfl
            have f26_2_1 := F56.out.2.2.1.fz 1
            have a26_2_2 := F56.out.2.2.1.cell 2 _ rfl
            have f26_2_2 := F56.out.2.2.1.fz 2
            have l26_3 := F56.out.2.2.2.1.lt
            have a26_3_0 := F56.out.2.2.2.1.cell 0 _ rfl
            have f26_3_0 := F56.out.2.2.2.1.fz 0
            have a26_3_1 := F56.out.2.2.2.1.cell 1 _ rfl
            have f26_3_1 := F56.out.2.2.2.1.fz 1
            have a26_3_2 := F56.out.2.2.2.1.cell 2 _ rfl
            have f26_3_2 := F56.out.2.2.2.1.fz 2
            have l26_4 := F56.out.2.2.2.2.1.lt
            have a26_4_0 := F56.out.2.2.2.2.1.cell 0 _ rfl
            have f26_4_0 := F56.out.2.2.2.2.1.fz 0
            have a26_4_1 := F56.out.2.2.2.2.1.cell 1 _ rfl
            have f26_4_1 := F56.out.2.2.2.2.1.fz 1
            have a26_4_2 := F56.out.2.2.2.2.1.cell 2 _ rfl
            have f26_4_2 := F56.out.2.2.2.2.1.fz 2
            have ne26_0_1 : ¬ w.heap.size = w.heap.size + 1 := by omega
            have ne26_0_2 : ¬ w.heap.size = w.heap.size + 1 + 1 := by omega
            have ne26_0_3 : ¬ w.heap.size = w21.heap.size := by omega
            have ne26_0_4 : ¬ w.heap.size = w21.heap.size + 1 := by omega
            have ne26_1_0 : ¬ w.heap.size + 1 = w.heap.size := by omega
            have ne26_1_2 : ¬ w.heap.size + 1 = w.heap.size + 1 + 1 := by omega
            have ne26_1_3 : ¬ w.heap.size + 1 = w21.heap.size := by omega
            have ne26_1_4 : ¬ w.heap.size + 1 = w21.heap.size + 1 := by omega
            have ne26_2_0 : ¬ w.heap.size + 1 + 1 = w.heap.size := by omega
            have ne26_2_1 : ¬ w.heap.size + 1 + 1 = w.heap.size + 1 := by omega
            have ne26_2_3 : ¬ w.heap.size + 1 + 1 = w21.heap.size := by omega
            have ne26_2_4 : ¬ w.heap.size + 1 + 1 = w21.heap.size + 1 := by omega
            have ne26_3_0 : ¬ w21.heap.size = w.heap.size := by omega
            have ne26_3_1 : ¬ w21.heap.size = w.heap.size + 1 := by omega
            have ne26_3_2 : ¬ w21.heap.size = w.heap.size + 1 + 1 := by omega
            have ne26_3_4 : ¬ w21.heap.size = w21.heap.size + 1 := by omega
            have ne26_4_0 : ¬ w21.heap.size + 1 = w.heap.size := by omega
            have ne26_4_1 : ¬ w21.heap.size + 1 = w.heap.size + 1 := by omega
            have ne26_4_2 : ¬ w21.heap.size + 1 = w.heap.size + 1 + 1 := by omega
            have ne26_4_3 : ¬ w21.heap.size + 1 = w21.heap.size := by omega
            go_wp2
            go_roundg g
            case measure => omega
            case rel => exact ⟨n + 1, by go_num, by omega, by omega, ⟨F56.out.1, F56.out.2.1, F56.out.2.2.1, F56.out.2.2.2.2.2⟩, HS2.out⟩
      · have ln : ¬ (s.size : Int) ≤ (n : Int) := by omega
        have e7 := hrn (by omega)
        injection e7 with e8 e9
        subst e8
        subst e9
        clear HAn hrn
        have l21_0 := F50.out.1.lt
        have a21_0_0 := F50.out.1.cell 0 _ rfl
        have f21_0_0 := F50.out.1.fz 0
        have a21_0_1 := F50.out.1.cell 1 _ rfl
        have f21_0_1 := F50.out.1.fz 1
        have a21_0_2 := F50.out.1.cell 2 _ rfl
        have f21_0_2 := F50.out.1.fz 2
        have l21_1 := F50.out.2.1.lt
        have a21_1_0 := F50.out.2.1.cell 0 _ rfl
        have f21_1_0 := F50.out.2.1.fz 0
        have a21_1_1 := F50.out.2.1.cell 1 _ rfl
        have f21_1_1 := F50.out.2.1.fz 1
        have a21_1_2 := F50.out.2.1.cell 2 _ rfl
        have f21_1_2 := F50.out.2.1.fz 2
        have l21_2 := F50.out.2.2.1.lt
        have a21_2_0 := F50.out.2.2.1.cell 0 _ rfl
        have f21_2_0 := F50.out.2.2.1.fz 0
        have a21_2_1 := F50.out.2.2.1.cell 1 _ rfl
        have f21_2_1 := F50.out.2.2.1.fz 1
        have a21_2_2 := F50.out.2.2.1.cell 2 _ rfl
        have f21_2_2 := F50.out.2.2.1.fz 2
        have ne21_0_1 : ¬ w.heap.size = w.heap.size + 1 := by omega
        have ne21_0_2 : ¬ w.heap.size = w.heap.size + 1 + 1 := by omega
        have ne21_1_0 : ¬ w.heap.size + 1 = w.heap.size := by omega
        have ne21_1_2 : ¬ w.heap.size + 1 = w.heap.size + 1 + 1 := by omega
        have ne21_2_0 : ¬ w.heap.size + 1 + 1 = w.heap.size := by omega
        have ne21_2_1 : ¬ w.heap.size + 1 + 1 = w.heap.size + 1 := by omega
        go_wp2_with fail
        all_goals first | (exfalso; omega) | skip
        refine (HRn _).mono ?_
        rintro o21 w21 ⟨rfl, bb⟩
        have F51 : Hid (Bk w21 (w.heap.size) [.string s, .int .i64 p, .bool false] ∧ Bk w21 (w.heap.size + 1) [.string t, .int .i64 q, .bool false] ∧ Bk w21 (w.heap.size + 1 + 1) [.string ⟨#[]⟩, .int .i64 0, .bool false] ∧ Below w.heap.size w w21) := ⟨(F50.out.1).step bb, (F50.out.2.1).step bb, (F50.out.2.2.1).step bb, (F50.out.2.2.2).trans (bb.mono (F50.out.2.2.2).size)⟩
        clear F50
        clear bb
        clear l21_0 a21_0_0 f21_0_0 a21_0_1 f21_0_1 a21_0_2 f21_0_2 l21_1 a21_1_0 f21_1_0 a21_1_1 f21_1_1 a21_1_2 f21_1_2 l21_2 a21_2_0 f21_2_0 a21_2_1 f21_2_1 a21_2_2 f21_2_2
        have lt0_3 := (F51.out.1).lt
        have lt1_3 := (F51.out.2.1).lt
        have lt2_3 := (F51.out.2.2.1).lt
        have le3 := (F51.out.2.2.2).size
        have F52 : Hid (Bk ((w21.alloc (.cells #[.string d1, .int .i64 d2, .bool false] 24)).alloc (.cells #[.string r1, .int .i64 r2, .bool false] 24)) (w.heap.size) [.string s, .int .i64 p, .bool false] ∧ Bk ((w21.alloc (.cells #[.string d1, .int .i64 d2, .bool false] 24)).alloc (.cells #[.string r1, .int .i64 r2, .bool false] 24)) (w.heap.size + 1) [.string t, .int .i64 q, .bool false] ∧ Bk ((w21.alloc (.cells #[.string d1, .int .i64 d2, .bool false] 24)).alloc (.cells #[.string r1, .int .i64 r2, .bool false] 24)) (w.heap.size + 1 + 1) [.string ⟨#[]⟩, .int .i64 0, .bool false] ∧ Bk ((w21.alloc (.cells #[.string d1, .int .i64 d2, .bool false] 24)).alloc (.cells #[.string r1, .int .i64 r2, .bool false] 24)) (w21.heap.size) [.string d1, .int .i64 d2, .bool false] ∧ Bk ((w21.alloc (.cells #[.string d1, .int .i64 d2, .bool false] 24)).alloc (.cells #[.string r1, .int .i64 r2, .bool false] 24)) (w21.heap.size + 1) [.string r1, .int .i64 r2, .bool false] ∧ Below w.heap.size w ((w21.alloc (.cells #[.string d1, .int .i64 d2, .bool false] 24)).alloc (.cells #[.string r1, .int .i64 r2, .bool false] 24))) := ⟨((F51.out.1).step ((Below.refl _ _).alloc (Nat.le_refl _) _)).step ((Below.refl _ _).alloc (Nat.le_refl _) _), ((F51.out.2.1).step ((Below.refl _ _).alloc (Nat.le_refl _) _)).step ((Below.refl _ _).alloc (Nat.le_refl _) _), ((F51.out.2.2.1).step ((Below.refl _ _).alloc (Nat.le_refl _) _)).step ((Below.refl _ _).alloc (Nat.le_refl _) _), (Bk.new3 w21 (.string d1) (.int .i64 d2) (.bool false) 24).step ((Below.refl _ _).alloc (Nat.le_refl _) _), ((by have q := Bk.new3 (w21.alloc (.cells #[.string d1, .int .i64 d2, .bool false] 24)) (.string r1) (.int .i64 r2) (.bool false) 24; simpa using q) : Bk ((w21.alloc (.cells #[.string d1, .int .i64 d2, .bool false] 24)).alloc (.cells #[.string r1, .int .i64 r2, .bool false] 24)) (w21.heap.size + 1) [.string r1, .int .i64 r2, .bool false]), ((F51.out.2.2.2).alloc ((F51.out.2.2.2).size) _).alloc (((F51.out.2.2.2).alloc ((F51.out.2.2.2).size) _).size) _⟩
        clear F51
        go_upto_region 12 with fail
        generalize ((w21.alloc (.cells #[.string d1, .int .i64 d2, .bool false] 24)).alloc (.cells #[.string r1, .int .i64 r2, .bool false] 24)) = w22 at *
        have l22_0 := F52.out.1.lt
        have a22_0_0 := F52.out.1.cell 0 _ rfl
        have f22_0_0 := F52.out.1.fz 0
        have a22_0_1 := F52.out.1.cell 1 _ rfl
        have f22_0_1 := F52.out.1.fz 1
        have a22_0_2 := F52.out.1.cell 2 _ rfl
        have f22_0_2 := F52.out.1.fz 2
        have l22_1 := F52.out.2.1.lt
        have a22_1_0 := F52.out.2.1.cell 0 _ rfl
        have f22_1_0 := F52.out.2.1.fz 0
        have a22_1_1 := F52.out.2.1.cell 1 _ rfl
        have f22_1_1 := F52.out.2.1.fz 1
        have a22_1_2 := F52.out.2.1.cell 2 _ rfl
        have f22_1_2 := F52.out.2.1.fz 2
        have l22_2 := F52.out.2.2.1.lt
        have a22_2_0 := F52.out.2.2.1.cell 0 _ rfl
        have f22_2_0 := F52.out.2.2.1.fz 0
        have a22_2_1 := F52.out.2.2.1.cell 1 _ rfl
        have f22_2_1 := F52.out.2.2.1.fz 1
        have a22_2_2 := F52.out.2.2.1.cell 2 _ rfl
        have f22_2_2 := F52.out.2.2.1.fz 2
        have l22_3 := F52.out.2.2.2.1.lt
        have a22_3_0 := F52.out.2.2.2.1.cell 0 _ rfl
        have f22_3_0 := F52.out.2.2.2.1.fz 0
        have a22_3_1 := F52.out.2.2.2.1.cell 1 _ rfl
        have f22_3_1 := F52.out.2.2.2.1.fz 1
        have a22_3_2 := F52.out.2.2.2.1.cell 2 _ rfl
        have f22_3_2 := F52.out.2.2.2.1.fz 2
        have l22_4 := F52.out.2.2.2.2.1.lt
        have a22_4_0 := F52.out.2.2.2.2.1.cell 0 _ rfl
        have f22_4_0 := F52.out.2.2.2.2.1.fz 0
        have a22_4_1 := F52.out.2.2.2.2.1.cell 1 _ rfl
        have f22_4_1 := F52.out.2.2.2.2.1.fz 1
        have a22_4_2 := F52.out.2.2.2.2.1.cell 2 _ rfl
        have f22_4_2 := F52.out.2.2.2.2.1.fz 2
        have ne22_0_1 : ¬ w.heap.size = w.heap.size + 1 := by omega
        have ne22_0_2 : ¬ w.heap.size = w.heap.size + 1 + 1 := by omega
        have ne22_0_3 : ¬ w.heap.size = w21.heap.size := by omega
        have ne22_0_4 : ¬ w.heap.size = w21.heap.size + 1 := by omega
        have ne22_1_0 : ¬ w.heap.size + 1 = w.heap.size := by omega
        have ne22_1_2 : ¬ w.heap.size + 1 = w.heap.size + 1 + 1 := by omega
        have ne22_1_3 : ¬ w.heap.size + 1 = w21.heap.size := by omega
        have ne22_1_4 : ¬ w.heap.size + 1 = w21.heap.size + 1 := by omega
        have ne22_2_0 : ¬ w.heap.size + 1 + 1 = w.heap.size := by omega
        have ne22_2_1 : ¬ w.heap.size + 1 + 1 = w.heap.size + 1 := by omega
        have ne22_2_3 : ¬ w.heap.size + 1 + 1 = w21.heap.size := by omega
        have ne22_2_4 : ¬ w.heap.size + 1 + 1 = w21.heap.size + 1 := by omega
        have ne22_3_0 : ¬ w21.heap.size = w.heap.size := by omega
        have ne22_3_1 : ¬ w21.heap.size = w.heap.size + 1 := by omega
        have ne22_3_2 : ¬ w21.heap.size = w.heap.size + 1 + 1 := by omega
        have ne22_3_4 : ¬ w21.heap.size = w21.heap.size + 1 := by omega
        have ne22_4_0 : ¬ w21.heap.size + 1 = w.heap.size := by omega
        have ne22_4_1 : ¬ w21.heap.size + 1 = w.heap.size + 1 := by omega
        have ne22_4_2 : ¬ w21.heap.size + 1 = w.heap.size + 1 + 1 := by omega
        have ne22_4_3 : ¬ w21.heap.size + 1 = w21.heap.size := by omega
        go_wp2_with fail
        all_goals first | (exfalso; omega) | skip
        refine (HDn _).mono ?_
        rintro o23 w23 ⟨rfl, bb⟩
        have F53 : Hid (Bk w23 (w.heap.size) [.string s, .int .i64 p, .bool false] ∧ Bk w23 (w.heap.size + 1) [.string t, .int .i64 q, .bool false] ∧ Bk w23 (w.heap.size + 1 + 1) [.string ⟨#[]⟩, .int .i64 0, .bool false] ∧ Bk w23 (w21.heap.size) [.string d1, .int .i64 d2, .bool false] ∧ Bk w23 (w21.heap.size + 1) [.string r1, .int .i64 r2, .bool false] ∧ Below w.heap.size w w23) := ⟨(F52.out.1).step bb, (F52.out.2.1).step bb, (F52.out.2.2.1).step bb, (F52.out.2.2.2.1).step bb, (F52.out.2.2.2.2.1).step bb, (F52.out.2.2.2.2.2).trans (bb.mono (F52.out.2.2.2.2.2).size)⟩
        clear F52
        clear bb
        clear l22_0 a22_0_0 f22_0_0 a22_0_1 f22_0_1 a22_0_2 f22_0_2 l22_1 a22_1_0 f22_1_0 a22_1_1 f22_1_1 a22_1_2 f22_1_2 l22_2 a22_2_0 f22_2_0 a22_2_1 f22_2_1 a22_2_2 f22_2_2 l22_3 a22_3_0 f22_3_0 a22_3_1 f22_3_1 a22_3_2 f22_3_2 l22_4 a22_4_0 f22_4_0 a22_4_1 f22_4_1 a22_4_2 f22_4_2
        rcases Nat.eq_zero_or_pos r1.size with z0 | z0
        · have z8 : Hid (¬ (0 < (r1, r2).1.size ∧ (r1, r2).2 ≤ 1099511627776 ∧ (kn < 0 ∨ (kn = 0 ∧ false = true)))) := fun h => absurd h.1 (by show ¬ 0 < r1.size; omega)
          have HS2 : Hid (firstF f (n + 1) g = R) := (HSS _ (en.trans (stS_none (fun h => by first | (exact absurd h.2 (by omega)) | cases h.1) z8.out))).2 rfl
          clear HSS en z8
          have e5 : r1 = ⟨#[]⟩ := ByteArray.ext (Array.eq_empty_of_size_eq_zero z0)
          subst e5
          clear z0
          have l23_0 := F53.out.1.lt
          have a23_0_0 := F53.out.1.cell 0 _ rfl
          have f23_0_0 := F53.out.1.fz 0
          have a23_0_1 := F53.out.1.cell 1 _ rfl
          have f23_0_1 := F53.out.1.fz 1
          have a23_0_2 := F53.out.1.cell 2 _ rfl
          have f23_0_2 := F53.out.1.fz 2
          have l23_1 := F53.out.2.1.lt
          have a23_1_0 := F53.out.2.1.cell 0 _ rfl
          have f23_1_0 := F53.out.2.1.fz 0
          have a23_1_1 := F53.out.2.1.cell 1 _ rfl
          have f23_1_1 := F53.out.2.1.fz 1
          have a23_1_2 := F53.out.2.1.cell 2 _ rfl
          have f23_1_2 := F53.out.2.1.fz 2
          have l23_2 := F53.out.2.2.1.lt
          have a23_2_0 := F53.out.2.2.1.cell 0 _ rfl
          have f23_2_0 := F53.out.2.2.1.fz 0
          have a23_2_1 := F53.out.2.2.1.cell 1 _ rfl
          have f23_2_1 := F53.out.2.2.1.fz 1
          have a23_2_2 := F53.out.2.2.1.cell 2 _ rfl
          have f23_2_2 := F53.out.2.2.1.fz 2
          have l23_3 := F53.out.2.2.2.1.lt
          have a23_3_0 := F53.out.2.2.2.1.cell 0 _ rfl
          have f23_3_0 := F53.out.2.2.2.1.fz 0
          have a23_3_1 := F53.out.2.2.2.1.cell 1 _ rfl
          have f23_3_1 := F53.out.2.2.2.1.fz 1
          have a23_3_2 := F53.out.2.2.2.1.cell 2 _ rfl
          have f23_3_2 := F53.out.2.2.2.1.fz 2
          have l23_4 := F53.out.2.2.2.2.1.lt
          have a23_4_0 := F53.out.2.2.2.2.1.cell 0 _ rfl
          have f23_4_0 := F53.out.2.2.2.2.1.fz 0
          have a23_4_1 := F53.out.2.2.2.2.1.cell 1 _ rfl
          have f23_4_1 := F53.out.2.2.2.2.1.fz 1
          have a23_4_2 := F53.out.2.2.2.2.1.cell 2 _ rfl
          have f23_4_2 := F53.out.2.2.2.2.1.fz 2
          have ne23_0_1 : ¬ w.heap.size = w.heap.size + 1 := by omega
          have ne23_0_2 : ¬ w.heap.size = w.heap.size + 1 + 1 := by omega
          have ne23_0_3 : ¬ w.heap.size = w21.heap.size := by omega
          have ne23_0_4 : ¬ w.heap.size = w21.heap.size + 1 := by omega
          have ne23_1_0 : ¬ w.heap.size + 1 = w.heap.size := by omega
          have ne23_1_2 : ¬ w.heap.size + 1 = w.heap.size + 1 + 1 := by omega
          have ne23_1_3 : ¬ w.heap.size + 1 = w21.heap.size := by omega
          have ne23_1_4 : ¬ w.heap.size + 1 = w21.heap.size + 1 := by omega
          have ne23_2_0 : ¬ w.heap.size + 1 + 1 = w.heap.size := by omega
          have ne23_2_1 : ¬ w.heap.size + 1 + 1 = w.heap.size + 1 := by omega
          have ne23_2_3 : ¬ w.heap.size + 1 + 1 = w21.heap.size := by omega
          have ne23_2_4 : ¬ w.heap.size + 1 + 1 = w21.heap.size + 1 := by omega
          have ne23_3_0 : ¬ w21.heap.size = w.heap.size := by omega
          have ne23_3_1 : ¬ w21.heap.size = w.heap.size + 1 := by omega
          have ne23_3_2 : ¬ w21.heap.size = w.heap.size + 1 + 1 := by omega
          have ne23_3_4 : ¬ w21.heap.size = w21.heap.size + 1 := by omega
          have ne23_4_0 : ¬ w21.heap.size + 1 = w.heap.size := by omega
          have ne23_4_1 : ¬ w21.heap.size + 1 = w.heap.size + 1 := by omega
          have ne23_4_2 : ¬ w21.heap.size + 1 = w.heap.size + 1 + 1 := by omega
          have ne23_4_3 : ¬ w21.heap.size + 1 = w21.heap.size := by omega
          go_wp2
          go_roundg g
          case measure => omega
          case rel => exact ⟨n + 1, by go_num, by omega, by omega, ⟨F53.out.1, F53.out.2.1, F53.out.2.2.1, F53.out.2.2.2.2.2⟩, HS2.out⟩
        · have hu : r1.toList.isEmpty = false := empty_false z0
          by_cases z1 : r2 ≤ 1099511627776
          · rcases Int.lt_trichotomy kn 0 with z2 | z2 | z2
            · have z8 : Hid (0 < (r1, r2).1.size ∧ (r1, r2).2 ≤ 1099511627776 ∧ (kn < 0 ∨ (kn = 0 ∧ false = true))) := ⟨z0, z1, Or.inl z2⟩
              have e0 := (HSS _ (en.trans (stS_some (fun h => by first | (exact absurd h.2 (by omega)) | cases h.1) z8.out))).1 _ rfl
              subst e0
              clear HSS en z8
              have l23_0 := F53.out.1.lt
              have a23_0_0 := F53.out.1.cell 0 _ rfl
              have f23_0_0 := F53.out.1.fz 0
              have a23_0_1 := F53.out.1.cell 1 _ rfl
              have f23_0_1 := F53.out.1.fz 1
              have a23_0_2 := F53.out.1.cell 2 _ rfl
              have f23_0_2 := F53.out.1.fz 2
              have l23_1 := F53.out.2.1.lt
              have a23_1_0 := F53.out.2.1.cell 0 _ rfl
              have f23_1_0 := F53.out.2.1.fz 0
              have a23_1_1 := F53.out.2.1.cell 1 _ rfl
              have f23_1_1 := F53.out.2.1.fz 1
              have a23_1_2 := F53.out.2.1.cell 2 _ rfl
              have f23_1_2 := F53.out.2.1.fz 2
              have l23_2 := F53.out.2.2.1.lt
              have a23_2_0 := F53.out.2.2.1.cell 0 _ rfl
              have f23_2_0 := F53.out.2.2.1.fz 0
              have a23_2_1 := F53.out.2.2.1.cell 1 _ rfl
              have f23_2_1 := F53.out.2.2.1.fz 1
              have a23_2_2 := F53.out.2.2.1.cell 2 _ rfl
              have f23_2_2 := F53.out.2.2.1.fz 2
              have l23_3 := F53.out.2.2.2.1.lt
              have a23_3_0 := F53.out.2.2.2.1.cell 0 _ rfl
              have f23_3_0 := F53.out.2.2.2.1.fz 0
              have a23_3_1 := F53.out.2.2.2.1.cell 1 _ rfl
              have f23_3_1 := F53.out.2.2.2.1.fz 1
              have a23_3_2 := F53.out.2.2.2.1.cell 2 _ rfl
              have f23_3_2 := F53.out.2.2.2.1.fz 2
              have l23_4 := F53.out.2.2.2.2.1.lt
              have a23_4_0 := F53.out.2.2.2.2.1.cell 0 _ rfl
              have f23_4_0 := F53.out.2.2.2.2.1.fz 0
              have a23_4_1 := F53.out.2.2.2.2.1.cell 1 _ rfl
              have f23_4_1 := F53.out.2.2.2.2.1.fz 1
              have a23_4_2 := F53.out.2.2.2.2.1.cell 2 _ rfl
              have f23_4_2 := F53.out.2.2.2.2.1.fz 2
              have ne23_0_1 : ¬ w.heap.size = w.heap.size + 1 := by omega
              have ne23_0_2 : ¬ w.heap.size = w.heap.size + 1 + 1 := by omega
              have ne23_0_3 : ¬ w.heap.size = w21.heap.size := by omega
              have ne23_0_4 : ¬ w.heap.size = w21.heap.size + 1 := by omega
              have ne23_1_0 : ¬ w.heap.size + 1 = w.heap.size := by omega
              have ne23_1_2 : ¬ w.heap.size + 1 = w.heap.size + 1 + 1 := by omega
              have ne23_1_3 : ¬ w.heap.size + 1 = w21.heap.size := by omega
              have ne23_1_4 : ¬ w.heap.size + 1 = w21.heap.size + 1 := by omega
              have ne23_2_0 : ¬ w.heap.size + 1 + 1 = w.heap.size := by omega
              have ne23_2_1 : ¬ w.heap.size + 1 + 1 = w.heap.size + 1 := by omega
              have ne23_2_3 : ¬ w.heap.size + 1 + 1 = w21.heap.size := by omega
              have ne23_2_4 : ¬ w.heap.size + 1 + 1 = w21.heap.size + 1 := by omega
              have ne23_3_0 : ¬ w21.heap.size = w.heap.size := by omega
              have ne23_3_1 : ¬ w21.heap.size = w.heap.size + 1 := by omega
              have ne23_3_2 : ¬ w21.heap.size = w.heap.size + 1 + 1 := by omega
              have ne23_3_4 : ¬ w21.heap.size = w21.heap.size + 1 := by omega
              have ne23_4_0 : ¬ w21.heap.size + 1 = w.heap.size := by omega
              have ne23_4_1 : ¬ w21.heap.size + 1 = w.heap.size + 1 := by omega
              have ne23_4_2 : ¬ w21.heap.size + 1 = w.heap.size + 1 + 1 := by omega
              have ne23_4_3 : ¬ w21.heap.size + 1 = w21.heap.size := by omega
              go_wp2
              refine bodyPost_ret (v := .tuple #[.agg #[.string r1, .int .i64 r2, .bool false], .int .i64 0]) (by simp [results, Tryz.results17, go_sem, World.cell?_setCell_same, World.cell?_setCell_other, *]) rfl ⟨rfl, ?_⟩
              repeat (first | refine Below.setCell ?_ (by first | exact Nat.le_refl _ | (dsimp only; omega)) _ | refine Below.alloc ?_ (by first | exact Nat.le_refl _ | omega | (simp; omega)) _ | refine Below.drew ?_)
              exact F53.out.2.2.2.2.2
            · have z8 : Hid (¬ (0 < (r1, r2).1.size ∧ (r1, r2).2 ≤ 1099511627776 ∧ (kn < 0 ∨ (kn = 0 ∧ false = true)))) := fun h => by rcases h.2.2 with a | ⟨_, a⟩; omega; cases a
              subst z2
              have HS2 : Hid (firstF f (n + 1) g = R) := (HSS _ (en.trans (stS_none (fun h => by first | (exact absurd h.2 (by omega)) | cases h.1) z8.out))).2 rfl
              clear HSS en z8
              have l23_0 := F53.out.1.lt
              have a23_0_0 := F53.out.1.cell 0 _ rfl
              have f23_0_0 := F53.out.1.fz 0
              have a23_0_1 := F53.out.1.cell 1 _ rfl
              have f23_0_1 := F53.out.1.fz 1
              have a23_0_2 := F53.out.1.cell 2 _ rfl
              have f23_0_2 := F53.out.1.fz 2
              have l23_1 := F53.out.2.1.lt
              have a23_1_0 := F53.out.2.1.cell 0 _ rfl
              have f23_1_0 := F53.out.2.1.fz 0
              have a23_1_1 := F53.out.2.1.cell 1 _ rfl
              have f23_1_1 := F53.out.2.1.fz 1
              have a23_1_2 := F53.out.2.1.cell 2 _ rfl
              have f23_1_2 := F53.out.2.1.fz 2
              have l23_2 := F53.out.2.2.1.lt
              have a23_2_0 := F53.out.2.2.1.cell 0 _ rfl
              have f23_2_0 := F53.out.2.2.1.fz 0
              have a23_2_1 := F53.out.2.2.1.cell 1 _ rfl
              have f23_2_1 := F53.out.2.2.1.fz 1
              have a23_2_2 := F53.out.2.2.1.cell 2 _ rfl
              have f23_2_2 := F53.out.2.2.1.fz 2
              have l23_3 := F53.out.2.2.2.1.lt
              have a23_3_0 := F53.out.2.2.2.1.cell 0 _ rfl
              have f23_3_0 := F53.out.2.2.2.1.fz 0
              have a23_3_1 := F53.out.2.2.2.1.cell 1 _ rfl
              have f23_3_1 := F53.out.2.2.2.1.fz 1
              have a23_3_2 := F53.out.2.2.2.1.cell 2 _ rfl
              have f23_3_2 := F53.out.2.2.2.1.fz 2
              have l23_4 := F53.out.2.2.2.2.1.lt
              have a23_4_0 := F53.out.2.2.2.2.1.cell 0 _ rfl
              have f23_4_0 := F53.out.2.2.2.2.1.fz 0
              have a23_4_1 := F53.out.2.2.2.2.1.cell 1 _ rfl
              have f23_4_1 := F53.out.2.2.2.2.1.fz 1
              have a23_4_2 := F53.out.2.2.2.2.1.cell 2 _ rfl
              have f23_4_2 := F53.out.2.2.2.2.1.fz 2
              have ne23_0_1 : ¬ w.heap.size = w.heap.size + 1 := by omega
              have ne23_0_2 : ¬ w.heap.size = w.heap.size + 1 + 1 := by omega
              have ne23_0_3 : ¬ w.heap.size = w21.heap.size := by omega
              have ne23_0_4 : ¬ w.heap.size = w21.heap.size + 1 := by omega
              have ne23_1_0 : ¬ w.heap.size + 1 = w.heap.size := by omega
              have ne23_1_2 : ¬ w.heap.size + 1 = w.heap.size + 1 + 1 := by omega
              have ne23_1_3 : ¬ w.heap.size + 1 = w21.heap.size := by omega
              have ne23_1_4 : ¬ w.heap.size + 1 = w21.heap.size + 1 := by omega
              have ne23_2_0 : ¬ w.heap.size + 1 + 1 = w.heap.size := by omega
              have ne23_2_1 : ¬ w.heap.size + 1 + 1 = w.heap.size + 1 := by omega
              have ne23_2_3 : ¬ w.heap.size + 1 + 1 = w21.heap.size := by omega
              have ne23_2_4 : ¬ w.heap.size + 1 + 1 = w21.heap.size + 1 := by omega
              have ne23_3_0 : ¬ w21.heap.size = w.heap.size := by omega
              have ne23_3_1 : ¬ w21.heap.size = w.heap.size + 1 := by omega
              have ne23_3_2 : ¬ w21.heap.size = w.heap.size + 1 + 1 := by omega
              have ne23_3_4 : ¬ w21.heap.size = w21.heap.size + 1 := by omega
              have ne23_4_0 : ¬ w21.heap.size + 1 = w.heap.size := by omega
              have ne23_4_1 : ¬ w21.heap.size + 1 = w.heap.size + 1 := by omega
              have ne23_4_2 : ¬ w21.heap.size + 1 = w.heap.size + 1 + 1 := by omega
              have ne23_4_3 : ¬ w21.heap.size + 1 = w21.heap.size := by omega
              go_wp2
              go_roundg g
              case measure => omega
              case rel => exact ⟨n + 1, by go_num, by omega, by omega, ⟨F53.out.1, F53.out.2.1, F53.out.2.2.1, F53.out.2.2.2.2.2⟩, HS2.out⟩
            · have z8 : Hid (¬ (0 < (r1, r2).1.size ∧ (r1, r2).2 ≤ 1099511627776 ∧ (kn < 0 ∨ (kn = 0 ∧ false = true)))) := fun h => by rcases h.2.2 with a | ⟨a, _⟩ <;> omega
              have z7 : (kn == 0) = false := beq_eq_false_iff_ne.mpr (by omega)
              have z6 : ¬ kn < 0 := by omega
              have HS2 : Hid (firstF f (n + 1) g = R) := (HSS _ (en.trans (stS_none (fun h => by first | (exact absurd h.2 (by omega)) | cases h.1) z8.out))).2 rfl
              clear HSS en z8
              have l23_0 := F53.out.1.lt
              have a23_0_0 := F53.out.1.cell 0 _ rfl
              have f23_0_0 := F53.out.1.fz 0
              have a23_0_1 := F53.out.1.cell 1 _ rfl
              have f23_0_1 := F53.out.1.fz 1
              have a23_0_2 := F53.out.1.cell 2 _ rfl
              have f23_0_2 := F53.out.1.fz 2
              have l23_1 := F53.out.2.1.lt
              have a23_1_0 := F53.out.2.1.cell 0 _ rfl
              have f23_1_0 := F53.out.2.1.fz 0
              have a23_1_1 := F53.out.2.1.cell 1 _ rfl
              have f23_1_1 := F53.out.2.1.fz 1
              have a23_1_2 := F53.out.2.1.cell 2 _ rfl
              have f23_1_2 := F53.out.2.1.fz 2
              have l23_2 := F53.out.2.2.1.lt
              have a23_2_0 := F53.out.2.2.1.cell 0 _ rfl
              have f23_2_0 := F53.out.2.2.1.fz 0
              have a23_2_1 := F53.out.2.2.1.cell 1 _ rfl
              have f23_2_1 := F53.out.2.2.1.fz 1
              have a23_2_2 := F53.out.2.2.1.cell 2 _ rfl
              have f23_2_2 := F53.out.2.2.1.fz 2
              have l23_3 := F53.out.2.2.2.1.lt
              have a23_3_0 := F53.out.2.2.2.1.cell 0 _ rfl
              have f23_3_0 := F53.out.2.2.2.1.fz 0
              have a23_3_1 := F53.out.2.2.2.1.cell 1 _ rfl
              have f23_3_1 := F53.out.2.2.2.1.fz 1
              have a23_3_2 := F53.out.2.2.2.1.cell 2 _ rfl
              have f23_3_2 := F53.out.2.2.2.1.fz 2
              have l23_4 := F53.out.2.2.2.2.1.lt
              have a23_4_0 := F53.out.2.2.2.2.1.cell 0 _ rfl
              have f23_4_0 := F53.out.2.2.2.2.1.fz 0
              have a23_4_1 := F53.out.2.2.2.2.1.cell 1 _ rfl
              have f23_4_1 := F53.out.2.2.2.2.1.fz 1
              have a23_4_2 := F53.out.2.2.2.2.1.cell 2 _ rfl
              have f23_4_2 := F53.out.2.2.2.2.1.fz 2
              have ne23_0_1 : ¬ w.heap.size = w.heap.size + 1 := by omega
              have ne23_0_2 : ¬ w.heap.size = w.heap.size + 1 + 1 := by omega
              have ne23_0_3 : ¬ w.heap.size = w21.heap.size := by omega
              have ne23_0_4 : ¬ w.heap.size = w21.heap.size + 1 := by omega
              have ne23_1_0 : ¬ w.heap.size + 1 = w.heap.size := by omega
              have ne23_1_2 : ¬ w.heap.size + 1 = w.heap.size + 1 + 1 := by omega
              have ne23_1_3 : ¬ w.heap.size + 1 = w21.heap.size := by omega
              have ne23_1_4 : ¬ w.heap.size + 1 = w21.heap.size + 1 := by omega
              have ne23_2_0 : ¬ w.heap.size + 1 + 1 = w.heap.size := by omega
              have ne23_2_1 : ¬ w.heap.size + 1 + 1 = w.heap.size + 1 := by omega
              have ne23_2_3 : ¬ w.heap.size + 1 + 1 = w21.heap.size := by omega
              have ne23_2_4 : ¬ w.heap.size + 1 + 1 = w21.heap.size + 1 := by omega
              have ne23_3_0 : ¬ w21.heap.size = w.heap.size := by omega
              have ne23_3_1 : ¬ w21.heap.size = w.heap.size + 1 := by omega
              have ne23_3_2 : ¬ w21.heap.size = w.heap.size + 1 + 1 := by omega
              have ne23_3_4 : ¬ w21.heap.size = w21.heap.size + 1 := by omega
              have ne23_4_0 : ¬ w21.heap.size + 1 = w.heap.size := by omega
              have ne23_4_1 : ¬ w21.heap.size + 1 = w.heap.size + 1 := by omega
              have ne23_4_2 : ¬ w21.heap.size + 1 = w.heap.size + 1 + 1 := by omega
              have ne23_4_3 : ¬ w21.heap.size + 1 = w21.heap.size := by omega
              go_wp2
              go_roundg g
              case measure => omega
              case rel => exact ⟨n + 1, by go_num, by omega, by omega, ⟨F53.out.1, F53.out.2.1, F53.out.2.2.1, F53.out.2.2.2.2.2⟩, HS2.out⟩
          · have z8 : Hid (¬ (0 < (r1, r2).1.size ∧ (r1, r2).2 ≤ 1099511627776 ∧ (kn < 0 ∨ (kn = 0 ∧ false = true)))) := fun h => z1 h.2.1
            have HS2 : Hid (firstF f (n + 1) g = R) := (HSS _ (en.trans (stS_none (fun h => by first | (exact absurd h.2 (by omega)) | cases h.1) z8.out))).2 rfl
            clear HSS en z8
            have l23_0 := F53.out.1.lt
            have a23_0_0 := F53.out.1.cell 0 _ rfl
            have f23_0_0 := F53.out.1.fz 0
            have a23_0_1 := F53.out.1.cell 1 _ rfl
            have f23_0_1 := F53.out.1.fz 1
            have a23_0_2 := F53.out.1.cell 2 _ rfl
            have f23_0_2 := F53.out.1.fz 2
            have l23_1 := F53.out.2.1.lt
            have a23_1_0 := F53.out.2.1.cell 0 _ rfl
            have f23_1_0 := F53.out.2.1.fz 0
            have a23_1_1 := F53.out.2.1.cell 1 _ rfl
            have f23_1_1 := F53.out.2.1.fz 1
            have a23_1_2 := F53.out.2.1.cell 2 _ rfl
            have f23_1_2 := F53.out.2.1.fz 2
            have l23_2 := F53.out.2.2.1.lt
            have a23_2_0 := F53.out.2.2.1.cell 0 _ rfl
            have f23_2_0 := F53.out.2.2.1.fz 0
            have a23_2_1 := F53.out.2.2.1.cell 1 _ rfl
            have f23_2_1 := F53.out.2.2.1.fz 1
            have a23_2_2 := F53.out.2.2.1.cell 2 _ rfl
            have f23_2_2 := F53.out.2.2.1.fz 2
            have l23_3 := F53.out.2.2.2.1.lt
            have a23_3_0 := F53.out.2.2.2.1.cell 0 _ rfl
            have f23_3_0 := F53.out.2.2.2.1.fz 0
            have a23_3_1 := F53.out.2.2.2.1.cell 1 _ rfl
            have f23_3_1 := F53.out.2.2.2.1.fz 1
            have a23_3_2 := F53.out.2.2.2.1.cell 2 _ rfl
            have f23_3_2 := F53.out.2.2.2.1.fz 2
            have l23_4 := F53.out.2.2.2.2.1.lt
            have a23_4_0 := F53.out.2.2.2.2.1.cell 0 _ rfl
            have f23_4_0 := F53.out.2.2.2.2.1.fz 0
            have a23_4_1 := F53.out.2.2.2.2.1.cell 1 _ rfl
            have f23_4_1 := F53.out.2.2.2.2.1.fz 1
            have a23_4_2 := F53.out.2.2.2.2.1.cell 2 _ rfl
            have f23_4_2 := F53.out.2.2.2.2.1.fz 2
            have ne23_0_1 : ¬ w.heap.size = w.heap.size + 1 := by omega
            have ne23_0_2 : ¬ w.heap.size = w.heap.size + 1 + 1 := by omega
            have ne23_0_3 : ¬ w.heap.size = w21.heap.size := by omega
            have ne23_0_4 : ¬ w.heap.size = w21.heap.size + 1 := by omega
            have ne23_1_0 : ¬ w.heap.size + 1 = w.heap.size := by omega
            have ne23_1_2 : ¬ w.heap.size + 1 = w.heap.size + 1 + 1 := by omega
            have ne23_1_3 : ¬ w.heap.size + 1 = w21.heap.size := by omega
            have ne23_1_4 : ¬ w.heap.size + 1 = w21.heap.size + 1 := by omega
            have ne23_2_0 : ¬ w.heap.size + 1 + 1 = w.heap.size := by omega
            have ne23_2_1 : ¬ w.heap.size + 1 + 1 = w.heap.size + 1 := by omega
            have ne23_2_3 : ¬ w.heap.size + 1 + 1 = w21.heap.size := by omega
            have ne23_2_4 : ¬ w.heap.size + 1 + 1 = w21.heap.size + 1 := by omega
            have ne23_3_0 : ¬ w21.heap.size = w.heap.size := by omega
            have ne23_3_1 : ¬ w21.heap.size = w.heap.size + 1 := by omega
            have ne23_3_2 : ¬ w21.heap.size = w.heap.size + 1 + 1 := by omega
            have ne23_3_4 : ¬ w21.heap.size = w21.heap.size + 1 := by omega
            have ne23_4_0 : ¬ w21.heap.size + 1 = w.heap.size := by omega
            have ne23_4_1 : ¬ w21.heap.size + 1 = w.heap.size + 1 := by omega
            have ne23_4_2 : ¬ w21.heap.size + 1 = w.heap.size + 1 + 1 := by omega
            have ne23_4_3 : ¬ w21.heap.size + 1 = w21.heap.size := by omega
            go_wp2
            go_roundg g
            case measure => omega
            case rel => exact ⟨n + 1, by go_num, by omega, by omega, ⟨F53.out.1, F53.out.2.1, F53.out.2.2.1, F53.out.2.2.2.2.2⟩, HS2.out⟩
end Go.Proofs.YtblkokjkmbpejaaGreatDoor
