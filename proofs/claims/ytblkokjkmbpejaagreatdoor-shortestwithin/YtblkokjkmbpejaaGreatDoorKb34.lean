/-
  Holds: SoHa IvS IvV.
-/
import Derived.Test.YtblkokjkmbpejaaGreatDoorRows
import Derived.Laws.Externs
import Derived.WalkKit
import Derived.WalkSpells
import Derived.WalkLawsBesides
import Derived.Lib.Mul64
import Derived.Stop.Asserts
import Derived.RowKitTokens
import Derived.Lib.Strings
import Derived.Lib.BufferWrite
import Derived.Deep.OwnRows
import Derived.Deep.RegionHeld3
import Derived.BigQuiet
import Derived.Lib.ConvBytes
import Derived.Laws.CopyOwn
import Derived.Lib.TrailingZeros
import Derived.Lib.ItoaNum
import Derived.Deep.LoopGhost
import Derived.Deep.AppendLies
import Derived.Deep.DeepCutAuto
import Derived.Test.YtblkokjkmbpejaaGreatDoorKb27
import Derived.Test.YtblkokjkmbpejaaGreatDoorKb28
import Derived.Test.YtblkokjkmbpejaaGreatDoorKb30
set_option maxRecDepth 100000
set_option maxHeartbeats 4000000
namespace Go.Proofs.YtblkokjkmbpejaaGreatDoor
open Go.RowKit
theorem rwi_tt {u s t d1 e1 n1 : ByteArray} {o p q d2 e2 n2 n : Int} {c : Bool} (h0 : 0 < d1.size) (HR : ∀ W, Calls Tryz.prog 34 #[.agg #[.string u, .int .i64 o, .bool false], .int .i64 n] W fun e w' => e = .returned (.tuple #[.agg #[.string d1, .int .i64 d2, .bool false], .agg #[.string e1, .int .i64 e2, .bool false]]) ∧ Below W.heap.size W w') (H1 : ∀ W, Calls Tryz.prog 56 #[.agg #[.string u, .int .i64 o, .bool false, .string s, .int .i64 p, .bool false, .string t, .int .i64 q, .bool false, .bool c], .agg #[.string d1, .int .i64 d2, .bool false]] W fun e w' => e = .returned (.bool true) ∧ Below W.heap.size W w') (H2 : ∀ W, Calls Tryz.prog 56 #[.agg #[.string u, .int .i64 o, .bool false, .string s, .int .i64 p, .bool false, .string t, .int .i64 q, .bool false, .bool c], .agg #[.string e1, .int .i64 e2, .bool false]] W fun e w' => e = .returned (.bool true) ∧ Below W.heap.size W w') (HN : ∀ W, Calls Tryz.prog 57 #[.agg #[.string u, .int .i64 o, .bool false], .int .i64 n] W fun e w' => e = .returned (.agg #[.string n1, .int .i64 n2, .bool false]) ∧ Below W.heap.size W w') (w : World) :
 Calls Tryz.prog 31 #[.agg #[.string u, .int .i64 o, .bool false, .string s, .int .i64 p, .bool false, .string t, .int .i64 q, .bool false, .bool c], .int .i64 n] w fun x w' => x = .returned (.tuple #[.agg #[.string n1, .int .i64 n2, .bool false], .bool true]) ∧ Below w.heap.size w w' := by
 have he : d1.toList.isEmpty = false := empty_false h0
 have HX : ∀ (v : Value) (r : Bool), ((v = .agg #[.string d1, .int .i64 d2, .bool false] ∧ r = true) ∨ (v = .agg #[.string e1, .int .i64 e2, .bool false] ∧ r = true)) → ∀ W, Calls Tryz.prog 56 #[.agg #[.string u, .int .i64 o, .bool false, .string s, .int .i64 p, .bool false, .string t, .int .i64 q, .bool false, .bool c], v] W fun e w' => e = .returned (.bool r) ∧ Below W.heap.size W w' := by
  rintro v r (⟨rfl, rfl⟩ | ⟨rfl, rfl⟩) W
  · exact H1 W
  · exact H2 W
 clear H1 H2
 have F0 : Hid (Bk ((w.alloc (.cells #[.string u, .int .i64 o, .bool false, .string s, .int .i64 p, .bool false, .string t, .int .i64 q, .bool false, .bool c] 65)).alloc (.cells #[.string ⟨#[]⟩, .int .i64 0, .bool false] 24)) (w.heap.size) [.string u, .int .i64 o, .bool false, .string s, .int .i64 p, .bool false, .string t, .int .i64 q, .bool false, .bool c] ∧ Bk ((w.alloc (.cells #[.string u, .int .i64 o, .bool false, .string s, .int .i64 p, .bool false, .string t, .int .i64 q, .bool false, .bool c] 65)).alloc (.cells #[.string ⟨#[]⟩, .int .i64 0, .bool false] 24)) (w.heap.size + 1) [.string ⟨#[]⟩, .int .i64 0, .bool false] ∧ Below w.heap.size w ((w.alloc (.cells #[.string u, .int .i64 o, .bool false, .string s, .int .i64 p, .bool false, .string t, .int .i64 q, .bool false, .bool c] 65)).alloc (.cells #[.string ⟨#[]⟩, .int .i64 0, .bool false] 24))) := ⟨(Bk.newL w [.string u, .int .i64 o, .bool false, .string s, .int .i64 p, .bool false, .string t, .int .i64 q, .bool false, .bool c] 65).step ((Below.refl _ _).alloc (Nat.le_refl _) _), ((by have q := Bk.new3 (w.alloc (.cells #[.string u, .int .i64 o, .bool false, .string s, .int .i64 p, .bool false, .string t, .int .i64 q, .bool false, .bool c] 65)) (.string ⟨#[]⟩) (.int .i64 0) (.bool false) 24; simpa using q) : Bk ((w.alloc (.cells #[.string u, .int .i64 o, .bool false, .string s, .int .i64 p, .bool false, .string t, .int .i64 q, .bool false, .bool c] 65)).alloc (.cells #[.string ⟨#[]⟩, .int .i64 0, .bool false] 24)) (w.heap.size + 1) [.string ⟨#[]⟩, .int .i64 0, .bool false]), (((Below.refl w.heap.size w)).alloc (Nat.le_refl _) _).alloc ((((Below.refl w.heap.size w)).alloc (Nat.le_refl _) _).size) _⟩
 go_enter Tryz.func31, Tryz.ntmps31
 go_upto_region 1 with fail
 generalize ((w.alloc (.cells #[.string u, .int .i64 o, .bool false, .string s, .int .i64 p, .bool false, .string t, .int .i64 q, .bool false, .bool c] 65)).alloc (.cells #[.string ⟨#[]⟩, .int .i64 0, .bool false] 24)) = w1 at *
 have l1_0 := F0.out.1.lt
 have a1_0_0 := F0.out.1.cell 0 _ rfl
 have f1_0_0 := F0.out.1.fz 0
 have a1_0_1 := F0.out.1.cell 1 _ rfl
 have f1_0_1 := F0.out.1.fz 1
 have a1_0_2 := F0.out.1.cell 2 _ rfl
 have f1_0_2 := F0.out.1.fz 2
 have a1_0_3 := F0.out.1.cell 3 _ rfl
 have f1_0_3 := F0.out.1.fz 3
 have a1_0_4 := F0.out.1.cell 4 _ rfl
 have f1_0_4 := F0.out.1.fz 4
 have a1_0_5 := F0.out.1.cell 5 _ rfl
 have f1_0_5 := F0.out.1.fz 5
 have a1_0_6 := F0.out.1.cell 6 _ rfl
 have f1_0_6 := F0.out.1.fz 6
 have a1_0_7 := F0.out.1.cell 7 _ rfl
 have f1_0_7 := F0.out.1.fz 7
 have a1_0_8 := F0.out.1.cell 8 _ rfl
 have f1_0_8 := F0.out.1.fz 8
 have a1_0_9 := F0.out.1.cell 9 _ rfl
 have f1_0_9 := F0.out.1.fz 9
 have l1_1 := F0.out.2.1.lt
 have a1_1_0 := F0.out.2.1.cell 0 _ rfl
 have f1_1_0 := F0.out.2.1.fz 0
 have a1_1_1 := F0.out.2.1.cell 1 _ rfl
 have f1_1_1 := F0.out.2.1.fz 1
 have a1_1_2 := F0.out.2.1.cell 2 _ rfl
 have f1_1_2 := F0.out.2.1.fz 2
 have ne1_0_1 : ¬ w.heap.size = w.heap.size + 1 := by omega
 have ne1_1_0 : ¬ w.heap.size + 1 = w.heap.size := by omega
 go_wp2_with fail
 all_goals first | (exfalso; omega) | skip
 refine (HR _).mono ?_
 rintro o2 w2 ⟨rfl, bb⟩
 have F1 : Hid (Bk w2 (w.heap.size) [.string u, .int .i64 o, .bool false, .string s, .int .i64 p, .bool false, .string t, .int .i64 q, .bool false, .bool c] ∧ Bk w2 (w.heap.size + 1) [.string ⟨#[]⟩, .int .i64 0, .bool false] ∧ Below w.heap.size w w2) := ⟨(F0.out.1).step bb, (F0.out.2.1).step bb, (F0.out.2.2).trans (bb.mono (F0.out.2.2).size)⟩
 clear F0
 clear bb
 clear l1_0 a1_0_0 f1_0_0 a1_0_1 f1_0_1 a1_0_2 f1_0_2 a1_0_3 f1_0_3 a1_0_4 f1_0_4 a1_0_5 f1_0_5 a1_0_6 f1_0_6 a1_0_7 f1_0_7 a1_0_8 f1_0_8 a1_0_9 f1_0_9 l1_1 a1_1_0 f1_1_0 a1_1_1 f1_1_1 a1_1_2 f1_1_2
 have lt0_2 := (F1.out.1).lt
 have lt1_2 := (F1.out.2.1).lt
 have le2 := (F1.out.2.2).size
 have F2 : Hid (Bk ((w2.alloc (.cells #[.string d1, .int .i64 d2, .bool false] 24)).alloc (.cells #[.string e1, .int .i64 e2, .bool false] 24)) (w.heap.size) [.string u, .int .i64 o, .bool false, .string s, .int .i64 p, .bool false, .string t, .int .i64 q, .bool false, .bool c] ∧ Bk ((w2.alloc (.cells #[.string d1, .int .i64 d2, .bool false] 24)).alloc (.cells #[.string e1, .int .i64 e2, .bool false] 24)) (w.heap.size + 1) [.string ⟨#[]⟩, .int .i64 0, .bool false] ∧ Bk ((w2.alloc (.cells #[.string d1, .int .i64 d2, .bool false] 24)).alloc (.cells #[.string e1, .int .i64 e2, .bool false] 24)) (w2.heap.size) [.string d1, .int .i64 d2, .bool false] ∧ Bk ((w2.alloc (.cells #[.string d1, .int .i64 d2, .bool false] 24)).alloc (.cells #[.string e1, .int .i64 e2, .bool false] 24)) (w2.heap.size + 1) [.string e1, .int .i64 e2, .bool false] ∧ Below w.heap.size w ((w2.alloc (.cells #[.string d1, .int .i64 d2, .bool false] 24)).alloc (.cells #[.string e1, .int .i64 e2, .bool false] 24))) := ⟨((F1.out.1).step ((Below.refl _ _).alloc (Nat.le_refl _) _)).step ((Below.refl _ _).alloc (Nat.le_refl _) _), ((F1.out.2.1).step ((Below.refl _ _).alloc (Nat.le_refl _) _)).step ((Below.refl _ _).alloc (Nat.le_refl _) _), (Bk.new3 w2 (.string d1) (.int .i64 d2) (.bool false) 24).step ((Below.refl _ _).alloc (Nat.le_refl _) _), ((by have q := Bk.new3 (w2.alloc (.cells #[.string d1, .int .i64 d2, .bool false] 24)) (.string e1) (.int .i64 e2) (.bool false) 24; simpa using q) : Bk ((w2.alloc (.cells #[.string d1, .int .i64 d2, .bool false] 24)).alloc (.cells #[.string e1, .int .i64 e2, .bool false] 24)) (w2.heap.size + 1) [.string e1, .int .i64 e2, .bool false]), ((F1.out.2.2).alloc ((F1.out.2.2).size) _).alloc (((F1.out.2.2).alloc ((F1.out.2.2).size) _).size) _⟩
 clear F1
 go_upto_region 2 with fail
 generalize ((w2.alloc (.cells #[.string d1, .int .i64 d2, .bool false] 24)).alloc (.cells #[.string e1, .int .i64 e2, .bool false] 24)) = w3 at *
 have l2_0 := F2.out.1.lt
 have a2_0_0 := F2.out.1.cell 0 _ rfl
 have f2_0_0 := F2.out.1.fz 0
 have a2_0_1 := F2.out.1.cell 1 _ rfl
 have f2_0_1 := F2.out.1.fz 1
 have a2_0_2 := F2.out.1.cell 2 _ rfl
 have f2_0_2 := F2.out.1.fz 2
 have a2_0_3 := F2.out.1.cell 3 _ rfl
 have f2_0_3 := F2.out.1.fz 3
 have a2_0_4 := F2.out.1.cell 4 _ rfl
 have f2_0_4 := F2.out.1.fz 4
 have a2_0_5 := F2.out.1.cell 5 _ rfl
 have f2_0_5 := F2.out.1.fz 5
 have a2_0_6 := F2.out.1.cell 6 _ rfl
 have f2_0_6 := F2.out.1.fz 6
 have a2_0_7 := F2.out.1.cell 7 _ rfl
 have f2_0_7 := F2.out.1.fz 7
 have a2_0_8 := F2.out.1.cell 8 _ rfl
 have f2_0_8 := F2.out.1.fz 8
 have a2_0_9 := F2.out.1.cell 9 _ rfl
 have f2_0_9 := F2.out.1.fz 9
 have l2_1 := F2.out.2.1.lt
 have a2_1_0 := F2.out.2.1.cell 0 _ rfl
 have f2_1_0 := F2.out.2.1.fz 0
 have a2_1_1 := F2.out.2.1.cell 1 _ rfl
 have f2_1_1 := F2.out.2.1.fz 1
 have a2_1_2 := F2.out.2.1.cell 2 _ rfl
 have f2_1_2 := F2.out.2.1.fz 2
 have l2_2 := F2.out.2.2.1.lt
 have a2_2_0 := F2.out.2.2.1.cell 0 _ rfl
 have f2_2_0 := F2.out.2.2.1.fz 0
 have a2_2_1 := F2.out.2.2.1.cell 1 _ rfl
 have f2_2_1 := F2.out.2.2.1.fz 1
 have a2_2_2 := F2.out.2.2.1.cell 2 _ rfl
 have f2_2_2 := F2.out.2.2.1.fz 2
 have l2_3 := F2.out.2.2.2.1.lt
 have a2_3_0 := F2.out.2.2.2.1.cell 0 _ rfl
 have f2_3_0 := F2.out.2.2.2.1.fz 0
 have a2_3_1 := F2.out.2.2.2.1.cell 1 _ rfl
 have f2_3_1 := F2.out.2.2.2.1.fz 1
 have a2_3_2 := F2.out.2.2.2.1.cell 2 _ rfl
 have f2_3_2 := F2.out.2.2.2.1.fz 2
 have ne2_0_1 : ¬ w.heap.size = w.heap.size + 1 := by omega
 have ne2_0_2 : ¬ w.heap.size = w2.heap.size := by omega
 have ne2_0_3 : ¬ w.heap.size = w2.heap.size + 1 := by omega
 have ne2_1_0 : ¬ w.heap.size + 1 = w.heap.size := by omega
 have ne2_1_2 : ¬ w.heap.size + 1 = w2.heap.size := by omega
 have ne2_1_3 : ¬ w.heap.size + 1 = w2.heap.size + 1 := by omega
 have ne2_2_0 : ¬ w2.heap.size = w.heap.size := by omega
 have ne2_2_1 : ¬ w2.heap.size = w.heap.size + 1 := by omega
 have ne2_2_3 : ¬ w2.heap.size = w2.heap.size + 1 := by omega
 have ne2_3_0 : ¬ w2.heap.size + 1 = w.heap.size := by omega
 have ne2_3_1 : ¬ w2.heap.size + 1 = w.heap.size + 1 := by omega
 have ne2_3_2 : ¬ w2.heap.size + 1 = w2.heap.size := by omega
 go_region_held3 (fun w' => w'.cell? ⟨w.heap.size, 0, none⟩ = some (.string u) ∧ w'.cell? ⟨w.heap.size, 1, none⟩ = some (.int .i64 o) ∧ w'.cell? ⟨w.heap.size, 2, none⟩ = some (.bool false) ∧ w'.cell? ⟨w.heap.size, 3, none⟩ = some (.string s) ∧ w'.cell? ⟨w.heap.size, 4, none⟩ = some (.int .i64 p) ∧ w'.cell? ⟨w.heap.size, 5, none⟩ = some (.bool false) ∧ w'.cell? ⟨w.heap.size, 6, none⟩ = some (.string t) ∧ w'.cell? ⟨w.heap.size, 7, none⟩ = some (.int .i64 q) ∧ w'.cell? ⟨w.heap.size, 8, none⟩ = some (.bool false) ∧ w'.cell? ⟨w.heap.size, 9, none⟩ = some (.bool c) ∧ w'.cell? ⟨w2.heap.size, 0, none⟩ = some (.string d1) ∧ w'.cell? ⟨w2.heap.size, 1, none⟩ = some (.int .i64 d2) ∧ w'.cell? ⟨w2.heap.size, 2, none⟩ = some (.bool false) ∧ w'.cell? ⟨w2.heap.size + 1, 0, none⟩ = some (.string e1) ∧ w'.cell? ⟨w2.heap.size + 1, 1, none⟩ = some (.int .i64 e2) ∧ w'.cell? ⟨w2.heap.size + 1, 2, none⟩ = some (.bool false)) (simp [*, go_sem]) (first | (go_at_call 56; refine (HX _ _ (by first | exact Or.inl ⟨rfl, rfl⟩ | exact Or.inr ⟨rfl, rfl⟩) _).mono ?_; rintro px vx ⟨rfl, bb⟩; first | (have Gb : Hid (Bk vx (w.heap.size) [.string u, .int .i64 o, .bool false, .string s, .int .i64 p, .bool false, .string t, .int .i64 q, .bool false, .bool c] ∧ Bk vx (w.heap.size + 1) [.string ⟨#[]⟩, .int .i64 0, .bool false] ∧ Bk vx (w2.heap.size) [.string d1, .int .i64 d2, .bool false] ∧ Bk vx (w2.heap.size + 1) [.string e1, .int .i64 e2, .bool false] ∧ Below w.heap.size w vx) := ⟨(Ga.out.1).step bb, (Ga.out.2.1).step bb, (Ga.out.2.2.1).step bb, (Ga.out.2.2.2.1).step bb, (Ga.out.2.2.2.2).trans (bb.mono (Ga.out.2.2.2.2).size)⟩; clear bb; have db_0 := (Gb.out.1).lt; have db_0_0 := (Gb.out.1).cell 0 _ rfl; have eb_0_0 := (Gb.out.1).fz 0; have db_0_1 := (Gb.out.1).cell 1 _ rfl; have eb_0_1 := (Gb.out.1).fz 1; have db_0_2 := (Gb.out.1).cell 2 _ rfl; have eb_0_2 := (Gb.out.1).fz 2; have db_0_3 := (Gb.out.1).cell 3 _ rfl; have eb_0_3 := (Gb.out.1).fz 3; have db_0_4 := (Gb.out.1).cell 4 _ rfl; have eb_0_4 := (Gb.out.1).fz 4; have db_0_5 := (Gb.out.1).cell 5 _ rfl; have eb_0_5 := (Gb.out.1).fz 5; have db_0_6 := (Gb.out.1).cell 6 _ rfl; have eb_0_6 := (Gb.out.1).fz 6; have db_0_7 := (Gb.out.1).cell 7 _ rfl; have eb_0_7 := (Gb.out.1).fz 7; have db_0_8 := (Gb.out.1).cell 8 _ rfl; have eb_0_8 := (Gb.out.1).fz 8; have db_0_9 := (Gb.out.1).cell 9 _ rfl; have eb_0_9 := (Gb.out.1).fz 9; have db_1 := (Gb.out.2.1).lt; have db_1_0 := (Gb.out.2.1).cell 0 _ rfl; have eb_1_0 := (Gb.out.2.1).fz 0; have db_1_1 := (Gb.out.2.1).cell 1 _ rfl; have eb_1_1 := (Gb.out.2.1).fz 1; have db_1_2 := (Gb.out.2.1).cell 2 _ rfl; have eb_1_2 := (Gb.out.2.1).fz 2; have db_2 := (Gb.out.2.2.1).lt; have db_2_0 := (Gb.out.2.2.1).cell 0 _ rfl; have eb_2_0 := (Gb.out.2.2.1).fz 0; have db_2_1 := (Gb.out.2.2.1).cell 1 _ rfl; have eb_2_1 := (Gb.out.2.2.1).fz 1; have db_2_2 := (Gb.out.2.2.1).cell 2 _ rfl; have eb_2_2 := (Gb.out.2.2.1).fz 2; have db_3 := (Gb.out.2.2.2.1).lt; have db_3_0 := (Gb.out.2.2.2.1).cell 0 _ rfl; have eb_3_0 := (Gb.out.2.2.2.1).fz 0; have db_3_1 := (Gb.out.2.2.2.1).cell 1 _ rfl; have eb_3_1 := (Gb.out.2.2.2.1).fz 1; have db_3_2 := (Gb.out.2.2.2.1).cell 2 _ rfl; have eb_3_2 := (Gb.out.2.2.2.1).fz 2) | (have Ga : Hid (Bk vx (w.heap.size) [.string u, .int .i64 o, .bool false, .string s, .int .i64 p, .bool false, .string t, .int .i64 q, .bool false, .bool c] ∧ Bk vx (w.heap.size + 1) [.string ⟨#[]⟩, .int .i64 0, .bool false] ∧ Bk vx (w2.heap.size) [.string d1, .int .i64 d2, .bool false] ∧ Bk vx (w2.heap.size + 1) [.string e1, .int .i64 e2, .bool false] ∧ Below w.heap.size w vx) := ⟨((F2.out.1).step (Below.refl _ _).drew).step bb, ((F2.out.2.1).step (Below.refl _ _).drew).step bb, ((F2.out.2.2.1).step (Below.refl _ _).drew).step bb, ((F2.out.2.2.2.1).step (Below.refl _ _).drew).step bb, ((F2.out.2.2.2.2).drew).trans (bb.mono (F2.out.2.2.2.2).size)⟩; clear bb; have da_0 := (Ga.out.1).lt; have da_0_0 := (Ga.out.1).cell 0 _ rfl; have ea_0_0 := (Ga.out.1).fz 0; have da_0_1 := (Ga.out.1).cell 1 _ rfl; have ea_0_1 := (Ga.out.1).fz 1; have da_0_2 := (Ga.out.1).cell 2 _ rfl; have ea_0_2 := (Ga.out.1).fz 2; have da_0_3 := (Ga.out.1).cell 3 _ rfl; have ea_0_3 := (Ga.out.1).fz 3; have da_0_4 := (Ga.out.1).cell 4 _ rfl; have ea_0_4 := (Ga.out.1).fz 4; have da_0_5 := (Ga.out.1).cell 5 _ rfl; have ea_0_5 := (Ga.out.1).fz 5; have da_0_6 := (Ga.out.1).cell 6 _ rfl; have ea_0_6 := (Ga.out.1).fz 6; have da_0_7 := (Ga.out.1).cell 7 _ rfl; have ea_0_7 := (Ga.out.1).fz 7; have da_0_8 := (Ga.out.1).cell 8 _ rfl; have ea_0_8 := (Ga.out.1).fz 8; have da_0_9 := (Ga.out.1).cell 9 _ rfl; have ea_0_9 := (Ga.out.1).fz 9; have da_1 := (Ga.out.2.1).lt; have da_1_0 := (Ga.out.2.1).cell 0 _ rfl; have ea_1_0 := (Ga.out.2.1).fz 0; have da_1_1 := (Ga.out.2.1).cell 1 _ rfl; have ea_1_1 := (Ga.out.2.1).fz 1; have da_1_2 := (Ga.out.2.1).cell 2 _ rfl; have ea_1_2 := (Ga.out.2.1).fz 2; have da_2 := (Ga.out.2.2.1).lt; have da_2_0 := (Ga.out.2.2.1).cell 0 _ rfl; have ea_2_0 := (Ga.out.2.2.1).fz 0; have da_2_1 := (Ga.out.2.2.1).cell 1 _ rfl; have ea_2_1 := (Ga.out.2.2.1).fz 1; have da_2_2 := (Ga.out.2.2.1).cell 2 _ rfl; have ea_2_2 := (Ga.out.2.2.1).fz 2; have da_3 := (Ga.out.2.2.2.1).lt; have da_3_0 := (Ga.out.2.2.2.1).cell 0 _ rfl; have ea_3_0 := (Ga.out.2.2.2.1).fz 0; have da_3_1 := (Ga.out.2.2.2.1).cell 1 _ rfl; have ea_3_1 := (Ga.out.2.2.2.1).fz 1; have da_3_2 := (Ga.out.2.2.2.1).cell 2 _ rfl; have ea_3_2 := (Ga.out.2.2.2.1).fz 2)))
 all_goals
  go_wp2_with fail
  refine (HN _).mono ?_
  rintro o61 w61 ⟨rfl, bb⟩
  have F90 : Hid (Bk w61 (w.heap.size) [.string u, .int .i64 o, .bool false, .string s, .int .i64 p, .bool false, .string t, .int .i64 q, .bool false, .bool c] ∧ Bk w61 (w.heap.size + 1) [.string ⟨#[]⟩, .int .i64 0, .bool false] ∧ Bk w61 (w2.heap.size) [.string d1, .int .i64 d2, .bool false] ∧ Bk w61 (w2.heap.size + 1) [.string e1, .int .i64 e2, .bool false] ∧ Below w.heap.size w w61) := ⟨(Gb.out.1).step bb, (Gb.out.2.1).step bb, (Gb.out.2.2.1).step bb, (Gb.out.2.2.2.1).step bb, (Gb.out.2.2.2.2).trans (bb.mono (Gb.out.2.2.2.2).size)⟩
  clear bb
  clear db_0 db_0_0 eb_0_0 db_0_1 eb_0_1 db_0_2 eb_0_2 db_0_3 eb_0_3 db_0_4 eb_0_4 db_0_5 eb_0_5 db_0_6 eb_0_6 db_0_7 eb_0_7 db_0_8 eb_0_8 db_0_9 eb_0_9 db_1 db_1_0 eb_1_0 db_1_1 eb_1_1 db_1_2 eb_1_2 db_2 db_2_0 eb_2_0 db_2_1 eb_2_1 db_2_2 eb_2_2 db_3 db_3_0 eb_3_0 db_3_1 eb_3_1 db_3_2 eb_3_2
  have l6_0 := F90.out.1.lt
  have a6_0_0 := F90.out.1.cell 0 _ rfl
  have f6_0_0 := F90.out.1.fz 0
  have a6_0_1 := F90.out.1.cell 1 _ rfl
  have f6_0_1 := F90.out.1.fz 1
  have a6_0_2 := F90.out.1.cell 2 _ rfl
  have f6_0_2 := F90.out.1.fz 2
  have a6_0_3 := F90.out.1.cell 3 _ rfl
  have f6_0_3 := F90.out.1.fz 3
  have a6_0_4 := F90.out.1.cell 4 _ rfl
  have f6_0_4 := F90.out.1.fz 4
  have a6_0_5 := F90.out.1.cell 5 _ rfl
  have f6_0_5 := F90.out.1.fz 5
  have a6_0_6 := F90.out.1.cell 6 _ rfl
  have f6_0_6 := F90.out.1.fz 6
  have a6_0_7 := F90.out.1.cell 7 _ rfl
  have f6_0_7 := F90.out.1.fz 7
  have a6_0_8 := F90.out.1.cell 8 _ rfl
  have f6_0_8 := F90.out.1.fz 8
  have a6_0_9 := F90.out.1.cell 9 _ rfl
  have f6_0_9 := F90.out.1.fz 9
  have l6_1 := F90.out.2.1.lt
  have a6_1_0 := F90.out.2.1.cell 0 _ rfl
  have f6_1_0 := F90.out.2.1.fz 0
  have a6_1_1 := F90.out.2.1.cell 1 _ rfl
  have f6_1_1 := F90.out.2.1.fz 1
  have a6_1_2 := F90.out.2.1.cell 2 _ rfl
  have f6_1_2 := F90.out.2.1.fz 2
  have l6_2 := F90.out.2.2.1.lt
  have a6_2_0 := F90.out.2.2.1.cell 0 _ rfl
  have f6_2_0 := F90.out.2.2.1.fz 0
  have a6_2_1 := F90.out.2.2.1.cell 1 _ rfl
  have f6_2_1 := F90.out.2.2.1.fz 1
  have a6_2_2 := F90.out.2.2.1.cell 2 _ rfl
  have f6_2_2 := F90.out.2.2.1.fz 2
  have l6_3 := F90.out.2.2.2.1.lt
  have a6_3_0 := F90.out.2.2.2.1.cell 0 _ rfl
  have f6_3_0 := F90.out.2.2.2.1.fz 0
  have a6_3_1 := F90.out.2.2.2.1.cell 1 _ rfl
  have f6_3_1 := F90.out.2.2.2.1.fz 1
  have a6_3_2 := F90.out.2.2.2.1.cell 2 _ rfl
  have f6_3_2 := F90.out.2.2.2.1.fz 2
  have ne6_0_1 : ¬ w.heap.size = w.heap.size + 1 := by omega
  have ne6_0_2 : ¬ w.heap.size = w2.heap.size := by omega
  have ne6_0_3 : ¬ w.heap.size = w2.heap.size + 1 := by omega
  have ne6_1_0 : ¬ w.heap.size + 1 = w.heap.size := by omega
  have ne6_1_2 : ¬ w.heap.size + 1 = w2.heap.size := by omega
  have ne6_1_3 : ¬ w.heap.size + 1 = w2.heap.size + 1 := by omega
  have ne6_2_0 : ¬ w2.heap.size = w.heap.size := by omega
  have ne6_2_1 : ¬ w2.heap.size = w.heap.size + 1 := by omega
  have ne6_2_3 : ¬ w2.heap.size = w2.heap.size + 1 := by omega
  have ne6_3_0 : ¬ w2.heap.size + 1 = w.heap.size := by omega
  have ne6_3_1 : ¬ w2.heap.size + 1 = w.heap.size + 1 := by omega
  have ne6_3_2 : ¬ w2.heap.size + 1 = w2.heap.size := by omega
  go_wp2
  refine bodyPost_ret (v := .tuple #[.agg #[.string n1, .int .i64 n2, .bool false], .bool true]) (by simp [results, Tryz.results31, go_sem, World.cell?_setCell_same, World.cell?_setCell_other, *]) rfl ⟨rfl, ?_⟩
  repeat (first | refine Below.setCell ?_ (by first | exact Nat.le_refl _ | (dsimp only; omega)) _ | refine Below.alloc ?_ (by first | exact Nat.le_refl _ | omega | (simp; omega)) _ | refine Below.drew ?_)
  exact F90.out.2.2.2.2
theorem rwi_tf {u s t d1 e1 : ByteArray} {o p q d2 e2 n : Int} {c : Bool} (h0 : 0 < d1.size) (HR : ∀ W, Calls Tryz.prog 34 #[.agg #[.string u, .int .i64 o, .bool false], .int .i64 n] W fun e w' => e = .returned (.tuple #[.agg #[.string d1, .int .i64 d2, .bool false], .agg #[.string e1, .int .i64 e2, .bool false]]) ∧ Below W.heap.size W w') (H1 : ∀ W, Calls Tryz.prog 56 #[.agg #[.string u, .int .i64 o, .bool false, .string s, .int .i64 p, .bool false, .string t, .int .i64 q, .bool false, .bool c], .agg #[.string d1, .int .i64 d2, .bool false]] W fun e w' => e = .returned (.bool true) ∧ Below W.heap.size W w') (H2 : ∀ W, Calls Tryz.prog 56 #[.agg #[.string u, .int .i64 o, .bool false, .string s, .int .i64 p, .bool false, .string t, .int .i64 q, .bool false, .bool c], .agg #[.string e1, .int .i64 e2, .bool false]] W fun e w' => e = .returned (.bool false) ∧ Below W.heap.size W w') (w : World) :
 Calls Tryz.prog 31 #[.agg #[.string u, .int .i64 o, .bool false, .string s, .int .i64 p, .bool false, .string t, .int .i64 q, .bool false, .bool c], .int .i64 n] w fun x w' => x = .returned (.tuple #[.agg #[.string d1, .int .i64 d2, .bool false], .bool true]) ∧ Below w.heap.size w w' := by
 have he : d1.toList.isEmpty = false := empty_false h0
 have HX : ∀ (v : Value) (r : Bool), ((v = .agg #[.string d1, .int .i64 d2, .bool false] ∧ r = true) ∨ (v = .agg #[.string e1, .int .i64 e2, .bool false] ∧ r = false)) → ∀ W, Calls Tryz.prog 56 #[.agg #[.string u, .int .i64 o, .bool false, .string s, .int .i64 p, .bool false, .string t, .int .i64 q, .bool false, .bool c], v] W fun e w' => e = .returned (.bool r) ∧ Below W.heap.size W w' := by
  rintro v r (⟨rfl, rfl⟩ | ⟨rfl, rfl⟩) W
  · exact H1 W
  · exact H2 W
 clear H1 H2
 have F0 : Hid (Bk ((w.alloc (.cells #[.string u, .int .i64 o, .bool false, .string s, .int .i64 p, .bool false, .string t, .int .i64 q, .bool false, .bool c] 65)).alloc (.cells #[.string ⟨#[]⟩, .int .i64 0, .bool false] 24)) (w.heap.size) [.string u, .int .i64 o, .bool false, .string s, .int .i64 p, .bool false, .string t, .int .i64 q, .bool false, .bool c] ∧ Bk ((w.alloc (.cells #[.string u, .int .i64 o, .bool false, .string s, .int .i64 p, .bool false, .string t, .int .i64 q, .bool false, .bool c] 65)).alloc (.cells #[.string ⟨#[]⟩, .int .i64 0, .bool false] 24)) (w.heap.size + 1) [.string ⟨#[]⟩, .int .i64 0, .bool false] ∧ Below w.heap.size w ((w.alloc (.cells #[.string u, .int .i64 o, .bool false, .string s, .int .i64 p, .bool false, .string t, .int .i64 q, .bool false, .bool c] 65)).alloc (.cells #[.string ⟨#[]⟩, .int .i64 0, .bool false] 24))) := ⟨(Bk.newL w [.string u, .int .i64 o, .bool false, .string s, .int .i64 p, .bool false, .string t, .int .i64 q, .bool false, .bool c] 65).step ((Below.refl _ _).alloc (Nat.le_refl _) _), ((by have q := Bk.new3 (w.alloc (.cells #[.string u, .int .i64 o, .bool false, .string s, .int .i64 p, .bool false, .string t, .int .i64 q, .bool false, .bool c] 65)) (.string ⟨#[]⟩) (.int .i64 0) (.bool false) 24; simpa using q) : Bk ((w.alloc (.cells #[.string u, .int .i64 o, .bool false, .string s, .int .i64 p, .bool false, .string t, .int .i64 q, .bool false, .bool c] 65)).alloc (.cells #[.string ⟨#[]⟩, .int .i64 0, .bool false] 24)) (w.heap.size + 1) [.string ⟨#[]⟩, .int .i64 0, .bool false]), (((Below.refl w.heap.size w)).alloc (Nat.le_refl _) _).alloc ((((Below.refl w.heap.size w)).alloc (Nat.le_refl _) _).size) _⟩
 go_enter Tryz.func31, Tryz.ntmps31
 go_upto_region 1 with fail
 generalize ((w.alloc (.cells #[.string u, .int .i64 o, .bool false, .string s, .int .i64 p, .bool false, .string t, .int .i64 q, .bool false, .bool c] 65)).alloc (.cells #[.string ⟨#[]⟩, .int .i64 0, .bool false] 24)) = w1 at *
 have l1_0 := F0.out.1.lt
 have a1_0_0 := F0.out.1.cell 0 _ rfl
 have f1_0_0 := F0.out.1.fz 0
 have a1_0_1 := F0.out.1.cell 1 _ rfl
 have f1_0_1 := F0.out.1.fz 1
 have a1_0_2 := F0.out.1.cell 2 _ rfl
 have f1_0_2 := F0.out.1.fz 2
 have a1_0_3 := F0.out.1.cell 3 _ rfl
 have f1_0_3 := F0.out.1.fz 3
 have a1_0_4 := F0.out.1.cell 4 _ rfl
 have f1_0_4 := F0.out.1.fz 4
 have a1_0_5 := F0.out.1.cell 5 _ rfl
 have f1_0_5 := F0.out.1.fz 5
 have a1_0_6 := F0.out.1.cell 6 _ rfl
 have f1_0_6 := F0.out.1.fz 6
 have a1_0_7 := F0.out.1.cell 7 _ rfl
 have f1_0_7 := F0.out.1.fz 7
 have a1_0_8 := F0.out.1.cell 8 _ rfl
 have f1_0_8 := F0.out.1.fz 8
 have a1_0_9 := F0.out.1.cell 9 _ rfl
 have f1_0_9 := F0.out.1.fz 9
 have l1_1 := F0.out.2.1.lt
 have a1_1_0 := F0.out.2.1.cell 0 _ rfl
 have f1_1_0 := F0.out.2.1.fz 0
 have a1_1_1 := F0.out.2.1.cell 1 _ rfl
 have f1_1_1 := F0.out.2.1.fz 1
 have a1_1_2 := F0.out.2.1.cell 2 _ rfl
 have f1_1_2 := F0.out.2.1.fz 2
 have ne1_0_1 : ¬ w.heap.size = w.heap.size + 1 := by omega
 have ne1_1_0 : ¬ w.heap.size + 1 = w.heap.size := by omega
 go_wp2_with fail
 all_goals first | (exfalso; omega) | skip
 refine (HR _).mono ?_
 rintro o2 w2 ⟨rfl, bb⟩
 have F1 : Hid (Bk w2 (w.heap.size) [.string u, .int .i64 o, .bool false, .string s, .int .i64 p, .bool false, .string t, .int .i64 q, .bool false, .bool c] ∧ Bk w2 (w.heap.size + 1) [.string ⟨#[]⟩, .int .i64 0, .bool false] ∧ Below w.heap.size w w2) := ⟨(F0.out.1).step bb, (F0.out.2.1).step bb, (F0.out.2.2).trans (bb.mono (F0.out.2.2).size)⟩
 clear F0
 clear bb
 clear l1_0 a1_0_0 f1_0_0 a1_0_1 f1_0_1 a1_0_2 f1_0_2 a1_0_3 f1_0_3 a1_0_4 f1_0_4 a1_0_5 f1_0_5 a1_0_6 f1_0_6 a1_0_7 f1_0_7 a1_0_8 f1_0_8 a1_0_9 f1_0_9 l1_1 a1_1_0 f1_1_0 a1_1_1 f1_1_1 a1_1_2 f1_1_2
 have lt0_2 := (F1.out.1).lt
 have lt1_2 := (F1.out.2.1).lt
 have le2 := (F1.out.2.2).size
 have F2 : Hid (Bk ((w2.alloc (.cells #[.string d1, .int .i64 d2, .bool false] 24)).alloc (.cells #[.string e1, .int .i64 e2, .bool false] 24)) (w.heap.size) [.string u, .int .i64 o, .bool false, .string s, .int .i64 p, .bool false, .string t, .int .i64 q, .bool false, .bool c] ∧ Bk ((w2.alloc (.cells #[.string d1, .int .i64 d2, .bool false] 24)).alloc (.cells #[.string e1, .int .i64 e2, .bool false] 24)) (w.heap.size + 1) [.string ⟨#[]⟩, .int .i64 0, .bool false] ∧ Bk ((w2.alloc (.cells #[.string d1, .int .i64 d2, .bool false] 24)).alloc (.cells #[.string e1, .int .i64 e2, .bool false] 24)) (w2.heap.size) [.string d1, .int .i64 d2, .bool false] ∧ Bk ((w2.alloc (.cells #[.string d1, .int .i64 d2, .bool false] 24)).alloc (.cells #[.string e1, .int .i64 e2, .bool false] 24)) (w2.heap.size + 1) [.string e1, .int .i64 e2, .bool false] ∧ Below w.heap.size w ((w2.alloc (.cells #[.string d1, .int .i64 d2, .bool false] 24)).alloc (.cells #[.string e1, .int .i64 e2, .bool false] 24))) := ⟨((F1.out.1).step ((Below.refl _ _).alloc (Nat.le_refl _) _)).step ((Below.refl _ _).alloc (Nat.le_refl _) _), ((F1.out.2.1).step ((Below.refl _ _).alloc (Nat.le_refl _) _)).step ((Below.refl _ _).alloc (Nat.le_refl _) _), (Bk.new3 w2 (.string d1) (.int .i64 d2) (.bool false) 24).step ((Below.refl _ _).alloc (Nat.le_refl _) _), ((by have q := Bk.new3 (w2.alloc (.cells #[.string d1, .int .i64 d2, .bool false] 24)) (.string e1) (.int .i64 e2) (.bool false) 24; simpa using q) : Bk ((w2.alloc (.cells #[.string d1, .int .i64 d2, .bool false] 24)).alloc (.cells #[.string e1, .int .i64 e2, .bool false] 24)) (w2.heap.size + 1) [.string e1, .int .i64 e2, .bool false]), ((F1.out.2.2).alloc ((F1.out.2.2).size) _).alloc (((F1.out.2.2).alloc ((F1.out.2.2).size) _).size) _⟩
 clear F1
 go_upto_region 2 with fail
 generalize ((w2.alloc (.cells #[.string d1, .int .i64 d2, .bool false] 24)).alloc (.cells #[.string e1, .int .i64 e2, .bool false] 24)) = w3 at *
 have l2_0 := F2.out.1.lt
 have a2_0_0 := F2.out.1.cell 0 _ rfl
 have f2_0_0 := F2.out.1.fz 0
 have a2_0_1 := F2.out.1.cell 1 _ rfl
 have f2_0_1 := F2.out.1.fz 1
 have a2_0_2 := F2.out.1.cell 2 _ rfl
 have f2_0_2 := F2.out.1.fz 2
 have a2_0_3 := F2.out.1.cell 3 _ rfl
 have f2_0_3 := F2.out.1.fz 3
 have a2_0_4 := F2.out.1.cell 4 _ rfl
 have f2_0_4 := F2.out.1.fz 4
 have a2_0_5 := F2.out.1.cell 5 _ rfl
 have f2_0_5 := F2.out.1.fz 5
 have a2_0_6 := F2.out.1.cell 6 _ rfl
 have f2_0_6 := F2.out.1.fz 6
 have a2_0_7 := F2.out.1.cell 7 _ rfl
 have f2_0_7 := F2.out.1.fz 7
 have a2_0_8 := F2.out.1.cell 8 _ rfl
 have f2_0_8 := F2.out.1.fz 8
 have a2_0_9 := F2.out.1.cell 9 _ rfl
 have f2_0_9 := F2.out.1.fz 9
 have l2_1 := F2.out.2.1.lt
 have a2_1_0 := F2.out.2.1.cell 0 _ rfl
 have f2_1_0 := F2.out.2.1.fz 0
 have a2_1_1 := F2.out.2.1.cell 1 _ rfl
 have f2_1_1 := F2.out.2.1.fz 1
 have a2_1_2 := F2.out.2.1.cell 2 _ rfl
 have f2_1_2 := F2.out.2.1.fz 2
 have l2_2 := F2.out.2.2.1.lt
 have a2_2_0 := F2.out.2.2.1.cell 0 _ rfl
 have f2_2_0 := F2.out.2.2.1.fz 0
 have a2_2_1 := F2.out.2.2.1.cell 1 _ rfl
 have f2_2_1 := F2.out.2.2.1.fz 1
 have a2_2_2 := F2.out.2.2.1.cell 2 _ rfl
 have f2_2_2 := F2.out.2.2.1.fz 2
 have l2_3 := F2.out.2.2.2.1.lt
 have a2_3_0 := F2.out.2.2.2.1.cell 0 _ rfl
 have f2_3_0 := F2.out.2.2.2.1.fz 0
 have a2_3_1 := F2.out.2.2.2.1.cell 1 _ rfl
 have f2_3_1 := F2.out.2.2.2.1.fz 1
 have a2_3_2 := F2.out.2.2.2.1.cell 2 _ rfl
 have f2_3_2 := F2.out.2.2.2.1.fz 2
 have ne2_0_1 : ¬ w.heap.size = w.heap.size + 1 := by omega
 have ne2_0_2 : ¬ w.heap.size = w2.heap.size := by omega
 have ne2_0_3 : ¬ w.heap.size = w2.heap.size + 1 := by omega
 have ne2_1_0 : ¬ w.heap.size + 1 = w.heap.size := by omega
 have ne2_1_2 : ¬ w.heap.size + 1 = w2.heap.size := by omega
 have ne2_1_3 : ¬ w.heap.size + 1 = w2.heap.size + 1 := by omega
 have ne2_2_0 : ¬ w2.heap.size = w.heap.size := by omega
 have ne2_2_1 : ¬ w2.heap.size = w.heap.size + 1 := by omega
 have ne2_2_3 : ¬ w2.heap.size = w2.heap.size + 1 := by omega
 have ne2_3_0 : ¬ w2.heap.size + 1 = w.heap.size := by omega
 have ne2_3_1 : ¬ w2.heap.size + 1 = w.heap.size + 1 := by omega
 have ne2_3_2 : ¬ w2.heap.size + 1 = w2.heap.size := by omega
 go_region_held3 (fun w' => w'.cell? ⟨w.heap.size, 0, none⟩ = some (.string u) ∧ w'.cell? ⟨w.heap.size, 1, none⟩ = some (.int .i64 o) ∧ w'.cell? ⟨w.heap.size, 2, none⟩ = some (.bool false) ∧ w'.cell? ⟨w.heap.size, 3, none⟩ = some (.string s) ∧ w'.cell? ⟨w.heap.size, 4, none⟩ = some (.int .i64 p) ∧ w'.cell? ⟨w.heap.size, 5, none⟩ = some (.bool false) ∧ w'.cell? ⟨w.heap.size, 6, none⟩ = some (.string t) ∧ w'.cell? ⟨w.heap.size, 7, none⟩ = some (.int .i64 q) ∧ w'.cell? ⟨w.heap.size, 8, none⟩ = some (.bool false) ∧ w'.cell? ⟨w.heap.size, 9, none⟩ = some (.bool c) ∧ w'.cell? ⟨w2.heap.size, 0, none⟩ = some (.string d1) ∧ w'.cell? ⟨w2.heap.size, 1, none⟩ = some (.int .i64 d2) ∧ w'.cell? ⟨w2.heap.size, 2, none⟩ = some (.bool false) ∧ w'.cell? ⟨w2.heap.size + 1, 0, none⟩ = some (.string e1) ∧ w'.cell? ⟨w2.heap.size + 1, 1, none⟩ = some (.int .i64 e2) ∧ w'.cell? ⟨w2.heap.size + 1, 2, none⟩ = some (.bool false)) (simp [*, go_sem]) (first | (go_at_call 56; refine (HX _ _ (by first | exact Or.inl ⟨rfl, rfl⟩ | exact Or.inr ⟨rfl, rfl⟩) _).mono ?_; rintro px vx ⟨rfl, bb⟩; first | (have Gb : Hid (Bk vx (w.heap.size) [.string u, .int .i64 o, .bool false, .string s, .int .i64 p, .bool false, .string t, .int .i64 q, .bool false, .bool c] ∧ Bk vx (w.heap.size + 1) [.string ⟨#[]⟩, .int .i64 0, .bool false] ∧ Bk vx (w2.heap.size) [.string d1, .int .i64 d2, .bool false] ∧ Bk vx (w2.heap.size + 1) [.string e1, .int .i64 e2, .bool false] ∧ Below w.heap.size w vx) := ⟨(Ga.out.1).step bb, (Ga.out.2.1).step bb, (Ga.out.2.2.1).step bb, (Ga.out.2.2.2.1).step bb, (Ga.out.2.2.2.2).trans (bb.mono (Ga.out.2.2.2.2).size)⟩; clear bb; have db_0 := (Gb.out.1).lt; have db_0_0 := (Gb.out.1).cell 0 _ rfl; have eb_0_0 := (Gb.out.1).fz 0; have db_0_1 := (Gb.out.1).cell 1 _ rfl; have eb_0_1 := (Gb.out.1).fz 1; have db_0_2 := (Gb.out.1).cell 2 _ rfl; have eb_0_2 := (Gb.out.1).fz 2; have db_0_3 := (Gb.out.1).cell 3 _ rfl; have eb_0_3 := (Gb.out.1).fz 3; have db_0_4 := (Gb.out.1).cell 4 _ rfl; have eb_0_4 := (Gb.out.1).fz 4; have db_0_5 := (Gb.out.1).cell 5 _ rfl; have eb_0_5 := (Gb.out.1).fz 5; have db_0_6 := (Gb.out.1).cell 6 _ rfl; have eb_0_6 := (Gb.out.1).fz 6; have db_0_7 := (Gb.out.1).cell 7 _ rfl; have eb_0_7 := (Gb.out.1).fz 7; have db_0_8 := (Gb.out.1).cell 8 _ rfl; have eb_0_8 := (Gb.out.1).fz 8; have db_0_9 := (Gb.out.1).cell 9 _ rfl; have eb_0_9 := (Gb.out.1).fz 9; have db_1 := (Gb.out.2.1).lt; have db_1_0 := (Gb.out.2.1).cell 0 _ rfl; have eb_1_0 := (Gb.out.2.1).fz 0; have db_1_1 := (Gb.out.2.1).cell 1 _ rfl; have eb_1_1 := (Gb.out.2.1).fz 1; have db_1_2 := (Gb.out.2.1).cell 2 _ rfl; have eb_1_2 := (Gb.out.2.1).fz 2; have db_2 := (Gb.out.2.2.1).lt; have db_2_0 := (Gb.out.2.2.1).cell 0 _ rfl; have eb_2_0 := (Gb.out.2.2.1).fz 0; have db_2_1 := (Gb.out.2.2.1).cell 1 _ rfl; have eb_2_1 := (Gb.out.2.2.1).fz 1; have db_2_2 := (Gb.out.2.2.1).cell 2 _ rfl; have eb_2_2 := (Gb.out.2.2.1).fz 2; have db_3 := (Gb.out.2.2.2.1).lt; have db_3_0 := (Gb.out.2.2.2.1).cell 0 _ rfl; have eb_3_0 := (Gb.out.2.2.2.1).fz 0; have db_3_1 := (Gb.out.2.2.2.1).cell 1 _ rfl; have eb_3_1 := (Gb.out.2.2.2.1).fz 1; have db_3_2 := (Gb.out.2.2.2.1).cell 2 _ rfl; have eb_3_2 := (Gb.out.2.2.2.1).fz 2) | (have Ga : Hid (Bk vx (w.heap.size) [.string u, .int .i64 o, .bool false, .string s, .int .i64 p, .bool false, .string t, .int .i64 q, .bool false, .bool c] ∧ Bk vx (w.heap.size + 1) [.string ⟨#[]⟩, .int .i64 0, .bool false] ∧ Bk vx (w2.heap.size) [.string d1, .int .i64 d2, .bool false] ∧ Bk vx (w2.heap.size + 1) [.string e1, .int .i64 e2, .bool false] ∧ Below w.heap.size w vx) := ⟨((F2.out.1).step (Below.refl _ _).drew).step bb, ((F2.out.2.1).step (Below.refl _ _).drew).step bb, ((F2.out.2.2.1).step (Below.refl _ _).drew).step bb, ((F2.out.2.2.2.1).step (Below.refl _ _).drew).step bb, ((F2.out.2.2.2.2).drew).trans (bb.mono (F2.out.2.2.2.2).size)⟩; clear bb; have da_0 := (Ga.out.1).lt; have da_0_0 := (Ga.out.1).cell 0 _ rfl; have ea_0_0 := (Ga.out.1).fz 0; have da_0_1 := (Ga.out.1).cell 1 _ rfl; have ea_0_1 := (Ga.out.1).fz 1; have da_0_2 := (Ga.out.1).cell 2 _ rfl; have ea_0_2 := (Ga.out.1).fz 2; have da_0_3 := (Ga.out.1).cell 3 _ rfl; have ea_0_3 := (Ga.out.1).fz 3; have da_0_4 := (Ga.out.1).cell 4 _ rfl; have ea_0_4 := (Ga.out.1).fz 4; have da_0_5 := (Ga.out.1).cell 5 _ rfl; have ea_0_5 := (Ga.out.1).fz 5; have da_0_6 := (Ga.out.1).cell 6 _ rfl; have ea_0_6 := (Ga.out.1).fz 6; have da_0_7 := (Ga.out.1).cell 7 _ rfl; have ea_0_7 := (Ga.out.1).fz 7; have da_0_8 := (Ga.out.1).cell 8 _ rfl; have ea_0_8 := (Ga.out.1).fz 8; have da_0_9 := (Ga.out.1).cell 9 _ rfl; have ea_0_9 := (Ga.out.1).fz 9; have da_1 := (Ga.out.2.1).lt; have da_1_0 := (Ga.out.2.1).cell 0 _ rfl; have ea_1_0 := (Ga.out.2.1).fz 0; have da_1_1 := (Ga.out.2.1).cell 1 _ rfl; have ea_1_1 := (Ga.out.2.1).fz 1; have da_1_2 := (Ga.out.2.1).cell 2 _ rfl; have ea_1_2 := (Ga.out.2.1).fz 2; have da_2 := (Ga.out.2.2.1).lt; have da_2_0 := (Ga.out.2.2.1).cell 0 _ rfl; have ea_2_0 := (Ga.out.2.2.1).fz 0; have da_2_1 := (Ga.out.2.2.1).cell 1 _ rfl; have ea_2_1 := (Ga.out.2.2.1).fz 1; have da_2_2 := (Ga.out.2.2.1).cell 2 _ rfl; have ea_2_2 := (Ga.out.2.2.1).fz 2; have da_3 := (Ga.out.2.2.2.1).lt; have da_3_0 := (Ga.out.2.2.2.1).cell 0 _ rfl; have ea_3_0 := (Ga.out.2.2.2.1).fz 0; have da_3_1 := (Ga.out.2.2.2.1).cell 1 _ rfl; have ea_3_1 := (Ga.out.2.2.2.1).fz 1; have da_3_2 := (Ga.out.2.2.2.1).cell 2 _ rfl; have ea_3_2 := (Ga.out.2.2.2.1).fz 2)))
 all_goals
  go_wp2
  refine bodyPost_ret (v := .tuple #[.agg #[.string d1, .int .i64 d2, .bool false], .bool true]) (by simp [results, Tryz.results31, go_sem, World.cell?_setCell_same, World.cell?_setCell_other, *]) rfl ⟨rfl, ?_⟩
  repeat (first | refine Below.setCell ?_ (by first | exact Nat.le_refl _ | (dsimp only; omega)) _ | refine Below.alloc ?_ (by first | exact Nat.le_refl _ | omega | (simp; omega)) _ | refine Below.drew ?_)
  exact Gb.out.2.2.2.2
theorem rwi_ft {u s t d1 e1 : ByteArray} {o p q d2 e2 n : Int} {c : Bool} (h0 : 0 < d1.size) (HR : ∀ W, Calls Tryz.prog 34 #[.agg #[.string u, .int .i64 o, .bool false], .int .i64 n] W fun e w' => e = .returned (.tuple #[.agg #[.string d1, .int .i64 d2, .bool false], .agg #[.string e1, .int .i64 e2, .bool false]]) ∧ Below W.heap.size W w') (H1 : ∀ W, Calls Tryz.prog 56 #[.agg #[.string u, .int .i64 o, .bool false, .string s, .int .i64 p, .bool false, .string t, .int .i64 q, .bool false, .bool c], .agg #[.string d1, .int .i64 d2, .bool false]] W fun e w' => e = .returned (.bool false) ∧ Below W.heap.size W w') (H2 : ∀ W, Calls Tryz.prog 56 #[.agg #[.string u, .int .i64 o, .bool false, .string s, .int .i64 p, .bool false, .string t, .int .i64 q, .bool false, .bool c], .agg #[.string e1, .int .i64 e2, .bool false]] W fun e w' => e = .returned (.bool true) ∧ Below W.heap.size W w') (w : World) :
 Calls Tryz.prog 31 #[.agg #[.string u, .int .i64 o, .bool false, .string s, .int .i64 p, .bool false, .string t, .int .i64 q, .bool false, .bool c], .int .i64 n] w fun x w' => x = .returned (.tuple #[.agg #[.string e1, .int .i64 e2, .bool false], .bool true]) ∧ Below w.heap.size w w' := by
 have he : d1.toList.isEmpty = false := empty_false h0
 have HX : ∀ (v : Value) (r : Bool), ((v = .agg #[.string d1, .int .i64 d2, .bool false] ∧ r = false) ∨ (v = .agg #[.string e1, .int .i64 e2, .bool false] ∧ r = true)) → ∀ W, Calls Tryz.prog 56 #[.agg #[.string u, .int .i64 o, .bool false, .string s, .int .i64 p, .bool false, .string t, .int .i64 q, .bool false, .bool c], v] W fun e w' => e = .returned (.bool r) ∧ Below W.heap.size W w' := by
  rintro v r (⟨rfl, rfl⟩ | ⟨rfl, rfl⟩) W
  · exact H1 W
  · exact H2 W
 clear H1 H2
 have F0 : Hid (Bk ((w.alloc (.cells #[.string u, .int .i64 o, .bool false, .string s, .int .i64 p, .bool false, .string t, .int .i64 q, .bool false, .bool c] 65)).alloc (.cells #[.string ⟨#[]⟩, .int .i64 0, .bool false] 24)) (w.heap.size) [.string u, .int .i64 o, .bool false, .string s, .int .i64 p, .bool false, .string t, .int .i64 q, .bool false, .bool c] ∧ Bk ((w.alloc (.cells #[.string u, .int .i64 o, .bool false, .string s, .int .i64 p, .bool false, .string t, .int .i64 q, .bool false, .bool c] 65)).alloc (.cells #[.string ⟨#[]⟩, .int .i64 0, .bool false] 24)) (w.heap.size + 1) [.string ⟨#[]⟩, .int .i64 0, .bool false] ∧ Below w.heap.size w ((w.alloc (.cells #[.string u, .int .i64 o, .bool false, .string s, .int .i64 p, .bool false, .string t, .int .i64 q, .bool false, .bool c] 65)).alloc (.cells #[.string ⟨#[]⟩, .int .i64 0, .bool false] 24))) := ⟨(Bk.newL w [.string u, .int .i64 o, .bool false, .string s, .int .i64 p, .bool false, .string t, .int .i64 q, .bool false, .bool c] 65).step ((Below.refl _ _).alloc (Nat.le_refl _) _), ((by have q := Bk.new3 (w.alloc (.cells #[.string u, .int .i64 o, .bool false, .string s, .int .i64 p, .bool false, .string t, .int .i64 q, .bool false, .bool c] 65)) (.string ⟨#[]⟩) (.int .i64 0) (.bool false) 24; simpa using q) : Bk ((w.alloc (.cells #[.string u, .int .i64 o, .bool false, .string s, .int .i64 p, .bool false, .string t, .int .i64 q, .bool false, .bool c] 65)).alloc (.cells #[.string ⟨#[]⟩, .int .i64 0, .bool false] 24)) (w.heap.size + 1) [.string ⟨#[]⟩, .int .i64 0, .bool false]), (((Below.refl w.heap.size w)).alloc (Nat.le_refl _) _).alloc ((((Below.refl w.heap.size w)).alloc (Nat.le_refl _) _).size) _⟩
 go_enter Tryz.func31, Tryz.ntmps31
 go_upto_region 1 with fail
 generalize ((w.alloc (.cells #[.string u, .int .i64 o, .bool false, .string s, .int .i64 p, .bool false, .string t, .int .i64 q, .bool false, .bool c] 65)).alloc (.cells #[.string ⟨#[]⟩, .int .i64 0, .bool false] 24)) = w1 at *
 have l1_0 := F0.out.1.lt
 have a1_0_0 := F0.out.1.cell 0 _ rfl
 have f1_0_0 := F0.out.1.fz 0
 have a1_0_1 := F0.out.1.cell 1 _ rfl
 have f1_0_1 := F0.out.1.fz 1
 have a1_0_2 := F0.out.1.cell 2 _ rfl
 have f1_0_2 := F0.out.1.fz 2
 have a1_0_3 := F0.out.1.cell 3 _ rfl
 have f1_0_3 := F0.out.1.fz 3
 have a1_0_4 := F0.out.1.cell 4 _ rfl
 have f1_0_4 := F0.out.1.fz 4
 have a1_0_5 := F0.out.1.cell 5 _ rfl
 have f1_0_5 := F0.out.1.fz 5
 have a1_0_6 := F0.out.1.cell 6 _ rfl
 have f1_0_6 := F0.out.1.fz 6
 have a1_0_7 := F0.out.1.cell 7 _ rfl
 have f1_0_7 := F0.out.1.fz 7
 have a1_0_8 := F0.out.1.cell 8 _ rfl
 have f1_0_8 := F0.out.1.fz 8
 have a1_0_9 := F0.out.1.cell 9 _ rfl
 have f1_0_9 := F0.out.1.fz 9
 have l1_1 := F0.out.2.1.lt
 have a1_1_0 := F0.out.2.1.cell 0 _ rfl
 have f1_1_0 := F0.out.2.1.fz 0
 have a1_1_1 := F0.out.2.1.cell 1 _ rfl
 have f1_1_1 := F0.out.2.1.fz 1
 have a1_1_2 := F0.out.2.1.cell 2 _ rfl
 have f1_1_2 := F0.out.2.1.fz 2
 have ne1_0_1 : ¬ w.heap.size = w.heap.size + 1 := by omega
 have ne1_1_0 : ¬ w.heap.size + 1 = w.heap.size := by omega
 go_wp2_with fail
 all_goals first | (exfalso; omega) | skip
 refine (HR _).mono ?_
 rintro o2 w2 ⟨rfl, bb⟩
 have F1 : Hid (Bk w2 (w.heap.size) [.string u, .int .i64 o, .bool false, .string s, .int .i64 p, .bool false, .string t, .int .i64 q, .bool false, .bool c] ∧ Bk w2 (w.heap.size + 1) [.string ⟨#[]⟩, .int .i64 0, .bool false] ∧ Below w.heap.size w w2) := ⟨(F0.out.1).step bb, (F0.out.2.1).step bb, (F0.out.2.2).trans (bb.mono (F0.out.2.2).size)⟩
 clear F0
 clear bb
 clear l1_0 a1_0_0 f1_0_0 a1_0_1 f1_0_1 a1_0_2 f1_0_2 a1_0_3 f1_0_3 a1_0_4 f1_0_4 a1_0_5 f1_0_5 a1_0_6 f1_0_6 a1_0_7 f1_0_7 a1_0_8 f1_0_8 a1_0_9 f1_0_9 l1_1 a1_1_0 f1_1_0 a1_1_1 f1_1_1 a1_1_2 f1_1_2
 have lt0_2 := (F1.out.1).lt
 have lt1_2 := (F1.out.2.1).lt
 have le2 := (F1.out.2.2).size
 have F2 : Hid (Bk ((w2.alloc (.cells #[.string d1, .int .i64 d2, .bool false] 24)).alloc (.cells #[.string e1, .int .i64 e2, .bool false] 24)) (w.heap.size) [.string u, .int .i64 o, .bool false, .string s, .int .i64 p, .bool false, .string t, .int .i64 q, .bool false, .bool c] ∧ Bk ((w2.alloc (.cells #[.string d1, .int .i64 d2, .bool false] 24)).alloc (.cells #[.string e1, .int .i64 e2, .bool false] 24)) (w.heap.size + 1) [.string ⟨#[]⟩, .int .i64 0, .bool false] ∧ Bk ((w2.alloc (.cells #[.string d1, .int .i64 d2, .bool false] 24)).alloc (.cells #[.string e1, .int .i64 e2, .bool false] 24)) (w2.heap.size) [.string d1, .int .i64 d2, .bool false] ∧ Bk ((w2.alloc (.cells #[.string d1, .int .i64 d2, .bool false] 24)).alloc (.cells #[.string e1, .int .i64 e2, .bool false] 24)) (w2.heap.size + 1) [.string e1, .int .i64 e2, .bool false] ∧ Below w.heap.size w ((w2.alloc (.cells #[.string d1, .int .i64 d2, .bool false] 24)).alloc (.cells #[.string e1, .int .i64 e2, .bool false] 24))) := ⟨((F1.out.1).step ((Below.refl _ _).alloc (Nat.le_refl _) _)).step ((Below.refl _ _).alloc (Nat.le_refl _) _), ((F1.out.2.1).step ((Below.refl _ _).alloc (Nat.le_refl _) _)).step ((Below.refl _ _).alloc (Nat.le_refl _) _), (Bk.new3 w2 (.string d1) (.int .i64 d2) (.bool false) 24).step ((Below.refl _ _).alloc (Nat.le_refl _) _), ((by have q := Bk.new3 (w2.alloc (.cells #[.string d1, .int .i64 d2, .bool false] 24)) (.string e1) (.int .i64 e2) (.bool false) 24; simpa using q) : Bk ((w2.alloc (.cells #[.string d1, .int .i64 d2, .bool false] 24)).alloc (.cells #[.string e1, .int .i64 e2, .bool false] 24)) (w2.heap.size + 1) [.string e1, .int .i64 e2, .bool false]), ((F1.out.2.2).alloc ((F1.out.2.2).size) _).alloc (((F1.out.2.2).alloc ((F1.out.2.2).size) _).size) _⟩
 clear F1
 go_upto_region 2 with fail
 generalize ((w2.alloc (.cells #[.string d1, .int .i64 d2, .bool false] 24)).alloc (.cells #[.string e1, .int .i64 e2, .bool false] 24)) = w3 at *
 have l2_0 := F2.out.1.lt
 have a2_0_0 := F2.out.1.cell 0 _ rfl
 have f2_0_0 := F2.out.1.fz 0
 have a2_0_1 := F2.out.1.cell 1 _ rfl
 have f2_0_1 := F2.out.1.fz 1
 have a2_0_2 := F2.out.1.cell 2 _ rfl
 have f2_0_2 := F2.out.1.fz 2
 have a2_0_3 := F2.out.1.cell 3 _ rfl
 have f2_0_3 := F2.out.1.fz 3
 have a2_0_4 := F2.out.1.cell 4 _ rfl
 have f2_0_4 := F2.out.1.fz 4
 have a2_0_5 := F2.out.1.cell 5 _ rfl
 have f2_0_5 := F2.out.1.fz 5
 have a2_0_6 := F2.out.1.cell 6 _ rfl
 have f2_0_6 := F2.out.1.fz 6
 have a2_0_7 := F2.out.1.cell 7 _ rfl
 have f2_0_7 := F2.out.1.fz 7
 have a2_0_8 := F2.out.1.cell 8 _ rfl
 have f2_0_8 := F2.out.1.fz 8
 have a2_0_9 := F2.out.1.cell 9 _ rfl
 have f2_0_9 := F2.out.1.fz 9
 have l2_1 := F2.out.2.1.lt
 have a2_1_0 := F2.out.2.1.cell 0 _ rfl
 have f2_1_0 := F2.out.2.1.fz 0
 have a2_1_1 := F2.out.2.1.cell 1 _ rfl
 have f2_1_1 := F2.out.2.1.fz 1
 have a2_1_2 := F2.out.2.1.cell 2 _ rfl
 have f2_1_2 := F2.out.2.1.fz 2
 have l2_2 := F2.out.2.2.1.lt
 have a2_2_0 := F2.out.2.2.1.cell 0 _ rfl
 have f2_2_0 := F2.out.2.2.1.fz 0
 have a2_2_1 := F2.out.2.2.1.cell 1 _ rfl
 have f2_2_1 := F2.out.2.2.1.fz 1
 have a2_2_2 := F2.out.2.2.1.cell 2 _ rfl
 have f2_2_2 := F2.out.2.2.1.fz 2
 have l2_3 := F2.out.2.2.2.1.lt
 have a2_3_0 := F2.out.2.2.2.1.cell 0 _ rfl
 have f2_3_0 := F2.out.2.2.2.1.fz 0
 have a2_3_1 := F2.out.2.2.2.1.cell 1 _ rfl
 have f2_3_1 := F2.out.2.2.2.1.fz 1
 have a2_3_2 := F2.out.2.2.2.1.cell 2 _ rfl
 have f2_3_2 := F2.out.2.2.2.1.fz 2
 have ne2_0_1 : ¬ w.heap.size = w.heap.size + 1 := by omega
 have ne2_0_2 : ¬ w.heap.size = w2.heap.size := by omega
 have ne2_0_3 : ¬ w.heap.size = w2.heap.size + 1 := by omega
 have ne2_1_0 : ¬ w.heap.size + 1 = w.heap.size := by omega
 have ne2_1_2 : ¬ w.heap.size + 1 = w2.heap.size := by omega
 have ne2_1_3 : ¬ w.heap.size + 1 = w2.heap.size + 1 := by omega
 have ne2_2_0 : ¬ w2.heap.size = w.heap.size := by omega
 have ne2_2_1 : ¬ w2.heap.size = w.heap.size + 1 := by omega
 have ne2_2_3 : ¬ w2.heap.size = w2.heap.size + 1 := by omega
 have ne2_3_0 : ¬ w2.heap.size + 1 = w.heap.size := by omega
 have ne2_3_1 : ¬ w2.heap.size + 1 = w.heap.size + 1 := by omega
 have ne2_3_2 : ¬ w2.heap.size + 1 = w2.heap.size := by omega
 go_region_held3 (fun w' => w'.cell? ⟨w.heap.size, 0, none⟩ = some (.string u) ∧ w'.cell? ⟨w.heap.size, 1, none⟩ = some (.int .i64 o) ∧ w'.cell? ⟨w.heap.size, 2, none⟩ = some (.bool false) ∧ w'.cell? ⟨w.heap.size, 3, none⟩ = some (.string s) ∧ w'.cell? ⟨w.heap.size, 4, none⟩ = some (.int .i64 p) ∧ w'.cell? ⟨w.heap.size, 5, none⟩ = some (.bool false) ∧ w'.cell? ⟨w.heap.size, 6, none⟩ = some (.string t) ∧ w'.cell? ⟨w.heap.size, 7, none⟩ = some (.int .i64 q) ∧ w'.cell? ⟨w.heap.size, 8, none⟩ = some (.bool false) ∧ w'.cell? ⟨w.heap.size, 9, none⟩ = some (.bool c) ∧ w'.cell? ⟨w2.heap.size, 0, none⟩ = some (.string d1) ∧ w'.cell? ⟨w2.heap.size, 1, none⟩ = some (.int .i64 d2) ∧ w'.cell? ⟨w2.heap.size, 2, none⟩ = some (.bool false) ∧ w'.cell? ⟨w2.heap.size + 1, 0, none⟩ = some (.string e1) ∧ w'.cell? ⟨w2.heap.size + 1, 1, none⟩ = some (.int .i64 e2) ∧ w'.cell? ⟨w2.heap.size + 1, 2, none⟩ = some (.bool false)) (simp [*, go_sem]) (first | (go_at_call 56; refine (HX _ _ (by first | exact Or.inl ⟨rfl, rfl⟩ | exact Or.inr ⟨rfl, rfl⟩) _).mono ?_; rintro px vx ⟨rfl, bb⟩; first | (have Gb : Hid (Bk vx (w.heap.size) [.string u, .int .i64 o, .bool false, .string s, .int .i64 p, .bool false, .string t, .int .i64 q, .bool false, .bool c] ∧ Bk vx (w.heap.size + 1) [.string ⟨#[]⟩, .int .i64 0, .bool false] ∧ Bk vx (w2.heap.size) [.string d1, .int .i64 d2, .bool false] ∧ Bk vx (w2.heap.size + 1) [.string e1, .int .i64 e2, .bool false] ∧ Below w.heap.size w vx) := ⟨(Ga.out.1).step bb, (Ga.out.2.1).step bb, (Ga.out.2.2.1).step bb, (Ga.out.2.2.2.1).step bb, (Ga.out.2.2.2.2).trans (bb.mono (Ga.out.2.2.2.2).size)⟩; clear bb; have db_0 := (Gb.out.1).lt; have db_0_0 := (Gb.out.1).cell 0 _ rfl; have eb_0_0 := (Gb.out.1).fz 0; have db_0_1 := (Gb.out.1).cell 1 _ rfl; have eb_0_1 := (Gb.out.1).fz 1; have db_0_2 := (Gb.out.1).cell 2 _ rfl; have eb_0_2 := (Gb.out.1).fz 2; have db_0_3 := (Gb.out.1).cell 3 _ rfl; have eb_0_3 := (Gb.out.1).fz 3; have db_0_4 := (Gb.out.1).cell 4 _ rfl; have eb_0_4 := (Gb.out.1).fz 4; have db_0_5 := (Gb.out.1).cell 5 _ rfl; have eb_0_5 := (Gb.out.1).fz 5; have db_0_6 := (Gb.out.1).cell 6 _ rfl; have eb_0_6 := (Gb.out.1).fz 6; have db_0_7 := (Gb.out.1).cell 7 _ rfl; have eb_0_7 := (Gb.out.1).fz 7; have db_0_8 := (Gb.out.1).cell 8 _ rfl; have eb_0_8 := (Gb.out.1).fz 8; have db_0_9 := (Gb.out.1).cell 9 _ rfl; have eb_0_9 := (Gb.out.1).fz 9; have db_1 := (Gb.out.2.1).lt; have db_1_0 := (Gb.out.2.1).cell 0 _ rfl; have eb_1_0 := (Gb.out.2.1).fz 0; have db_1_1 := (Gb.out.2.1).cell 1 _ rfl; have eb_1_1 := (Gb.out.2.1).fz 1; have db_1_2 := (Gb.out.2.1).cell 2 _ rfl; have eb_1_2 := (Gb.out.2.1).fz 2; have db_2 := (Gb.out.2.2.1).lt; have db_2_0 := (Gb.out.2.2.1).cell 0 _ rfl; have eb_2_0 := (Gb.out.2.2.1).fz 0; have db_2_1 := (Gb.out.2.2.1).cell 1 _ rfl; have eb_2_1 := (Gb.out.2.2.1).fz 1; have db_2_2 := (Gb.out.2.2.1).cell 2 _ rfl; have eb_2_2 := (Gb.out.2.2.1).fz 2; have db_3 := (Gb.out.2.2.2.1).lt; have db_3_0 := (Gb.out.2.2.2.1).cell 0 _ rfl; have eb_3_0 := (Gb.out.2.2.2.1).fz 0; have db_3_1 := (Gb.out.2.2.2.1).cell 1 _ rfl; have eb_3_1 := (Gb.out.2.2.2.1).fz 1; have db_3_2 := (Gb.out.2.2.2.1).cell 2 _ rfl; have eb_3_2 := (Gb.out.2.2.2.1).fz 2) | (have Ga : Hid (Bk vx (w.heap.size) [.string u, .int .i64 o, .bool false, .string s, .int .i64 p, .bool false, .string t, .int .i64 q, .bool false, .bool c] ∧ Bk vx (w.heap.size + 1) [.string ⟨#[]⟩, .int .i64 0, .bool false] ∧ Bk vx (w2.heap.size) [.string d1, .int .i64 d2, .bool false] ∧ Bk vx (w2.heap.size + 1) [.string e1, .int .i64 e2, .bool false] ∧ Below w.heap.size w vx) := ⟨((F2.out.1).step (Below.refl _ _).drew).step bb, ((F2.out.2.1).step (Below.refl _ _).drew).step bb, ((F2.out.2.2.1).step (Below.refl _ _).drew).step bb, ((F2.out.2.2.2.1).step (Below.refl _ _).drew).step bb, ((F2.out.2.2.2.2).drew).trans (bb.mono (F2.out.2.2.2.2).size)⟩; clear bb; have da_0 := (Ga.out.1).lt; have da_0_0 := (Ga.out.1).cell 0 _ rfl; have ea_0_0 := (Ga.out.1).fz 0; have da_0_1 := (Ga.out.1).cell 1 _ rfl; have ea_0_1 := (Ga.out.1).fz 1; have da_0_2 := (Ga.out.1).cell 2 _ rfl; have ea_0_2 := (Ga.out.1).fz 2; have da_0_3 := (Ga.out.1).cell 3 _ rfl; have ea_0_3 := (Ga.out.1).fz 3; have da_0_4 := (Ga.out.1).cell 4 _ rfl; have ea_0_4 := (Ga.out.1).fz 4; have da_0_5 := (Ga.out.1).cell 5 _ rfl; have ea_0_5 := (Ga.out.1).fz 5; have da_0_6 := (Ga.out.1).cell 6 _ rfl; have ea_0_6 := (Ga.out.1).fz 6; have da_0_7 := (Ga.out.1).cell 7 _ rfl; have ea_0_7 := (Ga.out.1).fz 7; have da_0_8 := (Ga.out.1).cell 8 _ rfl; have ea_0_8 := (Ga.out.1).fz 8; have da_0_9 := (Ga.out.1).cell 9 _ rfl; have ea_0_9 := (Ga.out.1).fz 9; have da_1 := (Ga.out.2.1).lt; have da_1_0 := (Ga.out.2.1).cell 0 _ rfl; have ea_1_0 := (Ga.out.2.1).fz 0; have da_1_1 := (Ga.out.2.1).cell 1 _ rfl; have ea_1_1 := (Ga.out.2.1).fz 1; have da_1_2 := (Ga.out.2.1).cell 2 _ rfl; have ea_1_2 := (Ga.out.2.1).fz 2; have da_2 := (Ga.out.2.2.1).lt; have da_2_0 := (Ga.out.2.2.1).cell 0 _ rfl; have ea_2_0 := (Ga.out.2.2.1).fz 0; have da_2_1 := (Ga.out.2.2.1).cell 1 _ rfl; have ea_2_1 := (Ga.out.2.2.1).fz 1; have da_2_2 := (Ga.out.2.2.1).cell 2 _ rfl; have ea_2_2 := (Ga.out.2.2.1).fz 2; have da_3 := (Ga.out.2.2.2.1).lt; have da_3_0 := (Ga.out.2.2.2.1).cell 0 _ rfl; have ea_3_0 := (Ga.out.2.2.2.1).fz 0; have da_3_1 := (Ga.out.2.2.2.1).cell 1 _ rfl; have ea_3_1 := (Ga.out.2.2.2.1).fz 1; have da_3_2 := (Ga.out.2.2.2.1).cell 2 _ rfl; have ea_3_2 := (Ga.out.2.2.2.1).fz 2)))
 all_goals
  go_wp2
  refine bodyPost_ret (v := .tuple #[.agg #[.string e1, .int .i64 e2, .bool false], .bool true]) (by simp [results, Tryz.results31, go_sem, World.cell?_setCell_same, World.cell?_setCell_other, *]) rfl ⟨rfl, ?_⟩
  repeat (first | refine Below.setCell ?_ (by first | exact Nat.le_refl _ | (dsimp only; omega)) _ | refine Below.alloc ?_ (by first | exact Nat.le_refl _ | omega | (simp; omega)) _ | refine Below.drew ?_)
  exact Gb.out.2.2.2.2
theorem rwi_ff {u s t d1 e1 : ByteArray} {o p q d2 e2 n : Int} {c : Bool} (h0 : 0 < d1.size) (HR : ∀ W, Calls Tryz.prog 34 #[.agg #[.string u, .int .i64 o, .bool false], .int .i64 n] W fun e w' => e = .returned (.tuple #[.agg #[.string d1, .int .i64 d2, .bool false], .agg #[.string e1, .int .i64 e2, .bool false]]) ∧ Below W.heap.size W w') (H1 : ∀ W, Calls Tryz.prog 56 #[.agg #[.string u, .int .i64 o, .bool false, .string s, .int .i64 p, .bool false, .string t, .int .i64 q, .bool false, .bool c], .agg #[.string d1, .int .i64 d2, .bool false]] W fun e w' => e = .returned (.bool false) ∧ Below W.heap.size W w') (H2 : ∀ W, Calls Tryz.prog 56 #[.agg #[.string u, .int .i64 o, .bool false, .string s, .int .i64 p, .bool false, .string t, .int .i64 q, .bool false, .bool c], .agg #[.string e1, .int .i64 e2, .bool false]] W fun e w' => e = .returned (.bool false) ∧ Below W.heap.size W w') (w : World) :
 Calls Tryz.prog 31 #[.agg #[.string u, .int .i64 o, .bool false, .string s, .int .i64 p, .bool false, .string t, .int .i64 q, .bool false, .bool c], .int .i64 n] w fun x w' => x = .returned (.tuple #[.agg #[.string ⟨#[]⟩, .int .i64 0, .bool false], .bool false]) ∧ Below w.heap.size w w' := by
 have he : d1.toList.isEmpty = false := empty_false h0
 have HX : ∀ (v : Value) (r : Bool), ((v = .agg #[.string d1, .int .i64 d2, .bool false] ∧ r = false) ∨ (v = .agg #[.string e1, .int .i64 e2, .bool false] ∧ r = false)) → ∀ W, Calls Tryz.prog 56 #[.agg #[.string u, .int .i64 o, .bool false, .string s, .int .i64 p, .bool false, .string t, .int .i64 q, .bool false, .bool c], v] W fun e w' => e = .returned (.bool r) ∧ Below W.heap.size W w' := by
  rintro v r (⟨rfl, rfl⟩ | ⟨rfl, rfl⟩) W
  · exact H1 W
  · exact H2 W
 clear H1 H2
 have F0 : Hid (Bk ((w.alloc (.cells #[.string u, .int .i64 o, .bool false, .string s, .int .i64 p, .bool false, .string t, .int .i64 q, .bool false, .bool c] 65)).alloc (.cells #[.string ⟨#[]⟩, .int .i64 0, .bool false] 24)) (w.heap.size) [.string u, .int .i64 o, .bool false, .string s, .int .i64 p, .bool false, .string t, .int .i64 q, .bool false, .bool c] ∧ Bk ((w.alloc (.cells #[.string u, .int .i64 o, .bool false, .string s, .int .i64 p, .bool false, .string t, .int .i64 q, .bool false, .bool c] 65)).alloc (.cells #[.string ⟨#[]⟩, .int .i64 0, .bool false] 24)) (w.heap.size + 1) [.string ⟨#[]⟩, .int .i64 0, .bool false] ∧ Below w.heap.size w ((w.alloc (.cells #[.string u, .int .i64 o, .bool false, .string s, .int .i64 p, .bool false, .string t, .int .i64 q, .bool false, .bool c] 65)).alloc (.cells #[.string ⟨#[]⟩, .int .i64 0, .bool false] 24))) := ⟨(Bk.newL w [.string u, .int .i64 o, .bool false, .string s, .int .i64 p, .bool false, .string t, .int .i64 q, .bool false, .bool c] 65).step ((Below.refl _ _).alloc (Nat.le_refl _) _), ((by have q := Bk.new3 (w.alloc (.cells #[.string u, .int .i64 o, .bool false, .string s, .int .i64 p, .bool false, .string t, .int .i64 q, .bool false, .bool c] 65)) (.string ⟨#[]⟩) (.int .i64 0) (.bool false) 24; simpa using q) : Bk ((w.alloc (.cells #[.string u, .int .i64 o, .bool false, .string s, .int .i64 p, .bool false, .string t, .int .i64 q, .bool false, .bool c] 65)).alloc (.cells #[.string ⟨#[]⟩, .int .i64 0, .bool false] 24)) (w.heap.size + 1) [.string ⟨#[]⟩, .int .i64 0, .bool false]), (((Below.refl w.heap.size w)).alloc (Nat.le_refl _) _).alloc ((((Below.refl w.heap.size w)).alloc (Nat.le_refl _) _).size) _⟩
 go_enter Tryz.func31, Tryz.ntmps31
 go_upto_region 1 with fail
 generalize ((w.alloc (.cells #[.string u, .int .i64 o, .bool false, .string s, .int .i64 p, .bool false, .string t, .int .i64 q, .bool false, .bool c] 65)).alloc (.cells #[.string ⟨#[]⟩, .int .i64 0, .bool false] 24)) = w1 at *
 have l1_0 := F0.out.1.lt
 have a1_0_0 := F0.out.1.cell 0 _ rfl
 have f1_0_0 := F0.out.1.fz 0
 have a1_0_1 := F0.out.1.cell 1 _ rfl
 have f1_0_1 := F0.out.1.fz 1
 have a1_0_2 := F0.out.1.cell 2 _ rfl
 have f1_0_2 := F0.out.1.fz 2
 have a1_0_3 := F0.out.1.cell 3 _ rfl
 have f1_0_3 := F0.out.1.fz 3
 have a1_0_4 := F0.out.1.cell 4 _ rfl
 have f1_0_4 := F0.out.1.fz 4
 have a1_0_5 := F0.out.1.cell 5 _ rfl
 have f1_0_5 := F0.out.1.fz 5
 have a1_0_6 := F0.out.1.cell 6 _ rfl
 have f1_0_6 := F0.out.1.fz 6
 have a1_0_7 := F0.out.1.cell 7 _ rfl
 have f1_0_7 := F0.out.1.fz 7
 have a1_0_8 := F0.out.1.cell 8 _ rfl
 have f1_0_8 := F0.out.1.fz 8
 have a1_0_9 := F0.out.1.cell 9 _ rfl
 have f1_0_9 := F0.out.1.fz 9
 have l1_1 := F0.out.2.1.lt
 have a1_1_0 := F0.out.2.1.cell 0 _ rfl
 have f1_1_0 := F0.out.2.1.fz 0
 have a1_1_1 := F0.out.2.1.cell 1 _ rfl
 have f1_1_1 := F0.out.2.1.fz 1
 have a1_1_2 := F0.out.2.1.cell 2 _ rfl
 have f1_1_2 := F0.out.2.1.fz 2
 have ne1_0_1 : ¬ w.heap.size = w.heap.size + 1 := by omega
 have ne1_1_0 : ¬ w.heap.size + 1 = w.heap.size := by omega
 go_wp2_with fail
 all_goals first | (exfalso; omega) | skip
 refine (HR _).mono ?_
 rintro o2 w2 ⟨rfl, bb⟩
 have F1 : Hid (Bk w2 (w.heap.size) [.string u, .int .i64 o, .bool false, .string s, .int .i64 p, .bool false, .string t, .int .i64 q, .bool false, .bool c] ∧ Bk w2 (w.heap.size + 1) [.string ⟨#[]⟩, .int .i64 0, .bool false] ∧ Below w.heap.size w w2) := ⟨(F0.out.1).step bb, (F0.out.2.1).step bb, (F0.out.2.2).trans (bb.mono (F0.out.2.2).size)⟩
 clear F0
 clear bb
 clear l1_0 a1_0_0 f1_0_0 a1_0_1 f1_0_1 a1_0_2 f1_0_2 a1_0_3 f1_0_3 a1_0_4 f1_0_4 a1_0_5 f1_0_5 a1_0_6 f1_0_6 a1_0_7 f1_0_7 a1_0_8 f1_0_8 a1_0_9 f1_0_9 l1_1 a1_1_0 f1_1_0 a1_1_1 f1_1_1 a1_1_2 f1_1_2
 have lt0_2 := (F1.out.1).lt
 have lt1_2 := (F1.out.2.1).lt
 have le2 := (F1.out.2.2).size
 have F2 : Hid (Bk ((w2.alloc (.cells #[.string d1, .int .i64 d2, .bool false] 24)).alloc (.cells #[.string e1, .int .i64 e2, .bool false] 24)) (w.heap.size) [.string u, .int .i64 o, .bool false, .string s, .int .i64 p, .bool false, .string t, .int .i64 q, .bool false, .bool c] ∧ Bk ((w2.alloc (.cells #[.string d1, .int .i64 d2, .bool false] 24)).alloc (.cells #[.string e1, .int .i64 e2, .bool false] 24)) (w.heap.size + 1) [.string ⟨#[]⟩, .int .i64 0, .bool false] ∧ Bk ((w2.alloc (.cells #[.string d1, .int .i64 d2, .bool false] 24)).alloc (.cells #[.string e1, .int .i64 e2, .bool false] 24)) (w2.heap.size) [.string d1, .int .i64 d2, .bool false] ∧ Bk ((w2.alloc (.cells #[.string d1, .int .i64 d2, .bool false] 24)).alloc (.cells #[.string e1, .int .i64 e2, .bool false] 24)) (w2.heap.size + 1) [.string e1, .int .i64 e2, .bool false] ∧ Below w.heap.size w ((w2.alloc (.cells #[.string d1, .int .i64 d2, .bool false] 24)).alloc (.cells #[.string e1, .int .i64 e2, .bool false] 24))) := ⟨((F1.out.1).step ((Below.refl _ _).alloc (Nat.le_refl _) _)).step ((Below.refl _ _).alloc (Nat.le_refl _) _), ((F1.out.2.1).step ((Below.refl _ _).alloc (Nat.le_refl _) _)).step ((Below.refl _ _).alloc (Nat.le_refl _) _), (Bk.new3 w2 (.string d1) (.int .i64 d2) (.bool false) 24).step ((Below.refl _ _).alloc (Nat.le_refl _) _), ((by have q := Bk.new3 (w2.alloc (.cells #[.string d1, .int .i64 d2, .bool false] 24)) (.string e1) (.int .i64 e2) (.bool false) 24; simpa using q) : Bk ((w2.alloc (.cells #[.string d1, .int .i64 d2, .bool false] 24)).alloc (.cells #[.string e1, .int .i64 e2, .bool false] 24)) (w2.heap.size + 1) [.string e1, .int .i64 e2, .bool false]), ((F1.out.2.2).alloc ((F1.out.2.2).size) _).alloc (((F1.out.2.2).alloc ((F1.out.2.2).size) _).size) _⟩
 clear F1
 go_upto_region 2 with fail
 generalize ((w2.alloc (.cells #[.string d1, .int .i64 d2, .bool false] 24)).alloc (.cells #[.string e1, .int .i64 e2, .bool false] 24)) = w3 at *
 have l2_0 := F2.out.1.lt
 have a2_0_0 := F2.out.1.cell 0 _ rfl
 have f2_0_0 := F2.out.1.fz 0
 have a2_0_1 := F2.out.1.cell 1 _ rfl
 have f2_0_1 := F2.out.1.fz 1
 have a2_0_2 := F2.out.1.cell 2 _ rfl
 have f2_0_2 := F2.out.1.fz 2
 have a2_0_3 := F2.out.1.cell 3 _ rfl
 have f2_0_3 := F2.out.1.fz 3
 have a2_0_4 := F2.out.1.cell 4 _ rfl
 have f2_0_4 := F2.out.1.fz 4
 have a2_0_5 := F2.out.1.cell 5 _ rfl
 have f2_0_5 := F2.out.1.fz 5
 have a2_0_6 := F2.out.1.cell 6 _ rfl
 have f2_0_6 := F2.out.1.fz 6
 have a2_0_7 := F2.out.1.cell 7 _ rfl
 have f2_0_7 := F2.out.1.fz 7
 have a2_0_8 := F2.out.1.cell 8 _ rfl
 have f2_0_8 := F2.out.1.fz 8
 have a2_0_9 := F2.out.1.cell 9 _ rfl
 have f2_0_9 := F2.out.1.fz 9
 have l2_1 := F2.out.2.1.lt
 have a2_1_0 := F2.out.2.1.cell 0 _ rfl
 have f2_1_0 := F2.out.2.1.fz 0
 have a2_1_1 := F2.out.2.1.cell 1 _ rfl
 have f2_1_1 := F2.out.2.1.fz 1
 have a2_1_2 := F2.out.2.1.cell 2 _ rfl
 have f2_1_2 := F2.out.2.1.fz 2
 have l2_2 := F2.out.2.2.1.lt
 have a2_2_0 := F2.out.2.2.1.cell 0 _ rfl
 have f2_2_0 := F2.out.2.2.1.fz 0
 have a2_2_1 := F2.out.2.2.1.cell 1 _ rfl
 have f2_2_1 := F2.out.2.2.1.fz 1
 have a2_2_2 := F2.out.2.2.1.cell 2 _ rfl
 have f2_2_2 := F2.out.2.2.1.fz 2
 have l2_3 := F2.out.2.2.2.1.lt
 have a2_3_0 := F2.out.2.2.2.1.cell 0 _ rfl
 have f2_3_0 := F2.out.2.2.2.1.fz 0
 have a2_3_1 := F2.out.2.2.2.1.cell 1 _ rfl
 have f2_3_1 := F2.out.2.2.2.1.fz 1
 have a2_3_2 := F2.out.2.2.2.1.cell 2 _ rfl
 have f2_3_2 := F2.out.2.2.2.1.fz 2
 have ne2_0_1 : ¬ w.heap.size = w.heap.size + 1 := by omega
 have ne2_0_2 : ¬ w.heap.size = w2.heap.size := by omega
 have ne2_0_3 : ¬ w.heap.size = w2.heap.size + 1 := by omega
 have ne2_1_0 : ¬ w.heap.size + 1 = w.heap.size := by omega
 have ne2_1_2 : ¬ w.heap.size + 1 = w2.heap.size := by omega
 have ne2_1_3 : ¬ w.heap.size + 1 = w2.heap.size + 1 := by omega
 have ne2_2_0 : ¬ w2.heap.size = w.heap.size := by omega
 have ne2_2_1 : ¬ w2.heap.size = w.heap.size + 1 := by omega
 have ne2_2_3 : ¬ w2.heap.size = w2.heap.size + 1 := by omega
 have ne2_3_0 : ¬ w2.heap.size + 1 = w.heap.size := by omega
 have ne2_3_1 : ¬ w2.heap.size + 1 = w.heap.size + 1 := by omega
 have ne2_3_2 : ¬ w2.heap.size + 1 = w2.heap.size := by omega
 go_region_held3 (fun w' => w'.cell? ⟨w.heap.size, 0, none⟩ = some (.string u) ∧ w'.cell? ⟨w.heap.size, 1, none⟩ = some (.int .i64 o) ∧ w'.cell? ⟨w.heap.size, 2, none⟩ = some (.bool false) ∧ w'.cell? ⟨w.heap.size, 3, none⟩ = some (.string s) ∧ w'.cell? ⟨w.heap.size, 4, none⟩ = some (.int .i64 p) ∧ w'.cell? ⟨w.heap.size, 5, none⟩ = some (.bool false) ∧ w'.cell? ⟨w.heap.size, 6, none⟩ = some (.string t) ∧ w'.cell? ⟨w.heap.size, 7, none⟩ = some (.int .i64 q) ∧ w'.cell? ⟨w.heap.size, 8, none⟩ = some (.bool false) ∧ w'.cell? ⟨w.heap.size, 9, none⟩ = some (.bool c) ∧ w'.cell? ⟨w2.heap.size, 0, none⟩ = some (.string d1) ∧ w'.cell? ⟨w2.heap.size, 1, none⟩ = some (.int .i64 d2) ∧ w'.cell? ⟨w2.heap.size, 2, none⟩ = some (.bool false) ∧ w'.cell? ⟨w2.heap.size + 1, 0, none⟩ = some (.string e1) ∧ w'.cell? ⟨w2.heap.size + 1, 1, none⟩ = some (.int .i64 e2) ∧ w'.cell? ⟨w2.heap.size + 1, 2, none⟩ = some (.bool false)) (simp [*, go_sem]) (first | (go_at_call 56; refine (HX _ _ (by first | exact Or.inl ⟨rfl, rfl⟩ | exact Or.inr ⟨rfl, rfl⟩) _).mono ?_; rintro px vx ⟨rfl, bb⟩; first | (have Gb : Hid (Bk vx (w.heap.size) [.string u, .int .i64 o, .bool false, .string s, .int .i64 p, .bool false, .string t, .int .i64 q, .bool false, .bool c] ∧ Bk vx (w.heap.size + 1) [.string ⟨#[]⟩, .int .i64 0, .bool false] ∧ Bk vx (w2.heap.size) [.string d1, .int .i64 d2, .bool false] ∧ Bk vx (w2.heap.size + 1) [.string e1, .int .i64 e2, .bool false] ∧ Below w.heap.size w vx) := ⟨(Ga.out.1).step bb, (Ga.out.2.1).step bb, (Ga.out.2.2.1).step bb, (Ga.out.2.2.2.1).step bb, (Ga.out.2.2.2.2).trans (bb.mono (Ga.out.2.2.2.2).size)⟩; clear bb; have db_0 := (Gb.out.1).lt; have db_0_0 := (Gb.out.1).cell 0 _ rfl; have eb_0_0 := (Gb.out.1).fz 0; have db_0_1 := (Gb.out.1).cell 1 _ rfl; have eb_0_1 := (Gb.out.1).fz 1; have db_0_2 := (Gb.out.1).cell 2 _ rfl; have eb_0_2 := (Gb.out.1).fz 2; have db_0_3 := (Gb.out.1).cell 3 _ rfl; have eb_0_3 := (Gb.out.1).fz 3; have db_0_4 := (Gb.out.1).cell 4 _ rfl; have eb_0_4 := (Gb.out.1).fz 4; have db_0_5 := (Gb.out.1).cell 5 _ rfl; have eb_0_5 := (Gb.out.1).fz 5; have db_0_6 := (Gb.out.1).cell 6 _ rfl; have eb_0_6 := (Gb.out.1).fz 6; have db_0_7 := (Gb.out.1).cell 7 _ rfl; have eb_0_7 := (Gb.out.1).fz 7; have db_0_8 := (Gb.out.1).cell 8 _ rfl; have eb_0_8 := (Gb.out.1).fz 8; have db_0_9 := (Gb.out.1).cell 9 _ rfl; have eb_0_9 := (Gb.out.1).fz 9; have db_1 := (Gb.out.2.1).lt; have db_1_0 := (Gb.out.2.1).cell 0 _ rfl; have eb_1_0 := (Gb.out.2.1).fz 0; have db_1_1 := (Gb.out.2.1).cell 1 _ rfl; have eb_1_1 := (Gb.out.2.1).fz 1; have db_1_2 := (Gb.out.2.1).cell 2 _ rfl; have eb_1_2 := (Gb.out.2.1).fz 2; have db_2 := (Gb.out.2.2.1).lt; have db_2_0 := (Gb.out.2.2.1).cell 0 _ rfl; have eb_2_0 := (Gb.out.2.2.1).fz 0; have db_2_1 := (Gb.out.2.2.1).cell 1 _ rfl; have eb_2_1 := (Gb.out.2.2.1).fz 1; have db_2_2 := (Gb.out.2.2.1).cell 2 _ rfl; have eb_2_2 := (Gb.out.2.2.1).fz 2; have db_3 := (Gb.out.2.2.2.1).lt; have db_3_0 := (Gb.out.2.2.2.1).cell 0 _ rfl; have eb_3_0 := (Gb.out.2.2.2.1).fz 0; have db_3_1 := (Gb.out.2.2.2.1).cell 1 _ rfl; have eb_3_1 := (Gb.out.2.2.2.1).fz 1; have db_3_2 := (Gb.out.2.2.2.1).cell 2 _ rfl; have eb_3_2 := (Gb.out.2.2.2.1).fz 2) | (have Ga : Hid (Bk vx (w.heap.size) [.string u, .int .i64 o, .bool false, .string s, .int .i64 p, .bool false, .string t, .int .i64 q, .bool false, .bool c] ∧ Bk vx (w.heap.size + 1) [.string ⟨#[]⟩, .int .i64 0, .bool false] ∧ Bk vx (w2.heap.size) [.string d1, .int .i64 d2, .bool false] ∧ Bk vx (w2.heap.size + 1) [.string e1, .int .i64 e2, .bool false] ∧ Below w.heap.size w vx) := ⟨((F2.out.1).step (Below.refl _ _).drew).step bb, ((F2.out.2.1).step (Below.refl _ _).drew).step bb, ((F2.out.2.2.1).step (Below.refl _ _).drew).step bb, ((F2.out.2.2.2.1).step (Below.refl _ _).drew).step bb, ((F2.out.2.2.2.2).drew).trans (bb.mono (F2.out.2.2.2.2).size)⟩; clear bb; have da_0 := (Ga.out.1).lt; have da_0_0 := (Ga.out.1).cell 0 _ rfl; have ea_0_0 := (Ga.out.1).fz 0; have da_0_1 := (Ga.out.1).cell 1 _ rfl; have ea_0_1 := (Ga.out.1).fz 1; have da_0_2 := (Ga.out.1).cell 2 _ rfl; have ea_0_2 := (Ga.out.1).fz 2; have da_0_3 := (Ga.out.1).cell 3 _ rfl; have ea_0_3 := (Ga.out.1).fz 3; have da_0_4 := (Ga.out.1).cell 4 _ rfl; have ea_0_4 := (Ga.out.1).fz 4; have da_0_5 := (Ga.out.1).cell 5 _ rfl; have ea_0_5 := (Ga.out.1).fz 5; have da_0_6 := (Ga.out.1).cell 6 _ rfl; have ea_0_6 := (Ga.out.1).fz 6; have da_0_7 := (Ga.out.1).cell 7 _ rfl; have ea_0_7 := (Ga.out.1).fz 7; have da_0_8 := (Ga.out.1).cell 8 _ rfl; have ea_0_8 := (Ga.out.1).fz 8; have da_0_9 := (Ga.out.1).cell 9 _ rfl; have ea_0_9 := (Ga.out.1).fz 9; have da_1 := (Ga.out.2.1).lt; have da_1_0 := (Ga.out.2.1).cell 0 _ rfl; have ea_1_0 := (Ga.out.2.1).fz 0; have da_1_1 := (Ga.out.2.1).cell 1 _ rfl; have ea_1_1 := (Ga.out.2.1).fz 1; have da_1_2 := (Ga.out.2.1).cell 2 _ rfl; have ea_1_2 := (Ga.out.2.1).fz 2; have da_2 := (Ga.out.2.2.1).lt; have da_2_0 := (Ga.out.2.2.1).cell 0 _ rfl; have ea_2_0 := (Ga.out.2.2.1).fz 0; have da_2_1 := (Ga.out.2.2.1).cell 1 _ rfl; have ea_2_1 := (Ga.out.2.2.1).fz 1; have da_2_2 := (Ga.out.2.2.1).cell 2 _ rfl; have ea_2_2 := (Ga.out.2.2.1).fz 2; have da_3 := (Ga.out.2.2.2.1).lt; have da_3_0 := (Ga.out.2.2.2.1).cell 0 _ rfl; have ea_3_0 := (Ga.out.2.2.2.1).fz 0; have da_3_1 := (Ga.out.2.2.2.1).cell 1 _ rfl; have ea_3_1 := (Ga.out.2.2.2.1).fz 1; have da_3_2 := (Ga.out.2.2.2.1).cell 2 _ rfl; have ea_3_2 := (Ga.out.2.2.2.1).fz 2)))
 all_goals
  go_wp2
  refine bodyPost_ret (v := .tuple #[.agg #[.string ⟨#[]⟩, .int .i64 0, .bool false], .bool false]) (by simp [results, Tryz.results31, go_sem, World.cell?_setCell_same, World.cell?_setCell_other, *]) rfl ⟨rfl, ?_⟩
  repeat (first | refine Below.setCell ?_ (by first | exact Nat.le_refl _ | (dsimp only; omega)) _ | refine Below.alloc ?_ (by first | exact Nat.le_refl _ | omega | (simp; omega)) _ | refine Below.drew ?_)
  exact Gb.out.2.2.2.2
theorem dshl_nat2 {w : World} {va : Value} {X : Nat} (ha : Big.D.NatV w va X) (hX : Fits 1000 X) (s : Nat) (hs : s ≤ 32000) :
 Calls Tryz.prog 70 #[va, .int .i64 (s : Int)] w fun e w' => ∃ v, e = .returned v ∧ Big.D.NatV w' v (X * 2 ^ s) ∧ Below w.heap.size w w' :=
 (dshl_new ha hX s hs).mono fun _ _ ⟨v, a, b, c⟩ => ⟨v, a, b.nat, c⟩
theorem dadd_nat2 {w : World} {va vb : Value} {X Y : Nat} (ha : Big.D.NatV w va X) (hb : Big.D.NatV w vb Y) (hX : Fits 1000 X) (hY : Fits 1000 Y) :
 Calls Tryz.prog 81 #[va, vb] w fun e w' => ∃ v, e = .returned v ∧ Big.D.NatV w' v (X + Y) ∧ Below w.heap.size w w' :=
 (dadd_new ha hb hX hY).mono fun _ _ ⟨v, a, b, c⟩ => ⟨v, a, b.nat, c⟩
theorem rbd_zero {b z : Int} {m : Nat} {E : Int} {t : ByteArray} {q : Int} (hm : m < 18446744073709551616) (he1 : -1074 ≤ E) (he2 : E ≤ 971) (HC : ∀ W, Calls Tryz.prog 36 #[.int .u64 b, .int .i64 z] W fun e w' => e = .returned (.int .i64 0) ∧ Below W.heap.size W w') (HP : ∀ W, Calls Tryz.prog 37 #[.int .u64 b, .int .i64 z] W fun e w' => e = .returned (.tuple #[.int .u64 (m : Int), .int .i64 E]) ∧ Below W.heap.size W w') (HD : ∀ W v, Big.D.NatV W v (2 * m + 1) → Calls Tryz.prog 38 #[v, .int .i64 (E - 1)] W fun e w' => e = .returned (.agg #[.string t, .int .i64 q, .bool false]) ∧ Below W.heap.size W w') (HM : ∀ W, Calls Tryz.prog 21 #[.int .u64 b, .int .i64 z] W fun e w' => e = .returned (.int .u64 0) ∧ Below W.heap.size W w') (w : World) :
 Calls Tryz.prog 47 #[.int .u64 b, .int .i64 z] w fun x w' => x = .returned (.tuple #[.agg #[.string ⟨#[]⟩, .int .i64 0, .bool false], .agg #[.string t, .int .i64 q, .bool false], .bool true, .int .i64 0]) ∧ Below w.heap.size w w' := by
 have F0 : Hid (Bk ((w.alloc (.cells #[.string ⟨#[]⟩, .int .i64 0, .bool false] 24)).alloc (.cells #[.string ⟨#[]⟩, .int .i64 0, .bool false] 24)) (w.heap.size) [.string ⟨#[]⟩, .int .i64 0, .bool false] ∧ Bk ((w.alloc (.cells #[.string ⟨#[]⟩, .int .i64 0, .bool false] 24)).alloc (.cells #[.string ⟨#[]⟩, .int .i64 0, .bool false] 24)) (w.heap.size + 1) [.string ⟨#[]⟩, .int .i64 0, .bool false] ∧ Below w.heap.size w ((w.alloc (.cells #[.string ⟨#[]⟩, .int .i64 0, .bool false] 24)).alloc (.cells #[.string ⟨#[]⟩, .int .i64 0, .bool false] 24))) := ⟨(Bk.new3 w (.string ⟨#[]⟩) (.int .i64 0) (.bool false) 24).step ((Below.refl _ _).alloc (Nat.le_refl _) _), ((by have q := Bk.new3 (w.alloc (.cells #[.string ⟨#[]⟩, .int .i64 0, .bool false] 24)) (.string ⟨#[]⟩) (.int .i64 0) (.bool false) 24; simpa using q) : Bk ((w.alloc (.cells #[.string ⟨#[]⟩, .int .i64 0, .bool false] 24)).alloc (.cells #[.string ⟨#[]⟩, .int .i64 0, .bool false] 24)) (w.heap.size + 1) [.string ⟨#[]⟩, .int .i64 0, .bool false]), (((Below.refl w.heap.size w)).alloc (Nat.le_refl _) _).alloc ((((Below.refl w.heap.size w)).alloc (Nat.le_refl _) _).size) _⟩
 go_enter Tryz.func47, Tryz.ntmps47
 go_upto_region 1 with fail
 generalize ((w.alloc (.cells #[.string ⟨#[]⟩, .int .i64 0, .bool false] 24)).alloc (.cells #[.string ⟨#[]⟩, .int .i64 0, .bool false] 24)) = w1 at *
 have SM := fun W => dsmall_word m hm W
 have fm : Fits 2 m := Fits.word (n := 1) (by unfold B; omega)
 have HFM : Hid (Fits 2 m) := fm
 clear fm
 go_wp2_with fail
 all_goals first | (exfalso; omega) | skip
 refine (HC _).mono ?_
 rintro o2 w2 ⟨rfl, bb⟩
 have F1 : Hid (Bk w2 (w.heap.size) [.string ⟨#[]⟩, .int .i64 0, .bool false] ∧ Bk w2 (w.heap.size + 1) [.string ⟨#[]⟩, .int .i64 0, .bool false] ∧ Below w.heap.size w w2) := ⟨(F0.out.1).step bb, (F0.out.2.1).step bb, (F0.out.2.2).trans (bb.mono (F0.out.2.2).size)⟩
 clear F0
 clear bb
 go_wp2_with fail
 all_goals first | (exfalso; omega) | skip
 refine (HP _).mono ?_
 rintro o3 w3 ⟨rfl, bb⟩
 have F2 : Hid (Bk w3 (w.heap.size) [.string ⟨#[]⟩, .int .i64 0, .bool false] ∧ Bk w3 (w.heap.size + 1) [.string ⟨#[]⟩, .int .i64 0, .bool false] ∧ Below w.heap.size w w3) := ⟨(F1.out.1).step bb, (F1.out.2.1).step bb, (F1.out.2.2).trans (bb.mono (F1.out.2.2).size)⟩
 clear F1
 clear bb
 go_wp2_with fail
 all_goals first | (exfalso; omega) | skip
 refine (SM _).mono ?_
 rintro o4 w4 ⟨v1, rfl, nn, bb⟩
 have F3 : Hid (Bk w4 (w.heap.size) [.string ⟨#[]⟩, .int .i64 0, .bool false] ∧ Bk w4 (w.heap.size + 1) [.string ⟨#[]⟩, .int .i64 0, .bool false] ∧ Big.D.NatV w4 v1 (m) ∧ Below w.heap.size w w4) := ⟨(F2.out.1).step bb, (F2.out.2.1).step bb, nn, (F2.out.2.2).trans (bb.mono (F2.out.2.2).size)⟩
 clear F2
 clear bb nn
 have SH := dshl_nat2 (F3.out.2.2.1) (HFM.out.up (by omega)) 1 (by omega)
 simp only [Int.cast_ofNat_Int] at SH
 go_wp2_with fail
 all_goals first | (exfalso; omega) | skip
 refine (SH).mono ?_
 rintro o5 w5 ⟨v2, rfl, nn, bb⟩
 have F4 : Hid (Bk w5 (w.heap.size) [.string ⟨#[]⟩, .int .i64 0, .bool false] ∧ Bk w5 (w.heap.size + 1) [.string ⟨#[]⟩, .int .i64 0, .bool false] ∧ Big.D.NatV w5 v1 (m) ∧ Big.D.NatV w5 v2 (m * 2 ^ 1) ∧ Below w.heap.size w w5) := ⟨(F3.out.1).step bb, (F3.out.2.1).step bb, (F3.out.2.2.1).below bb, nn, (F3.out.2.2.2).trans (bb.mono (F3.out.2.2.2).size)⟩
 clear F3
 clear bb nn
 clear SH
 go_wp2_with fail
 have F5 : Hid (Bk (w5.alloc (.cells #[.int .u64 1] 22)) (w.heap.size) [.string ⟨#[]⟩, .int .i64 0, .bool false] ∧ Bk (w5.alloc (.cells #[.int .u64 1] 22)) (w.heap.size + 1) [.string ⟨#[]⟩, .int .i64 0, .bool false] ∧ Big.D.NatV (w5.alloc (.cells #[.int .u64 1] 22)) v1 (m) ∧ Big.D.NatV (w5.alloc (.cells #[.int .u64 1] 22)) v2 (m * 2 ^ 1) ∧ Big.D.NatV (w5.alloc (.cells #[.int .u64 1] 22)) (.slice (some ⟨w5.heap.size, 0, none⟩) 1 1) (1) ∧ Below w.heap.size w (w5.alloc (.cells #[.int .u64 1] 22))) := ⟨(F4.out.1).step ((Below.refl _ _).alloc (Nat.le_refl _) _), (F4.out.2.1).step ((Below.refl _ _).alloc (Nat.le_refl _) _), (F4.out.2.2.1).below ((Below.refl _ _).alloc (Nat.le_refl _) _), (F4.out.2.2.2.1).below ((Below.refl _ _).alloc (Nat.le_refl _) _), dnat_one w5, (F4.out.2.2.2.2).alloc ((F4.out.2.2.2.2).size) _⟩
 clear F4
 go_wp2_with fail
 generalize (w5.alloc (.cells #[.int .u64 1] 22)) = w6 at *
 have SA := dadd_nat2 (F5.out.2.2.2.1) (F5.out.2.2.2.2.1) ((HFM.out.mul (two_fits (s := 1) (k := 1) (by omega))).up (by omega)) ((two_fits (s := 0) (k := 1) (by omega)).up (by omega))
 rw [show m * 2 ^ 1 + 1 = 2 * m + 1 by omega] at SA
 go_wp2_with fail
 all_goals first | (exfalso; omega) | skip
 refine (SA).mono ?_
 rintro o7 w7 ⟨v3, rfl, nn, bb⟩
 have F6 : Hid (Bk w7 (w.heap.size) [.string ⟨#[]⟩, .int .i64 0, .bool false] ∧ Bk w7 (w.heap.size + 1) [.string ⟨#[]⟩, .int .i64 0, .bool false] ∧ Big.D.NatV w7 v1 (m) ∧ Big.D.NatV w7 v2 (m * 2 ^ 1) ∧ Big.D.NatV w7 (.slice (some ⟨w5.heap.size, 0, none⟩) 1 1) (1) ∧ Big.D.NatV w7 v3 (2 * m + 1) ∧ Below w.heap.size w w7) := ⟨(F5.out.1).step bb, (F5.out.2.1).step bb, (F5.out.2.2.1).below bb, (F5.out.2.2.2.1).below bb, (F5.out.2.2.2.2.1).below bb, nn, (F5.out.2.2.2.2.2).trans (bb.mono (F5.out.2.2.2.2.2).size)⟩
 clear F5
 clear bb nn
 clear SA
 go_wp2_with fail
 all_goals first | (exfalso; omega) | skip
 refine (HD _ _ (F6.out.2.2.2.2.2.1)).mono ?_
 rintro o8 w8 ⟨rfl, bb⟩
 have F7 : Hid (Bk w8 (w.heap.size) [.string ⟨#[]⟩, .int .i64 0, .bool false] ∧ Bk w8 (w.heap.size + 1) [.string ⟨#[]⟩, .int .i64 0, .bool false] ∧ Big.D.NatV w8 v1 (m) ∧ Big.D.NatV w8 v2 (m * 2 ^ 1) ∧ Big.D.NatV w8 (.slice (some ⟨w5.heap.size, 0, none⟩) 1 1) (1) ∧ Big.D.NatV w8 v3 (2 * m + 1) ∧ Below w.heap.size w w8) := ⟨(F6.out.1).step bb, (F6.out.2.1).step bb, (F6.out.2.2.1).below bb, (F6.out.2.2.2.1).below bb, (F6.out.2.2.2.2.1).below bb, (F6.out.2.2.2.2.2.1).below bb, (F6.out.2.2.2.2.2.2).trans (bb.mono (F6.out.2.2.2.2.2.2).size)⟩
 clear F6
 clear bb
 have F8 : Hid (Bk w8 (w.heap.size) [.string ⟨#[]⟩, .int .i64 0, .bool false] ∧ Bk w8 (w.heap.size + 1) [.string ⟨#[]⟩, .int .i64 0, .bool false] ∧ Below w.heap.size w w8) := ⟨F7.out.1, F7.out.2.1, F7.out.2.2.2.2.2.2⟩
 clear F7
 have lt0_2 := (F8.out.1).lt
 have lt1_2 := (F8.out.2.1).lt
 have le2 := (F8.out.2.2).size
 have F9 : Hid (Bk ((w8.alloc (.cells #[.string t, .int .i64 q, .bool false] 24)).alloc (.cells #[.string ⟨#[]⟩, .int .i64 0, .bool false] 24)) (w.heap.size) [.string ⟨#[]⟩, .int .i64 0, .bool false] ∧ Bk ((w8.alloc (.cells #[.string t, .int .i64 q, .bool false] 24)).alloc (.cells #[.string ⟨#[]⟩, .int .i64 0, .bool false] 24)) (w.heap.size + 1) [.string ⟨#[]⟩, .int .i64 0, .bool false] ∧ Bk ((w8.alloc (.cells #[.string t, .int .i64 q, .bool false] 24)).alloc (.cells #[.string ⟨#[]⟩, .int .i64 0, .bool false] 24)) (w8.heap.size) [.string t, .int .i64 q, .bool false] ∧ Bk ((w8.alloc (.cells #[.string t, .int .i64 q, .bool false] 24)).alloc (.cells #[.string ⟨#[]⟩, .int .i64 0, .bool false] 24)) (w8.heap.size + 1) [.string ⟨#[]⟩, .int .i64 0, .bool false] ∧ Below w.heap.size w ((w8.alloc (.cells #[.string t, .int .i64 q, .bool false] 24)).alloc (.cells #[.string ⟨#[]⟩, .int .i64 0, .bool false] 24))) := ⟨((F8.out.1).step ((Below.refl _ _).alloc (Nat.le_refl _) _)).step ((Below.refl _ _).alloc (Nat.le_refl _) _), ((F8.out.2.1).step ((Below.refl _ _).alloc (Nat.le_refl _) _)).step ((Below.refl _ _).alloc (Nat.le_refl _) _), (Bk.new3 w8 (.string t) (.int .i64 q) (.bool false) 24).step ((Below.refl _ _).alloc (Nat.le_refl _) _), ((by have q := Bk.new3 (w8.alloc (.cells #[.string t, .int .i64 q, .bool false] 24)) (.string ⟨#[]⟩) (.int .i64 0) (.bool false) 24; simpa using q) : Bk ((w8.alloc (.cells #[.string t, .int .i64 q, .bool false] 24)).alloc (.cells #[.string ⟨#[]⟩, .int .i64 0, .bool false] 24)) (w8.heap.size + 1) [.string ⟨#[]⟩, .int .i64 0, .bool false]), ((F8.out.2.2).alloc ((F8.out.2.2).size) _).alloc (((F8.out.2.2).alloc ((F8.out.2.2).size) _).size) _⟩
 clear F8
 go_upto_region 7 with fail
 generalize ((w8.alloc (.cells #[.string t, .int .i64 q, .bool false] 24)).alloc (.cells #[.string ⟨#[]⟩, .int .i64 0, .bool false] 24)) = w9 at *
 have l1_0 := F9.out.1.lt
 have a1_0_0 := F9.out.1.cell 0 _ rfl
 have f1_0_0 := F9.out.1.fz 0
 have a1_0_1 := F9.out.1.cell 1 _ rfl
 have f1_0_1 := F9.out.1.fz 1
 have a1_0_2 := F9.out.1.cell 2 _ rfl
 have f1_0_2 := F9.out.1.fz 2
 have l1_1 := F9.out.2.1.lt
 have a1_1_0 := F9.out.2.1.cell 0 _ rfl
 have f1_1_0 := F9.out.2.1.fz 0
 have a1_1_1 := F9.out.2.1.cell 1 _ rfl
 have f1_1_1 := F9.out.2.1.fz 1
 have a1_1_2 := F9.out.2.1.cell 2 _ rfl
 have f1_1_2 := F9.out.2.1.fz 2
 have l1_2 := F9.out.2.2.1.lt
 have a1_2_0 := F9.out.2.2.1.cell 0 _ rfl
 have f1_2_0 := F9.out.2.2.1.fz 0
 have a1_2_1 := F9.out.2.2.1.cell 1 _ rfl
 have f1_2_1 := F9.out.2.2.1.fz 1
 have a1_2_2 := F9.out.2.2.1.cell 2 _ rfl
 have f1_2_2 := F9.out.2.2.1.fz 2
 have l1_3 := F9.out.2.2.2.1.lt
 have a1_3_0 := F9.out.2.2.2.1.cell 0 _ rfl
 have f1_3_0 := F9.out.2.2.2.1.fz 0
 have a1_3_1 := F9.out.2.2.2.1.cell 1 _ rfl
 have f1_3_1 := F9.out.2.2.2.1.fz 1
 have a1_3_2 := F9.out.2.2.2.1.cell 2 _ rfl
 have f1_3_2 := F9.out.2.2.2.1.fz 2
 have ne1_0_1 : ¬ w.heap.size = w.heap.size + 1 := by omega
 have ne1_0_2 : ¬ w.heap.size = w8.heap.size := by omega
 have ne1_0_3 : ¬ w.heap.size = w8.heap.size + 1 := by omega
 have ne1_1_0 : ¬ w.heap.size + 1 = w.heap.size := by omega
 have ne1_1_2 : ¬ w.heap.size + 1 = w8.heap.size := by omega
 have ne1_1_3 : ¬ w.heap.size + 1 = w8.heap.size + 1 := by omega
 have ne1_2_0 : ¬ w8.heap.size = w.heap.size := by omega
 have ne1_2_1 : ¬ w8.heap.size = w.heap.size + 1 := by omega
 have ne1_2_3 : ¬ w8.heap.size = w8.heap.size + 1 := by omega
 have ne1_3_0 : ¬ w8.heap.size + 1 = w.heap.size := by omega
 have ne1_3_1 : ¬ w8.heap.size + 1 = w.heap.size + 1 := by omega
 have ne1_3_2 : ¬ w8.heap.size + 1 = w8.heap.size := by omega
 go_wp2_with fail
 all_goals first | (exfalso; omega) | skip
 refine (HM _).mono ?_
 rintro o10 w10 ⟨rfl, bb⟩
 have F10 : Hid (Bk w10 (w.heap.size) [.string ⟨#[]⟩, .int .i64 0, .bool false] ∧ Bk w10 (w.heap.size + 1) [.string ⟨#[]⟩, .int .i64 0, .bool false] ∧ Bk w10 (w8.heap.size) [.string t, .int .i64 q, .bool false] ∧ Bk w10 (w8.heap.size + 1) [.string ⟨#[]⟩, .int .i64 0, .bool false] ∧ Below w.heap.size w w10) := ⟨(F9.out.1).step bb, (F9.out.2.1).step bb, (F9.out.2.2.1).step bb, (F9.out.2.2.2.1).step bb, (F9.out.2.2.2.2).trans (bb.mono (F9.out.2.2.2.2).size)⟩
 clear F9
 clear bb
 clear l1_0 a1_0_0 f1_0_0 a1_0_1 f1_0_1 a1_0_2 f1_0_2 l1_1 a1_1_0 f1_1_0 a1_1_1 f1_1_1 a1_1_2 f1_1_2 l1_2 a1_2_0 f1_2_0 a1_2_1 f1_2_1 a1_2_2 f1_2_2 l1_3 a1_3_0 f1_3_0 a1_3_1 f1_3_1 a1_3_2 f1_3_2
 have l2_0 := F10.out.1.lt
 have a2_0_0 := F10.out.1.cell 0 _ rfl
 have f2_0_0 := F10.out.1.fz 0
 have a2_0_1 := F10.out.1.cell 1 _ rfl
 have f2_0_1 := F10.out.1.fz 1
 have a2_0_2 := F10.out.1.cell 2 _ rfl
 have f2_0_2 := F10.out.1.fz 2
 have l2_1 := F10.out.2.1.lt
 have a2_1_0 := F10.out.2.1.cell 0 _ rfl
 have f2_1_0 := F10.out.2.1.fz 0
 have a2_1_1 := F10.out.2.1.cell 1 _ rfl
 have f2_1_1 := F10.out.2.1.fz 1
 have a2_1_2 := F10.out.2.1.cell 2 _ rfl
 have f2_1_2 := F10.out.2.1.fz 2
 have l2_2 := F10.out.2.2.1.lt
 have a2_2_0 := F10.out.2.2.1.cell 0 _ rfl
 have f2_2_0 := F10.out.2.2.1.fz 0
 have a2_2_1 := F10.out.2.2.1.cell 1 _ rfl
 have f2_2_1 := F10.out.2.2.1.fz 1
 have a2_2_2 := F10.out.2.2.1.cell 2 _ rfl
 have f2_2_2 := F10.out.2.2.1.fz 2
 have l2_3 := F10.out.2.2.2.1.lt
 have a2_3_0 := F10.out.2.2.2.1.cell 0 _ rfl
 have f2_3_0 := F10.out.2.2.2.1.fz 0
 have a2_3_1 := F10.out.2.2.2.1.cell 1 _ rfl
 have f2_3_1 := F10.out.2.2.2.1.fz 1
 have a2_3_2 := F10.out.2.2.2.1.cell 2 _ rfl
 have f2_3_2 := F10.out.2.2.2.1.fz 2
 have ne2_0_1 : ¬ w.heap.size = w.heap.size + 1 := by omega
 have ne2_0_2 : ¬ w.heap.size = w8.heap.size := by omega
 have ne2_0_3 : ¬ w.heap.size = w8.heap.size + 1 := by omega
 have ne2_1_0 : ¬ w.heap.size + 1 = w.heap.size := by omega
 have ne2_1_2 : ¬ w.heap.size + 1 = w8.heap.size := by omega
 have ne2_1_3 : ¬ w.heap.size + 1 = w8.heap.size + 1 := by omega
 have ne2_2_0 : ¬ w8.heap.size = w.heap.size := by omega
 have ne2_2_1 : ¬ w8.heap.size = w.heap.size + 1 := by omega
 have ne2_2_3 : ¬ w8.heap.size = w8.heap.size + 1 := by omega
 have ne2_3_0 : ¬ w8.heap.size + 1 = w.heap.size := by omega
 have ne2_3_1 : ¬ w8.heap.size + 1 = w.heap.size + 1 := by omega
 have ne2_3_2 : ¬ w8.heap.size + 1 = w8.heap.size := by omega
 go_upto_region 11 with fail
 go_region_held3 (fun w' => w'.cell? ⟨w8.heap.size, 0, none⟩ = some (.string t) ∧ w'.cell? ⟨w8.heap.size, 1, none⟩ = some (.int .i64 q) ∧ w'.cell? ⟨w8.heap.size, 2, none⟩ = some (.bool false) ∧ w'.cell? ⟨w8.heap.size + 1, 0, none⟩ = some (.string ⟨#[]⟩) ∧ w'.cell? ⟨w8.heap.size + 1, 1, none⟩ = some (.int .i64 0) ∧ w'.cell? ⟨w8.heap.size + 1, 2, none⟩ = some (.bool false)) (simp [*, go_sem]) (fail)
 go_wp2
 refine bodyPost_ret (v := .tuple #[.agg #[.string ⟨#[]⟩, .int .i64 0, .bool false], .agg #[.string t, .int .i64 q, .bool false], .bool true, .int .i64 0]) (by simp [results, Tryz.results47, go_sem, World.cell?_setCell_same, World.cell?_setCell_other, *]) rfl ⟨rfl, ?_⟩
 refine Below.drew ?_
 repeat (first | refine Below.setCell ?_ (by first | exact Nat.le_refl _ | (dsimp only; omega)) _ | refine Below.alloc ?_ (by first | exact Nat.le_refl _ | omega | (simp; omega)) _ | refine Below.drew ?_)
 exact F10.out.2.2.2.2
theorem rbd_ok {b z : Int} {m m2 M D : Nat} {E E2 : Int} {s t : ByteArray} {p q : Int} (hm : m < 18446744073709551616) (hm2 : m2 < 18446744073709551616) (he1 : -1074 ≤ E) (he2 : E ≤ 971) (hf1 : -1074 ≤ E2) (hf2 : E2 ≤ 971) (M0 : 0 < M) (M1 : M < 18446744073709551616) (hD : D ≤ 1) (eD : E - E2 = (D : Int)) (HC : ∀ W, Calls Tryz.prog 36 #[.int .u64 b, .int .i64 z] W fun e w' => e = .returned (.int .i64 0) ∧ Below W.heap.size W w') (HP : ∀ W, Calls Tryz.prog 37 #[.int .u64 b, .int .i64 z] W fun e w' => e = .returned (.tuple #[.int .u64 (m : Int), .int .i64 E]) ∧ Below W.heap.size W w') (HD : ∀ W v, Big.D.NatV W v (2 * m + 1) → Calls Tryz.prog 38 #[v, .int .i64 (E - 1)] W fun e w' => e = .returned (.agg #[.string t, .int .i64 q, .bool false]) ∧ Below W.heap.size W w') (HM : ∀ W, Calls Tryz.prog 21 #[.int .u64 b, .int .i64 z] W fun e w' => e = .returned (.int .u64 (M : Int)) ∧ Below W.heap.size W w') (HP2 : ∀ W, Calls Tryz.prog 37 #[.int .u64 ((M : Int) - 1), .int .i64 z] W fun e w' => e = .returned (.tuple #[.int .u64 (m2 : Int), .int .i64 E2]) ∧ Below W.heap.size W w') (HD2 : ∀ W v, Big.D.NatV W v (m * 2 ^ D + m2) → Calls Tryz.prog 38 #[v, .int .i64 (E2 - 1)] W fun e w' => e = .returned (.agg #[.string s, .int .i64 p, .bool false]) ∧ Below W.heap.size W w') (w : World) :
 Calls Tryz.prog 47 #[.int .u64 b, .int .i64 z] w fun x w' => x = .returned (.tuple #[.agg #[.string s, .int .i64 p, .bool false], .agg #[.string t, .int .i64 q, .bool false], .bool (decide (M % 2 = 0)), .int .i64 0]) ∧ Below w.heap.size w w' := by
 have eb : ((M : Int).tmod 2 == 0) = decide (M % 2 = 0) := by
  rw [Int.tmod_eq_emod_of_nonneg (by omega)]
  by_cases h : M % 2 = 0
  · rw [decide_eq_true h]; exact beq_iff_eq.mpr (by omega)
  · rw [decide_eq_false h]; exact beq_eq_false_iff_ne.mpr (by omega)
 generalize decide (M % 2 = 0) = cB at *
 have F0 : Hid (Bk ((w.alloc (.cells #[.string ⟨#[]⟩, .int .i64 0, .bool false] 24)).alloc (.cells #[.string ⟨#[]⟩, .int .i64 0, .bool false] 24)) (w.heap.size) [.string ⟨#[]⟩, .int .i64 0, .bool false] ∧ Bk ((w.alloc (.cells #[.string ⟨#[]⟩, .int .i64 0, .bool false] 24)).alloc (.cells #[.string ⟨#[]⟩, .int .i64 0, .bool false] 24)) (w.heap.size + 1) [.string ⟨#[]⟩, .int .i64 0, .bool false] ∧ Below w.heap.size w ((w.alloc (.cells #[.string ⟨#[]⟩, .int .i64 0, .bool false] 24)).alloc (.cells #[.string ⟨#[]⟩, .int .i64 0, .bool false] 24))) := ⟨(Bk.new3 w (.string ⟨#[]⟩) (.int .i64 0) (.bool false) 24).step ((Below.refl _ _).alloc (Nat.le_refl _) _), ((by have q := Bk.new3 (w.alloc (.cells #[.string ⟨#[]⟩, .int .i64 0, .bool false] 24)) (.string ⟨#[]⟩) (.int .i64 0) (.bool false) 24; simpa using q) : Bk ((w.alloc (.cells #[.string ⟨#[]⟩, .int .i64 0, .bool false] 24)).alloc (.cells #[.string ⟨#[]⟩, .int .i64 0, .bool false] 24)) (w.heap.size + 1) [.string ⟨#[]⟩, .int .i64 0, .bool false]), (((Below.refl w.heap.size w)).alloc (Nat.le_refl _) _).alloc ((((Below.refl w.heap.size w)).alloc (Nat.le_refl _) _).size) _⟩
 go_enter Tryz.func47, Tryz.ntmps47
 go_upto_region 1 with fail
 generalize ((w.alloc (.cells #[.string ⟨#[]⟩, .int .i64 0, .bool false] 24)).alloc (.cells #[.string ⟨#[]⟩, .int .i64 0, .bool false] 24)) = w1 at *
 have SM := fun W => dsmall_word m hm W
 have fm : Fits 2 m := Fits.word (n := 1) (by unfold B; omega)
 have HFM : Hid (Fits 2 m) := fm
 clear fm
 go_wp2_with fail
 all_goals first | (exfalso; omega) | skip
 refine (HC _).mono ?_
 rintro o2 w2 ⟨rfl, bb⟩
 have F1 : Hid (Bk w2 (w.heap.size) [.string ⟨#[]⟩, .int .i64 0, .bool false] ∧ Bk w2 (w.heap.size + 1) [.string ⟨#[]⟩, .int .i64 0, .bool false] ∧ Below w.heap.size w w2) := ⟨(F0.out.1).step bb, (F0.out.2.1).step bb, (F0.out.2.2).trans (bb.mono (F0.out.2.2).size)⟩
 clear F0
 clear bb
 go_wp2_with fail
 all_goals first | (exfalso; omega) | skip
 refine (HP _).mono ?_
 rintro o3 w3 ⟨rfl, bb⟩
 have F2 : Hid (Bk w3 (w.heap.size) [.string ⟨#[]⟩, .int .i64 0, .bool false] ∧ Bk w3 (w.heap.size + 1) [.string ⟨#[]⟩, .int .i64 0, .bool false] ∧ Below w.heap.size w w3) := ⟨(F1.out.1).step bb, (F1.out.2.1).step bb, (F1.out.2.2).trans (bb.mono (F1.out.2.2).size)⟩
 clear F1
 clear bb
 go_wp2_with fail
 all_goals first | (exfalso; omega) | skip
 refine (SM _).mono ?_
 rintro o4 w4 ⟨v1, rfl, nn, bb⟩
 have F3 : Hid (Bk w4 (w.heap.size) [.string ⟨#[]⟩, .int .i64 0, .bool false] ∧ Bk w4 (w.heap.size + 1) [.string ⟨#[]⟩, .int .i64 0, .bool false] ∧ Big.D.NatV w4 v1 (m) ∧ Below w.heap.size w w4) := ⟨(F2.out.1).step bb, (F2.out.2.1).step bb, nn, (F2.out.2.2).trans (bb.mono (F2.out.2.2).size)⟩
 clear F2
 clear bb nn
 have SH := dshl_nat2 (F3.out.2.2.1) (HFM.out.up (by omega)) 1 (by omega)
 simp only [Int.cast_ofNat_Int] at SH
 go_wp2_with fail
 all_goals first | (exfalso; omega) | skip
 refine (SH).mono ?_
 rintro o5 w5 ⟨v2, rfl, nn, bb⟩
 have F4 : Hid (Bk w5 (w.heap.size) [.string ⟨#[]⟩, .int .i64 0, .bool false] ∧ Bk w5 (w.heap.size + 1) [.string ⟨#[]⟩, .int .i64 0, .bool false] ∧ Big.D.NatV w5 v1 (m) ∧ Big.D.NatV w5 v2 (m * 2 ^ 1) ∧ Below w.heap.size w w5) := ⟨(F3.out.1).step bb, (F3.out.2.1).step bb, (F3.out.2.2.1).below bb, nn, (F3.out.2.2.2).trans (bb.mono (F3.out.2.2.2).size)⟩
 clear F3
 clear bb nn
 clear SH
 go_wp2_with fail
 have F5 : Hid (Bk (w5.alloc (.cells #[.int .u64 1] 22)) (w.heap.size) [.string ⟨#[]⟩, .int .i64 0, .bool false] ∧ Bk (w5.alloc (.cells #[.int .u64 1] 22)) (w.heap.size + 1) [.string ⟨#[]⟩, .int .i64 0, .bool false] ∧ Big.D.NatV (w5.alloc (.cells #[.int .u64 1] 22)) v1 (m) ∧ Big.D.NatV (w5.alloc (.cells #[.int .u64 1] 22)) v2 (m * 2 ^ 1) ∧ Big.D.NatV (w5.alloc (.cells #[.int .u64 1] 22)) (.slice (some ⟨w5.heap.size, 0, none⟩) 1 1) (1) ∧ Below w.heap.size w (w5.alloc (.cells #[.int .u64 1] 22))) := ⟨(F4.out.1).step ((Below.refl _ _).alloc (Nat.le_refl _) _), (F4.out.2.1).step ((Below.refl _ _).alloc (Nat.le_refl _) _), (F4.out.2.2.1).below ((Below.refl _ _).alloc (Nat.le_refl _) _), (F4.out.2.2.2.1).below ((Below.refl _ _).alloc (Nat.le_refl _) _), dnat_one w5, (F4.out.2.2.2.2).alloc ((F4.out.2.2.2.2).size) _⟩
 clear F4
 go_wp2_with fail
 generalize (w5.alloc (.cells #[.int .u64 1] 22)) = w6 at *
 have SA := dadd_nat2 (F5.out.2.2.2.1) (F5.out.2.2.2.2.1) ((HFM.out.mul (two_fits (s := 1) (k := 1) (by omega))).up (by omega)) ((two_fits (s := 0) (k := 1) (by omega)).up (by omega))
 rw [show m * 2 ^ 1 + 1 = 2 * m + 1 by omega] at SA
 go_wp2_with fail
 all_goals first | (exfalso; omega) | skip
 refine (SA).mono ?_
 rintro o7 w7 ⟨v3, rfl, nn, bb⟩
 have F6 : Hid (Bk w7 (w.heap.size) [.string ⟨#[]⟩, .int .i64 0, .bool false] ∧ Bk w7 (w.heap.size + 1) [.string ⟨#[]⟩, .int .i64 0, .bool false] ∧ Big.D.NatV w7 v1 (m) ∧ Big.D.NatV w7 v2 (m * 2 ^ 1) ∧ Big.D.NatV w7 (.slice (some ⟨w5.heap.size, 0, none⟩) 1 1) (1) ∧ Big.D.NatV w7 v3 (2 * m + 1) ∧ Below w.heap.size w w7) := ⟨(F5.out.1).step bb, (F5.out.2.1).step bb, (F5.out.2.2.1).below bb, (F5.out.2.2.2.1).below bb, (F5.out.2.2.2.2.1).below bb, nn, (F5.out.2.2.2.2.2).trans (bb.mono (F5.out.2.2.2.2.2).size)⟩
 clear F5
 clear bb nn
 clear SA
 go_wp2_with fail
 all_goals first | (exfalso; omega) | skip
 refine (HD _ _ (F6.out.2.2.2.2.2.1)).mono ?_
 rintro o8 w8 ⟨rfl, bb⟩
 have F7 : Hid (Bk w8 (w.heap.size) [.string ⟨#[]⟩, .int .i64 0, .bool false] ∧ Bk w8 (w.heap.size + 1) [.string ⟨#[]⟩, .int .i64 0, .bool false] ∧ Big.D.NatV w8 v1 (m) ∧ Big.D.NatV w8 v2 (m * 2 ^ 1) ∧ Big.D.NatV w8 (.slice (some ⟨w5.heap.size, 0, none⟩) 1 1) (1) ∧ Big.D.NatV w8 v3 (2 * m + 1) ∧ Below w.heap.size w w8) := ⟨(F6.out.1).step bb, (F6.out.2.1).step bb, (F6.out.2.2.1).below bb, (F6.out.2.2.2.1).below bb, (F6.out.2.2.2.2.1).below bb, (F6.out.2.2.2.2.2.1).below bb, (F6.out.2.2.2.2.2.2).trans (bb.mono (F6.out.2.2.2.2.2.2).size)⟩
 clear F6
 clear bb
 have F8 : Hid (Bk w8 (w.heap.size) [.string ⟨#[]⟩, .int .i64 0, .bool false] ∧ Bk w8 (w.heap.size + 1) [.string ⟨#[]⟩, .int .i64 0, .bool false] ∧ Below w.heap.size w w8) := ⟨F7.out.1, F7.out.2.1, F7.out.2.2.2.2.2.2⟩
 clear F7
 have lt0_2 := (F8.out.1).lt
 have lt1_2 := (F8.out.2.1).lt
 have le2 := (F8.out.2.2).size
 have F9 : Hid (Bk ((w8.alloc (.cells #[.string t, .int .i64 q, .bool false] 24)).alloc (.cells #[.string ⟨#[]⟩, .int .i64 0, .bool false] 24)) (w.heap.size) [.string ⟨#[]⟩, .int .i64 0, .bool false] ∧ Bk ((w8.alloc (.cells #[.string t, .int .i64 q, .bool false] 24)).alloc (.cells #[.string ⟨#[]⟩, .int .i64 0, .bool false] 24)) (w.heap.size + 1) [.string ⟨#[]⟩, .int .i64 0, .bool false] ∧ Bk ((w8.alloc (.cells #[.string t, .int .i64 q, .bool false] 24)).alloc (.cells #[.string ⟨#[]⟩, .int .i64 0, .bool false] 24)) (w8.heap.size) [.string t, .int .i64 q, .bool false] ∧ Bk ((w8.alloc (.cells #[.string t, .int .i64 q, .bool false] 24)).alloc (.cells #[.string ⟨#[]⟩, .int .i64 0, .bool false] 24)) (w8.heap.size + 1) [.string ⟨#[]⟩, .int .i64 0, .bool false] ∧ Below w.heap.size w ((w8.alloc (.cells #[.string t, .int .i64 q, .bool false] 24)).alloc (.cells #[.string ⟨#[]⟩, .int .i64 0, .bool false] 24))) := ⟨((F8.out.1).step ((Below.refl _ _).alloc (Nat.le_refl _) _)).step ((Below.refl _ _).alloc (Nat.le_refl _) _), ((F8.out.2.1).step ((Below.refl _ _).alloc (Nat.le_refl _) _)).step ((Below.refl _ _).alloc (Nat.le_refl _) _), (Bk.new3 w8 (.string t) (.int .i64 q) (.bool false) 24).step ((Below.refl _ _).alloc (Nat.le_refl _) _), ((by have q := Bk.new3 (w8.alloc (.cells #[.string t, .int .i64 q, .bool false] 24)) (.string ⟨#[]⟩) (.int .i64 0) (.bool false) 24; simpa using q) : Bk ((w8.alloc (.cells #[.string t, .int .i64 q, .bool false] 24)).alloc (.cells #[.string ⟨#[]⟩, .int .i64 0, .bool false] 24)) (w8.heap.size + 1) [.string ⟨#[]⟩, .int .i64 0, .bool false]), ((F8.out.2.2).alloc ((F8.out.2.2).size) _).alloc (((F8.out.2.2).alloc ((F8.out.2.2).size) _).size) _⟩
 clear F8
 go_upto_region 7 with fail
 generalize ((w8.alloc (.cells #[.string t, .int .i64 q, .bool false] 24)).alloc (.cells #[.string ⟨#[]⟩, .int .i64 0, .bool false] 24)) = w9 at *
 have l1_0 := F9.out.1.lt
 have a1_0_0 := F9.out.1.cell 0 _ rfl
 have f1_0_0 := F9.out.1.fz 0
 have a1_0_1 := F9.out.1.cell 1 _ rfl
 have f1_0_1 := F9.out.1.fz 1
 have a1_0_2 := F9.out.1.cell 2 _ rfl
 have f1_0_2 := F9.out.1.fz 2
 have l1_1 := F9.out.2.1.lt
 have a1_1_0 := F9.out.2.1.cell 0 _ rfl
 have f1_1_0 := F9.out.2.1.fz 0
 have a1_1_1 := F9.out.2.1.cell 1 _ rfl
 have f1_1_1 := F9.out.2.1.fz 1
 have a1_1_2 := F9.out.2.1.cell 2 _ rfl
 have f1_1_2 := F9.out.2.1.fz 2
 have l1_2 := F9.out.2.2.1.lt
 have a1_2_0 := F9.out.2.2.1.cell 0 _ rfl
 have f1_2_0 := F9.out.2.2.1.fz 0
 have a1_2_1 := F9.out.2.2.1.cell 1 _ rfl
 have f1_2_1 := F9.out.2.2.1.fz 1
 have a1_2_2 := F9.out.2.2.1.cell 2 _ rfl
 have f1_2_2 := F9.out.2.2.1.fz 2
 have l1_3 := F9.out.2.2.2.1.lt
 have a1_3_0 := F9.out.2.2.2.1.cell 0 _ rfl
 have f1_3_0 := F9.out.2.2.2.1.fz 0
 have a1_3_1 := F9.out.2.2.2.1.cell 1 _ rfl
 have f1_3_1 := F9.out.2.2.2.1.fz 1
 have a1_3_2 := F9.out.2.2.2.1.cell 2 _ rfl
 have f1_3_2 := F9.out.2.2.2.1.fz 2
 have ne1_0_1 : ¬ w.heap.size = w.heap.size + 1 := by omega
 have ne1_0_2 : ¬ w.heap.size = w8.heap.size := by omega
 have ne1_0_3 : ¬ w.heap.size = w8.heap.size + 1 := by omega
 have ne1_1_0 : ¬ w.heap.size + 1 = w.heap.size := by omega
 have ne1_1_2 : ¬ w.heap.size + 1 = w8.heap.size := by omega
 have ne1_1_3 : ¬ w.heap.size + 1 = w8.heap.size + 1 := by omega
 have ne1_2_0 : ¬ w8.heap.size = w.heap.size := by omega
 have ne1_2_1 : ¬ w8.heap.size = w.heap.size + 1 := by omega
 have ne1_2_3 : ¬ w8.heap.size = w8.heap.size + 1 := by omega
 have ne1_3_0 : ¬ w8.heap.size + 1 = w.heap.size := by omega
 have ne1_3_1 : ¬ w8.heap.size + 1 = w.heap.size + 1 := by omega
 have ne1_3_2 : ¬ w8.heap.size + 1 = w8.heap.size := by omega
 go_wp2_with fail
 all_goals first | (exfalso; omega) | skip
 refine (HM _).mono ?_
 rintro o10 w10 ⟨rfl, bb⟩
 have F10 : Hid (Bk w10 (w.heap.size) [.string ⟨#[]⟩, .int .i64 0, .bool false] ∧ Bk w10 (w.heap.size + 1) [.string ⟨#[]⟩, .int .i64 0, .bool false] ∧ Bk w10 (w8.heap.size) [.string t, .int .i64 q, .bool false] ∧ Bk w10 (w8.heap.size + 1) [.string ⟨#[]⟩, .int .i64 0, .bool false] ∧ Below w.heap.size w w10) := ⟨(F9.out.1).step bb, (F9.out.2.1).step bb, (F9.out.2.2.1).step bb, (F9.out.2.2.2.1).step bb, (F9.out.2.2.2.2).trans (bb.mono (F9.out.2.2.2.2).size)⟩
 clear F9
 clear bb
 clear l1_0 a1_0_0 f1_0_0 a1_0_1 f1_0_1 a1_0_2 f1_0_2 l1_1 a1_1_0 f1_1_0 a1_1_1 f1_1_1 a1_1_2 f1_1_2 l1_2 a1_2_0 f1_2_0 a1_2_1 f1_2_1 a1_2_2 f1_2_2 l1_3 a1_3_0 f1_3_0 a1_3_1 f1_3_1 a1_3_2 f1_3_2
 have l2_0 := F10.out.1.lt
 have a2_0_0 := F10.out.1.cell 0 _ rfl
 have f2_0_0 := F10.out.1.fz 0
 have a2_0_1 := F10.out.1.cell 1 _ rfl
 have f2_0_1 := F10.out.1.fz 1
 have a2_0_2 := F10.out.1.cell 2 _ rfl
 have f2_0_2 := F10.out.1.fz 2
 have l2_1 := F10.out.2.1.lt
 have a2_1_0 := F10.out.2.1.cell 0 _ rfl
 have f2_1_0 := F10.out.2.1.fz 0
 have a2_1_1 := F10.out.2.1.cell 1 _ rfl
 have f2_1_1 := F10.out.2.1.fz 1
 have a2_1_2 := F10.out.2.1.cell 2 _ rfl
 have f2_1_2 := F10.out.2.1.fz 2
 have l2_2 := F10.out.2.2.1.lt
 have a2_2_0 := F10.out.2.2.1.cell 0 _ rfl
 have f2_2_0 := F10.out.2.2.1.fz 0
 have a2_2_1 := F10.out.2.2.1.cell 1 _ rfl
 have f2_2_1 := F10.out.2.2.1.fz 1
 have a2_2_2 := F10.out.2.2.1.cell 2 _ rfl
 have f2_2_2 := F10.out.2.2.1.fz 2
 have l2_3 := F10.out.2.2.2.1.lt
 have a2_3_0 := F10.out.2.2.2.1.cell 0 _ rfl
 have f2_3_0 := F10.out.2.2.2.1.fz 0
 have a2_3_1 := F10.out.2.2.2.1.cell 1 _ rfl
 have f2_3_1 := F10.out.2.2.2.1.fz 1
 have a2_3_2 := F10.out.2.2.2.1.cell 2 _ rfl
 have f2_3_2 := F10.out.2.2.2.1.fz 2
 have ne2_0_1 : ¬ w.heap.size = w.heap.size + 1 := by omega
 have ne2_0_2 : ¬ w.heap.size = w8.heap.size := by omega
 have ne2_0_3 : ¬ w.heap.size = w8.heap.size + 1 := by omega
 have ne2_1_0 : ¬ w.heap.size + 1 = w.heap.size := by omega
 have ne2_1_2 : ¬ w.heap.size + 1 = w8.heap.size := by omega
 have ne2_1_3 : ¬ w.heap.size + 1 = w8.heap.size + 1 := by omega
 have ne2_2_0 : ¬ w8.heap.size = w.heap.size := by omega
 have ne2_2_1 : ¬ w8.heap.size = w.heap.size + 1 := by omega
 have ne2_2_3 : ¬ w8.heap.size = w8.heap.size + 1 := by omega
 have ne2_3_0 : ¬ w8.heap.size + 1 = w.heap.size := by omega
 have ne2_3_1 : ¬ w8.heap.size + 1 = w.heap.size + 1 := by omega
 have ne2_3_2 : ¬ w8.heap.size + 1 = w8.heap.size := by omega
 go_wp2_with fail
 all_goals first | (exfalso; omega) | skip
 refine (HP2 _).mono ?_
 rintro o11 w11 ⟨rfl, bb⟩
 have F11 : Hid (Bk w11 (w.heap.size) [.string ⟨#[]⟩, .int .i64 0, .bool false] ∧ Bk w11 (w.heap.size + 1) [.string ⟨#[]⟩, .int .i64 0, .bool false] ∧ Bk w11 (w8.heap.size) [.string t, .int .i64 q, .bool false] ∧ Bk w11 (w8.heap.size + 1) [.string ⟨#[]⟩, .int .i64 0, .bool false] ∧ Below w.heap.size w w11) := ⟨(F10.out.1).step bb, (F10.out.2.1).step bb, (F10.out.2.2.1).step bb, (F10.out.2.2.2.1).step bb, (F10.out.2.2.2.2).trans (bb.mono (F10.out.2.2.2.2).size)⟩
 clear F10
 clear bb
 go_wp2_with fail
 all_goals first | (exfalso; omega) | skip
 refine (SM _).mono ?_
 rintro o12 w12 ⟨v7, rfl, nn, bb⟩
 have F12 : Hid (Bk w12 (w.heap.size) [.string ⟨#[]⟩, .int .i64 0, .bool false] ∧ Bk w12 (w.heap.size + 1) [.string ⟨#[]⟩, .int .i64 0, .bool false] ∧ Bk w12 (w8.heap.size) [.string t, .int .i64 q, .bool false] ∧ Bk w12 (w8.heap.size + 1) [.string ⟨#[]⟩, .int .i64 0, .bool false] ∧ Big.D.NatV w12 v7 (m) ∧ Below w.heap.size w w12) := ⟨(F11.out.1).step bb, (F11.out.2.1).step bb, (F11.out.2.2.1).step bb, (F11.out.2.2.2.1).step bb, nn, (F11.out.2.2.2.2).trans (bb.mono (F11.out.2.2.2.2).size)⟩
 clear F11
 clear bb nn
 have SH := dshl_nat2 (F12.out.2.2.2.2.1) (HFM.out.up (by omega)) D (by omega)
 go_wp2_with fail
 all_goals first | (exfalso; omega) | skip
 refine (SH).mono ?_
 rintro o13 w13 ⟨v8, rfl, nn, bb⟩
 have F13 : Hid (Bk w13 (w.heap.size) [.string ⟨#[]⟩, .int .i64 0, .bool false] ∧ Bk w13 (w.heap.size + 1) [.string ⟨#[]⟩, .int .i64 0, .bool false] ∧ Bk w13 (w8.heap.size) [.string t, .int .i64 q, .bool false] ∧ Bk w13 (w8.heap.size + 1) [.string ⟨#[]⟩, .int .i64 0, .bool false] ∧ Big.D.NatV w13 v7 (m) ∧ Big.D.NatV w13 v8 (m * 2 ^ D) ∧ Below w.heap.size w w13) := ⟨(F12.out.1).step bb, (F12.out.2.1).step bb, (F12.out.2.2.1).step bb, (F12.out.2.2.2.1).step bb, (F12.out.2.2.2.2.1).below bb, nn, (F12.out.2.2.2.2.2).trans (bb.mono (F12.out.2.2.2.2.2).size)⟩
 clear F12
 clear bb nn
 clear SH
 have SM2 := fun W => dsmall_word m2 hm2 W
 go_wp2_with fail
 all_goals first | (exfalso; omega) | skip
 refine (SM2 _).mono ?_
 rintro o14 w14 ⟨v9, rfl, nn, bb⟩
 have F14 : Hid (Bk w14 (w.heap.size) [.string ⟨#[]⟩, .int .i64 0, .bool false] ∧ Bk w14 (w.heap.size + 1) [.string ⟨#[]⟩, .int .i64 0, .bool false] ∧ Bk w14 (w8.heap.size) [.string t, .int .i64 q, .bool false] ∧ Bk w14 (w8.heap.size + 1) [.string ⟨#[]⟩, .int .i64 0, .bool false] ∧ Big.D.NatV w14 v7 (m) ∧ Big.D.NatV w14 v8 (m * 2 ^ D) ∧ Big.D.NatV w14 v9 (m2) ∧ Below w.heap.size w w14) := ⟨(F13.out.1).step bb, (F13.out.2.1).step bb, (F13.out.2.2.1).step bb, (F13.out.2.2.2.1).step bb, (F13.out.2.2.2.2.1).below bb, (F13.out.2.2.2.2.2.1).below bb, nn, (F13.out.2.2.2.2.2.2).trans (bb.mono (F13.out.2.2.2.2.2.2).size)⟩
 clear F13
 clear bb nn
 have fm2 : Fits 2 m2 := Fits.word (n := 1) (by unfold B; omega)
 have SA := dadd_nat2 (F14.out.2.2.2.2.2.1) (F14.out.2.2.2.2.2.2.1) ((HFM.out.mul (two_fits (s := D) (k := 1) (by omega))).up (by omega)) (fm2.up (by omega))
 clear fm2
 go_wp2_with fail
 all_goals first | (exfalso; omega) | skip
 refine (SA).mono ?_
 rintro o15 w15 ⟨v10, rfl, nn, bb⟩
 have F15 : Hid (Bk w15 (w.heap.size) [.string ⟨#[]⟩, .int .i64 0, .bool false] ∧ Bk w15 (w.heap.size + 1) [.string ⟨#[]⟩, .int .i64 0, .bool false] ∧ Bk w15 (w8.heap.size) [.string t, .int .i64 q, .bool false] ∧ Bk w15 (w8.heap.size + 1) [.string ⟨#[]⟩, .int .i64 0, .bool false] ∧ Big.D.NatV w15 v7 (m) ∧ Big.D.NatV w15 v8 (m * 2 ^ D) ∧ Big.D.NatV w15 v9 (m2) ∧ Big.D.NatV w15 v10 (m * 2 ^ D + m2) ∧ Below w.heap.size w w15) := ⟨(F14.out.1).step bb, (F14.out.2.1).step bb, (F14.out.2.2.1).step bb, (F14.out.2.2.2.1).step bb, (F14.out.2.2.2.2.1).below bb, (F14.out.2.2.2.2.2.1).below bb, (F14.out.2.2.2.2.2.2.1).below bb, nn, (F14.out.2.2.2.2.2.2.2).trans (bb.mono (F14.out.2.2.2.2.2.2.2).size)⟩
 clear F14
 clear bb nn
 clear SA
 go_wp2_with fail
 all_goals first | (exfalso; omega) | skip
 refine (HD2 _ _ (F15.out.2.2.2.2.2.2.2.1)).mono ?_
 rintro o16 w16 ⟨rfl, bb⟩
 have F16 : Hid (Bk w16 (w.heap.size) [.string ⟨#[]⟩, .int .i64 0, .bool false] ∧ Bk w16 (w.heap.size + 1) [.string ⟨#[]⟩, .int .i64 0, .bool false] ∧ Bk w16 (w8.heap.size) [.string t, .int .i64 q, .bool false] ∧ Bk w16 (w8.heap.size + 1) [.string ⟨#[]⟩, .int .i64 0, .bool false] ∧ Big.D.NatV w16 v7 (m) ∧ Big.D.NatV w16 v8 (m * 2 ^ D) ∧ Big.D.NatV w16 v9 (m2) ∧ Big.D.NatV w16 v10 (m * 2 ^ D + m2) ∧ Below w.heap.size w w16) := ⟨(F15.out.1).step bb, (F15.out.2.1).step bb, (F15.out.2.2.1).step bb, (F15.out.2.2.2.1).step bb, (F15.out.2.2.2.2.1).below bb, (F15.out.2.2.2.2.2.1).below bb, (F15.out.2.2.2.2.2.2.1).below bb, (F15.out.2.2.2.2.2.2.2.1).below bb, (F15.out.2.2.2.2.2.2.2.2).trans (bb.mono (F15.out.2.2.2.2.2.2.2.2).size)⟩
 clear F15
 clear bb
 have F17 : Hid (Bk w16 (w.heap.size) [.string ⟨#[]⟩, .int .i64 0, .bool false] ∧ Bk w16 (w.heap.size + 1) [.string ⟨#[]⟩, .int .i64 0, .bool false] ∧ Bk w16 (w8.heap.size) [.string t, .int .i64 q, .bool false] ∧ Bk w16 (w8.heap.size + 1) [.string ⟨#[]⟩, .int .i64 0, .bool false] ∧ Below w.heap.size w w16) := ⟨F16.out.1, F16.out.2.1, F16.out.2.2.1, F16.out.2.2.2.1, F16.out.2.2.2.2.2.2.2.2⟩
 clear F16
 clear l2_0 a2_0_0 f2_0_0 a2_0_1 f2_0_1 a2_0_2 f2_0_2 l2_1 a2_1_0 f2_1_0 a2_1_1 f2_1_1 a2_1_2 f2_1_2 l2_2 a2_2_0 f2_2_0 a2_2_1 f2_2_1 a2_2_2 f2_2_2 l2_3 a2_3_0 f2_3_0 a2_3_1 f2_3_1 a2_3_2 f2_3_2
 have l3_0 := F17.out.1.lt
 have a3_0_0 := F17.out.1.cell 0 _ rfl
 have f3_0_0 := F17.out.1.fz 0
 have a3_0_1 := F17.out.1.cell 1 _ rfl
 have f3_0_1 := F17.out.1.fz 1
 have a3_0_2 := F17.out.1.cell 2 _ rfl
 have f3_0_2 := F17.out.1.fz 2
 have l3_1 := F17.out.2.1.lt
 have a3_1_0 := F17.out.2.1.cell 0 _ rfl
 have f3_1_0 := F17.out.2.1.fz 0
 have a3_1_1 := F17.out.2.1.cell 1 _ rfl
 have f3_1_1 := F17.out.2.1.fz 1
 have a3_1_2 := F17.out.2.1.cell 2 _ rfl
 have f3_1_2 := F17.out.2.1.fz 2
 have l3_2 := F17.out.2.2.1.lt
 have a3_2_0 := F17.out.2.2.1.cell 0 _ rfl
 have f3_2_0 := F17.out.2.2.1.fz 0
 have a3_2_1 := F17.out.2.2.1.cell 1 _ rfl
 have f3_2_1 := F17.out.2.2.1.fz 1
 have a3_2_2 := F17.out.2.2.1.cell 2 _ rfl
 have f3_2_2 := F17.out.2.2.1.fz 2
 have l3_3 := F17.out.2.2.2.1.lt
 have a3_3_0 := F17.out.2.2.2.1.cell 0 _ rfl
 have f3_3_0 := F17.out.2.2.2.1.fz 0
 have a3_3_1 := F17.out.2.2.2.1.cell 1 _ rfl
 have f3_3_1 := F17.out.2.2.2.1.fz 1
 have a3_3_2 := F17.out.2.2.2.1.cell 2 _ rfl
 have f3_3_2 := F17.out.2.2.2.1.fz 2
 have ne3_0_1 : ¬ w.heap.size = w.heap.size + 1 := by omega
 have ne3_0_2 : ¬ w.heap.size = w8.heap.size := by omega
 have ne3_0_3 : ¬ w.heap.size = w8.heap.size + 1 := by omega
 have ne3_1_0 : ¬ w.heap.size + 1 = w.heap.size := by omega
 have ne3_1_2 : ¬ w.heap.size + 1 = w8.heap.size := by omega
 have ne3_1_3 : ¬ w.heap.size + 1 = w8.heap.size + 1 := by omega
 have ne3_2_0 : ¬ w8.heap.size = w.heap.size := by omega
 have ne3_2_1 : ¬ w8.heap.size = w.heap.size + 1 := by omega
 have ne3_2_3 : ¬ w8.heap.size = w8.heap.size + 1 := by omega
 have ne3_3_0 : ¬ w8.heap.size + 1 = w.heap.size := by omega
 have ne3_3_1 : ¬ w8.heap.size + 1 = w.heap.size + 1 := by omega
 have ne3_3_2 : ¬ w8.heap.size + 1 = w8.heap.size := by omega
 go_upto_region 11 with fail
 go_region_held3 (fun w' => w'.cell? ⟨w8.heap.size, 0, none⟩ = some (.string t) ∧ w'.cell? ⟨w8.heap.size, 1, none⟩ = some (.int .i64 q) ∧ w'.cell? ⟨w8.heap.size, 2, none⟩ = some (.bool false) ∧ w'.cell? ⟨w8.heap.size + 1, 0, none⟩ = some (.string s) ∧ w'.cell? ⟨w8.heap.size + 1, 1, none⟩ = some (.int .i64 p) ∧ w'.cell? ⟨w8.heap.size + 1, 2, none⟩ = some (.bool false)) (simp [*, go_sem, World.cell?_setCell_same, World.cell?_setCell_other]) (fail)
 go_wp2
 refine bodyPost_ret (v := .tuple #[.agg #[.string s, .int .i64 p, .bool false], .agg #[.string t, .int .i64 q, .bool false], .bool cB, .int .i64 0]) (by simp [results, Tryz.results47, go_sem, World.cell?_setCell_same, World.cell?_setCell_other, *]) rfl ⟨rfl, ?_⟩
 refine Below.drew ?_
 repeat (first | refine Below.setCell ?_ (by first | exact Nat.le_refl _ | (dsimp only; omega)) _ | refine Below.alloc ?_ (by first | exact Nat.le_refl _ | omega | (simp; omega)) _ | refine Below.drew ?_)
 exact F17.out.2.2.2.2
end Go.Proofs.YtblkokjkmbpejaaGreatDoor
