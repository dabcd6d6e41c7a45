/-
  Holds: VBsK LawSoA LawSoC.
-/
import Derived.Test.YtblkokjkmbpejaaGreatDoorRows
import Derived.Laws.Externs
import Derived.WalkKit
import Derived.WalkSpells
import Derived.WalkLawsBesides
import Derived.Lib.Mul64
import Derived.Stop.Asserts
import Derived.RowKitTokens
import Derived.Lib.Strings
import Derived.Lib.BufferWrite
import Derived.Deep.OwnRows
import Derived.Deep.RegionHeld3
import Derived.BigQuiet
import Derived.Lib.ConvBytes
import Derived.Laws.CopyOwn
import Derived.Lib.TrailingZeros
import Derived.Lib.ItoaNum
import Derived.Deep.LoopGhost
import Derived.Deep.AppendLies
import Derived.Deep.DeepCutAuto
import Derived.Test.YtblkokjkmbpejaaGreatDoorShelf
import Derived.Test.YtblkokjkmbpejaaGreatDoorKd32
set_option maxRecDepth 100000
set_option maxHeartbeats 4000000
namespace Go.Proofs.YtblkokjkmbpejaaGreatDoor
open Go.RowKit
theorem num_nil (w : World) : Calls Tryz.prog 12 #[.nilIface] w fun e w' => e = .returned (.int .i64 0) ∧ w' = w := by
 go_enter Tryz.func12, Tryz.ntmps12
 go_wp2
 go_ret
 exact ⟨rfl, rfl⟩
theorem taNN (v : Value) (w : World) : (Instr.typeAssert (.iface 69 v) 26 69 true).run Tryz.prog w = .ok (.tuple #[v, .bool true]) w := by kernel_rfl
theorem num_errno (k : Int) (w : World) : Calls Tryz.prog 12 #[.iface 69 (.int .i64 k)] w fun e w' => e = .returned (.int .i64 k) ∧ w' = w := by
 have ta := fun W => taNN (.int .i64 k) W
 go_enter Tryz.func12, Tryz.ntmps12
 go_wp2
 go_ret
 exact ⟨rfl, rfl⟩
theorem numB_nil (w : World) : Calls Tryz.prog 12 #[.nilIface] w fun e w' => e = .returned (.int .i64 0) ∧ Below w.heap.size w w' := toB' (fun W => num_nil W) w
theorem numB_errno (k : Int) (w : World) : Calls Tryz.prog 12 #[.iface 69 (.int .i64 k)] w fun e w' => e = .returned (.int .i64 k) ∧ Below w.heap.size w w' := toB' (fun W => num_errno k W) w
theorem between_walk {s t : ByteArray} {p q : Int} {c1 c2 c : Bool} {d1 : ByteArray} {d2 n1 : Int} {E1 : Value} (HD : ∀ W, Calls Tryz.prog 16 #[dcV s p c1, dcV t q c2, .bool c] W fun e w' => e = .returned (.tuple #[dcV d1 d2 false, E1]) ∧ Below W.heap.size W w') (HR : ∀ W, Calls Tryz.prog 17 #[dcV s p c1, dcV t q c2, .bool c] W fun e w' => e = .returned (.tuple #[dcV d1 d2 false, .int .i64 n1]) ∧ Below W.heap.size W w') (N1 : ∀ W, Calls Tryz.prog 12 #[E1] W fun e w' => e = .returned (.int .i64 n1) ∧ Below W.heap.size W w') (w : World) :
 Calls Tryz.prog 5 #[dcV s p c1, dcV t q c2, .bool c] w fun x w' => x = .returned (.bool true) ∧ Below w.heap.size w w' := by
 unfold dcV at *
 have F0 : Hid (Bk ((w.alloc (.cells #[.string s, .int .i64 p, .bool c1] 24)).alloc (.cells #[.string t, .int .i64 q, .bool c2] 24)) (w.heap.size) [.string s, .int .i64 p, .bool c1] ∧ Bk ((w.alloc (.cells #[.string s, .int .i64 p, .bool c1] 24)).alloc (.cells #[.string t, .int .i64 q, .bool c2] 24)) (w.heap.size + 1) [.string t, .int .i64 q, .bool c2] ∧ Below w.heap.size w ((w.alloc (.cells #[.string s, .int .i64 p, .bool c1] 24)).alloc (.cells #[.string t, .int .i64 q, .bool c2] 24))) := ⟨(Bk.new3 w (.string s) (.int .i64 p) (.bool c1) 24).step ((Below.refl _ _).alloc (Nat.le_refl _) _), ((by have q := Bk.new3 (w.alloc (.cells #[.string s, .int .i64 p, .bool c1] 24)) (.string t) (.int .i64 q) (.bool c2) 24; simpa using q) : Bk ((w.alloc (.cells #[.string s, .int .i64 p, .bool c1] 24)).alloc (.cells #[.string t, .int .i64 q, .bool c2] 24)) (w.heap.size + 1) [.string t, .int .i64 q, .bool c2]), (((Below.refl w.heap.size w)).alloc (Nat.le_refl _) _).alloc ((((Below.refl w.heap.size w)).alloc (Nat.le_refl _) _).size) _⟩
 go_enter Tryz.func5, Tryz.ntmps5
 go_upto_region 1 with fail
 generalize ((w.alloc (.cells #[.string s, .int .i64 p, .bool c1] 24)).alloc (.cells #[.string t, .int .i64 q, .bool c2] 24)) = w1 at *
 have l1_0 := F0.out.1.lt
 have a1_0_0 := F0.out.1.cell 0 _ rfl
 have f1_0_0 := F0.out.1.fz 0
 have a1_0_1 := F0.out.1.cell 1 _ rfl
 have f1_0_1 := F0.out.1.fz 1
 have a1_0_2 := F0.out.1.cell 2 _ rfl
 have f1_0_2 := F0.out.1.fz 2
 have l1_1 := F0.out.2.1.lt
 have a1_1_0 := F0.out.2.1.cell 0 _ rfl
 have f1_1_0 := F0.out.2.1.fz 0
 have a1_1_1 := F0.out.2.1.cell 1 _ rfl
 have f1_1_1 := F0.out.2.1.fz 1
 have a1_1_2 := F0.out.2.1.cell 2 _ rfl
 have f1_1_2 := F0.out.2.1.fz 2
 have ne1_0_1 : ¬ w.heap.size = w.heap.size + 1 := by omega
 have ne1_1_0 : ¬ w.heap.size + 1 = w.heap.size := by omega
 go_wp2_with fail
 all_goals first | (exfalso; omega) | skip
 refine (HD _).mono ?_
 rintro o2 w2 ⟨rfl, bb⟩
 have F1 : Hid (Bk w2 (w.heap.size) [.string s, .int .i64 p, .bool c1] ∧ Bk w2 (w.heap.size + 1) [.string t, .int .i64 q, .bool c2] ∧ Below w.heap.size w w2) := ⟨(F0.out.1).step bb, (F0.out.2.1).step bb, (F0.out.2.2).trans (bb.mono (F0.out.2.2).size)⟩
 clear F0
 clear bb
 clear l1_0 a1_0_0 f1_0_0 a1_0_1 f1_0_1 a1_0_2 f1_0_2 l1_1 a1_1_0 f1_1_0 a1_1_1 f1_1_1 a1_1_2 f1_1_2
 have lt0_2 := (F1.out.1).lt
 have lt1_2 := (F1.out.2.1).lt
 have le2 := (F1.out.2.2).size
 have F2 : Hid (Bk (w2.alloc (.cells #[.string d1, .int .i64 d2, .bool false] 24)) (w.heap.size) [.string s, .int .i64 p, .bool c1] ∧ Bk (w2.alloc (.cells #[.string d1, .int .i64 d2, .bool false] 24)) (w.heap.size + 1) [.string t, .int .i64 q, .bool c2] ∧ Bk (w2.alloc (.cells #[.string d1, .int .i64 d2, .bool false] 24)) (w2.heap.size) [.string d1, .int .i64 d2, .bool false] ∧ Below w.heap.size w (w2.alloc (.cells #[.string d1, .int .i64 d2, .bool false] 24))) := ⟨(F1.out.1).step ((Below.refl _ _).alloc (Nat.le_refl _) _), (F1.out.2.1).step ((Below.refl _ _).alloc (Nat.le_refl _) _), Bk.new3 w2 (.string d1) (.int .i64 d2) (.bool false) 24, (F1.out.2.2).alloc ((F1.out.2.2).size) _⟩
 clear F1
 go_upto_region 2 with fail
 generalize (w2.alloc (.cells #[.string d1, .int .i64 d2, .bool false] 24)) = w3 at *
 have l2_0 := F2.out.1.lt
 have a2_0_0 := F2.out.1.cell 0 _ rfl
 have f2_0_0 := F2.out.1.fz 0
 have a2_0_1 := F2.out.1.cell 1 _ rfl
 have f2_0_1 := F2.out.1.fz 1
 have a2_0_2 := F2.out.1.cell 2 _ rfl
 have f2_0_2 := F2.out.1.fz 2
 have l2_1 := F2.out.2.1.lt
 have a2_1_0 := F2.out.2.1.cell 0 _ rfl
 have f2_1_0 := F2.out.2.1.fz 0
 have a2_1_1 := F2.out.2.1.cell 1 _ rfl
 have f2_1_1 := F2.out.2.1.fz 1
 have a2_1_2 := F2.out.2.1.cell 2 _ rfl
 have f2_1_2 := F2.out.2.1.fz 2
 have l2_2 := F2.out.2.2.1.lt
 have a2_2_0 := F2.out.2.2.1.cell 0 _ rfl
 have f2_2_0 := F2.out.2.2.1.fz 0
 have a2_2_1 := F2.out.2.2.1.cell 1 _ rfl
 have f2_2_1 := F2.out.2.2.1.fz 1
 have a2_2_2 := F2.out.2.2.1.cell 2 _ rfl
 have f2_2_2 := F2.out.2.2.1.fz 2
 have ne2_0_1 : ¬ w.heap.size = w.heap.size + 1 := by omega
 have ne2_0_2 : ¬ w.heap.size = w2.heap.size := by omega
 have ne2_1_0 : ¬ w.heap.size + 1 = w.heap.size := by omega
 have ne2_1_2 : ¬ w.heap.size + 1 = w2.heap.size := by omega
 have ne2_2_0 : ¬ w2.heap.size = w.heap.size := by omega
 have ne2_2_1 : ¬ w2.heap.size = w.heap.size + 1 := by omega
 go_wp2_with fail
 all_goals first | (exfalso; omega) | skip
 refine (HR _).mono ?_
 rintro o4 w4 ⟨rfl, bb⟩
 have F3 : Hid (Bk w4 (w.heap.size) [.string s, .int .i64 p, .bool c1] ∧ Bk w4 (w.heap.size + 1) [.string t, .int .i64 q, .bool c2] ∧ Bk w4 (w2.heap.size) [.string d1, .int .i64 d2, .bool false] ∧ Below w.heap.size w w4) := ⟨(F2.out.1).step bb, (F2.out.2.1).step bb, (F2.out.2.2.1).step bb, (F2.out.2.2.2).trans (bb.mono (F2.out.2.2.2).size)⟩
 clear F2
 clear bb
 clear l2_0 a2_0_0 f2_0_0 a2_0_1 f2_0_1 a2_0_2 f2_0_2 l2_1 a2_1_0 f2_1_0 a2_1_1 f2_1_1 a2_1_2 f2_1_2 l2_2 a2_2_0 f2_2_0 a2_2_1 f2_2_1 a2_2_2 f2_2_2
 have lt0_3 := (F3.out.1).lt
 have lt1_3 := (F3.out.2.1).lt
 have lt2_3 := (F3.out.2.2.1).lt
 have le3 := (F3.out.2.2.2).size
 have F4 : Hid (Bk (w4.alloc (.cells #[.string d1, .int .i64 d2, .bool false] 24)) (w.heap.size) [.string s, .int .i64 p, .bool c1] ∧ Bk (w4.alloc (.cells #[.string d1, .int .i64 d2, .bool false] 24)) (w.heap.size + 1) [.string t, .int .i64 q, .bool c2] ∧ Bk (w4.alloc (.cells #[.string d1, .int .i64 d2, .bool false] 24)) (w2.heap.size) [.string d1, .int .i64 d2, .bool false] ∧ Bk (w4.alloc (.cells #[.string d1, .int .i64 d2, .bool false] 24)) (w4.heap.size) [.string d1, .int .i64 d2, .bool false] ∧ Below w.heap.size w (w4.alloc (.cells #[.string d1, .int .i64 d2, .bool false] 24))) := ⟨(F3.out.1).step ((Below.refl _ _).alloc (Nat.le_refl _) _), (F3.out.2.1).step ((Below.refl _ _).alloc (Nat.le_refl _) _), (F3.out.2.2.1).step ((Below.refl _ _).alloc (Nat.le_refl _) _), Bk.new3 w4 (.string d1) (.int .i64 d2) (.bool false) 24, (F3.out.2.2.2).alloc ((F3.out.2.2.2).size) _⟩
 clear F3
 go_upto_region 3 with fail
 generalize (w4.alloc (.cells #[.string d1, .int .i64 d2, .bool false] 24)) = w5 at *
 have l3_0 := F4.out.1.lt
 have a3_0_0 := F4.out.1.cell 0 _ rfl
 have f3_0_0 := F4.out.1.fz 0
 have a3_0_1 := F4.out.1.cell 1 _ rfl
 have f3_0_1 := F4.out.1.fz 1
 have a3_0_2 := F4.out.1.cell 2 _ rfl
 have f3_0_2 := F4.out.1.fz 2
 have l3_1 := F4.out.2.1.lt
 have a3_1_0 := F4.out.2.1.cell 0 _ rfl
 have f3_1_0 := F4.out.2.1.fz 0
 have a3_1_1 := F4.out.2.1.cell 1 _ rfl
 have f3_1_1 := F4.out.2.1.fz 1
 have a3_1_2 := F4.out.2.1.cell 2 _ rfl
 have f3_1_2 := F4.out.2.1.fz 2
 have l3_2 := F4.out.2.2.1.lt
 have a3_2_0 := F4.out.2.2.1.cell 0 _ rfl
 have f3_2_0 := F4.out.2.2.1.fz 0
 have a3_2_1 := F4.out.2.2.1.cell 1 _ rfl
 have f3_2_1 := F4.out.2.2.1.fz 1
 have a3_2_2 := F4.out.2.2.1.cell 2 _ rfl
 have f3_2_2 := F4.out.2.2.1.fz 2
 have l3_3 := F4.out.2.2.2.1.lt
 have a3_3_0 := F4.out.2.2.2.1.cell 0 _ rfl
 have f3_3_0 := F4.out.2.2.2.1.fz 0
 have a3_3_1 := F4.out.2.2.2.1.cell 1 _ rfl
 have f3_3_1 := F4.out.2.2.2.1.fz 1
 have a3_3_2 := F4.out.2.2.2.1.cell 2 _ rfl
 have f3_3_2 := F4.out.2.2.2.1.fz 2
 have ne3_0_1 : ¬ w.heap.size = w.heap.size + 1 := by omega
 have ne3_0_2 : ¬ w.heap.size = w2.heap.size := by omega
 have ne3_0_3 : ¬ w.heap.size = w4.heap.size := by omega
 have ne3_1_0 : ¬ w.heap.size + 1 = w.heap.size := by omega
 have ne3_1_2 : ¬ w.heap.size + 1 = w2.heap.size := by omega
 have ne3_1_3 : ¬ w.heap.size + 1 = w4.heap.size := by omega
 have ne3_2_0 : ¬ w2.heap.size = w.heap.size := by omega
 have ne3_2_1 : ¬ w2.heap.size = w.heap.size + 1 := by omega
 have ne3_2_3 : ¬ w2.heap.size = w4.heap.size := by omega
 have ne3_3_0 : ¬ w4.heap.size = w.heap.size := by omega
 have ne3_3_1 : ¬ w4.heap.size = w.heap.size + 1 := by omega
 have ne3_3_2 : ¬ w4.heap.size = w2.heap.size := by omega
 go_wp2_with fail
 all_goals first | (exfalso; omega) | skip
 refine (N1 _).mono ?_
 rintro o6 w6 ⟨rfl, bb⟩
 have F5 : Hid (Bk w6 (w.heap.size) [.string s, .int .i64 p, .bool c1] ∧ Bk w6 (w.heap.size + 1) [.string t, .int .i64 q, .bool c2] ∧ Bk w6 (w2.heap.size) [.string d1, .int .i64 d2, .bool false] ∧ Bk w6 (w4.heap.size) [.string d1, .int .i64 d2, .bool false] ∧ Below w.heap.size w w6) := ⟨(F4.out.1).step bb, (F4.out.2.1).step bb, (F4.out.2.2.1).step bb, (F4.out.2.2.2.1).step bb, (F4.out.2.2.2.2).trans (bb.mono (F4.out.2.2.2.2).size)⟩
 clear F4
 clear bb
 clear l3_0 a3_0_0 f3_0_0 a3_0_1 f3_0_1 a3_0_2 f3_0_2 l3_1 a3_1_0 f3_1_0 a3_1_1 f3_1_1 a3_1_2 f3_1_2 l3_2 a3_2_0 f3_2_0 a3_2_1 f3_2_1 a3_2_2 f3_2_2 l3_3 a3_3_0 f3_3_0 a3_3_1 f3_3_1 a3_3_2 f3_3_2
 have l4_0 := F5.out.1.lt
 have a4_0_0 := F5.out.1.cell 0 _ rfl
 have f4_0_0 := F5.out.1.fz 0
 have a4_0_1 := F5.out.1.cell 1 _ rfl
 have f4_0_1 := F5.out.1.fz 1
 have a4_0_2 := F5.out.1.cell 2 _ rfl
 have f4_0_2 := F5.out.1.fz 2
 have l4_1 := F5.out.2.1.lt
 have a4_1_0 := F5.out.2.1.cell 0 _ rfl
 have f4_1_0 := F5.out.2.1.fz 0
 have a4_1_1 := F5.out.2.1.cell 1 _ rfl
 have f4_1_1 := F5.out.2.1.fz 1
 have a4_1_2 := F5.out.2.1.cell 2 _ rfl
 have f4_1_2 := F5.out.2.1.fz 2
 have l4_2 := F5.out.2.2.1.lt
 have a4_2_0 := F5.out.2.2.1.cell 0 _ rfl
 have f4_2_0 := F5.out.2.2.1.fz 0
 have a4_2_1 := F5.out.2.2.1.cell 1 _ rfl
 have f4_2_1 := F5.out.2.2.1.fz 1
 have a4_2_2 := F5.out.2.2.1.cell 2 _ rfl
 have f4_2_2 := F5.out.2.2.1.fz 2
 have l4_3 := F5.out.2.2.2.1.lt
 have a4_3_0 := F5.out.2.2.2.1.cell 0 _ rfl
 have f4_3_0 := F5.out.2.2.2.1.fz 0
 have a4_3_1 := F5.out.2.2.2.1.cell 1 _ rfl
 have f4_3_1 := F5.out.2.2.2.1.fz 1
 have a4_3_2 := F5.out.2.2.2.1.cell 2 _ rfl
 have f4_3_2 := F5.out.2.2.2.1.fz 2
 have ne4_0_1 : ¬ w.heap.size = w.heap.size + 1 := by omega
 have ne4_0_2 : ¬ w.heap.size = w2.heap.size := by omega
 have ne4_0_3 : ¬ w.heap.size = w4.heap.size := by omega
 have ne4_1_0 : ¬ w.heap.size + 1 = w.heap.size := by omega
 have ne4_1_2 : ¬ w.heap.size + 1 = w2.heap.size := by omega
 have ne4_1_3 : ¬ w.heap.size + 1 = w4.heap.size := by omega
 have ne4_2_0 : ¬ w2.heap.size = w.heap.size := by omega
 have ne4_2_1 : ¬ w2.heap.size = w.heap.size + 1 := by omega
 have ne4_2_3 : ¬ w2.heap.size = w4.heap.size := by omega
 have ne4_3_0 : ¬ w4.heap.size = w.heap.size := by omega
 have ne4_3_1 : ¬ w4.heap.size = w.heap.size + 1 := by omega
 have ne4_3_2 : ¬ w4.heap.size = w2.heap.size := by omega
 go_wp2_with fail
 all_goals first | (exfalso; omega) | skip
 refine (works20 _).mono ?_
 rintro o7 w7 ⟨rfl, bb⟩
 have F6 : Hid (Bk w7 (w.heap.size) [.string s, .int .i64 p, .bool c1] ∧ Bk w7 (w.heap.size + 1) [.string t, .int .i64 q, .bool c2] ∧ Bk w7 (w2.heap.size) [.string d1, .int .i64 d2, .bool false] ∧ Bk w7 (w4.heap.size) [.string d1, .int .i64 d2, .bool false] ∧ Below w.heap.size w w7) := ⟨(F5.out.1).step bb, (F5.out.2.1).step bb, (F5.out.2.2.1).step bb, (F5.out.2.2.2.1).step bb, (F5.out.2.2.2.2).trans (bb.mono (F5.out.2.2.2.2).size)⟩
 clear F5
 clear bb
 go_wp2
 go_ret
 exact ⟨rfl, F6.out.2.2.2.2⟩
theorem law_between (s t : ByteArray) (p q : Int) (c1 c2 c : Bool) (hs : s.size ≤ 9223372036854775807) (ht : t.size ≤ 9223372036854775807) (w : World) :
 Calls Tryz.prog 5 #[dcV s p c1, dcV t q c2, .bool c] w fun x w' => x = .returned (.bool true) ∧ Below w.heap.size w w' := by
 obtain ⟨d, E, n, H1, H2, h⟩ := between_all (s := s) (t := t) (p := p) (q := q) (c1 := c1) (c2 := c2) (c := c) hs ht
 rcases h with ⟨rfl, rfl⟩ | rfl
 · exact between_walk H1 H2 (fun W => numB_nil W) w
 · exact between_walk H1 H2 (fun W => numB_errno n W) w
end Go.Proofs.YtblkokjkmbpejaaGreatDoor
