/-
  Holds: LawSoA LawSoE.
-/
import Derived.Test.YtblkokjkmbpejaaGreatDoorRows
import Derived.Laws.Externs
import Derived.WalkKit
import Derived.WalkSpells
import Derived.WalkLawsBesides
import Derived.Lib.Mul64
import Derived.Stop.Asserts
import Derived.RowKitTokens
import Derived.Lib.Strings
import Derived.Lib.BufferWrite
import Derived.Deep.OwnRows
import Derived.Deep.RegionHeld3
import Derived.BigQuiet
import Derived.Lib.ConvBytes
import Derived.Laws.CopyOwn
import Derived.Lib.TrailingZeros
import Derived.Lib.ItoaNum
import Derived.Deep.LoopGhost
import Derived.Deep.AppendLies
import Derived.Deep.DeepCutAuto
import Derived.Test.YtblkokjkmbpejaaGreatDoorShelf
import Derived.Test.YtblkokjkmbpejaaGreatDoorKc30
import Derived.Test.YtblkokjkmbpejaaGreatDoorKc34
set_option maxRecDepth 100000
set_option maxHeartbeats 4000000
namespace Go.Proofs.YtblkokjkmbpejaaGreatDoor
open Go.RowKit
theorem sdi_bad {b : Nat} {z n : Int} (h : Bad b z n) (w : World) : Calls Tryz.prog 8 #[.int .u64 (b : Int), .int .i64 z] w fun e w' => e = .returned (.tuple #[dcV ⟨#[]⟩ 0 false, .iface 69 (.int .i64 n)]) ∧ Below w.heap.size w w' := sdi_err (fun W => ssp_bad h W) w
theorem cov_bad {b z m k n1 n2 : Int} (HC : ∀ W, Calls Tryz.prog 10 #[.int .u64 b, .int .i64 z] W fun e w' => e = .returned (.tuple #[.int .i64 k, .iface 69 (.int .i64 n1)]) ∧ Below W.heap.size W w') (HW : ∀ W, Calls Tryz.prog 14 #[.int .u64 b, .int .i64 z, .int .i64 m] W fun e w' => e = .returned (.tuple #[.agg #[.string ⟨#[]⟩, .int .i64 0, .bool false], .bool false, .iface 69 (.int .i64 n2)]) ∧ Below W.heap.size W w')  (w : World) :
 Calls Tryz.prog 7 #[.int .u64 b, .int .i64 z, .int .i64 m] w fun x w' => x = .returned (.bool true) ∧ Below w.heap.size w w' := by
 have F0 : Hid (Below w.heap.size w w) := Below.refl _ _
 go_enter Tryz.func7, Tryz.ntmps7
 go_wp2_with fail
 all_goals first | (exfalso; omega) | skip
 refine (HC _).mono ?_
 rintro o1 w1 ⟨rfl, bb⟩
 have F1 : Hid (Below w.heap.size w w1) := (F0.out).trans (bb.mono (F0.out).size)
 clear F0
 clear bb
 go_wp2_with fail
 all_goals first | (exfalso; omega) | skip
 refine (HW _).mono ?_
 rintro o2 w2 ⟨rfl, bb⟩
 have F2 : Hid (Below w.heap.size w w2) := (F1.out).trans (bb.mono (F1.out).size)
 clear F1
 clear bb
 have le0 := (F2.out).size
 have F3 : Hid (Bk (w2.alloc (.cells #[.string ⟨#[]⟩, .int .i64 0, .bool false] 24)) (w2.heap.size) [.string ⟨#[]⟩, .int .i64 0, .bool false] ∧ Below w.heap.size w (w2.alloc (.cells #[.string ⟨#[]⟩, .int .i64 0, .bool false] 24))) := ⟨Bk.new3 w2 (.string ⟨#[]⟩) (.int .i64 0) (.bool false) 24, (F2.out).alloc ((F2.out).size) _⟩
 clear F2
 go_upto_region 3 with fail
 generalize (w2.alloc (.cells #[.string ⟨#[]⟩, .int .i64 0, .bool false] 24)) = w3 at *
 have l1_0 := F3.out.1.lt
 have a1_0_0 := F3.out.1.cell 0 _ rfl
 have f1_0_0 := F3.out.1.fz 0
 have a1_0_1 := F3.out.1.cell 1 _ rfl
 have f1_0_1 := F3.out.1.fz 1
 have a1_0_2 := F3.out.1.cell 2 _ rfl
 have f1_0_2 := F3.out.1.fz 2
 go_wp2_with fail
 all_goals first | (exfalso; omega) | skip
 refine (works20 _).mono ?_
 rintro o4 w4 ⟨rfl, bb⟩
 have F4 : Hid (Bk w4 (w2.heap.size) [.string ⟨#[]⟩, .int .i64 0, .bool false] ∧ Below w.heap.size w w4) := ⟨(F3.out.1).step bb, (F3.out.2).trans (bb.mono (F3.out.2).size)⟩
 clear F3
 clear bb
 go_wp2
 go_ret
 exact ⟨rfl, F4.out.2⟩
theorem cov_out {b z m k n2 : Int} (HC : ∀ W, Calls Tryz.prog 10 #[.int .u64 b, .int .i64 z] W fun e w' => e = .returned (.tuple #[.int .i64 k, .nilIface]) ∧ Below W.heap.size W w') (HW : ∀ W, Calls Tryz.prog 14 #[.int .u64 b, .int .i64 z, .int .i64 m] W fun e w' => e = .returned (.tuple #[.agg #[.string ⟨#[]⟩, .int .i64 0, .bool false], .bool false, .iface 69 (.int .i64 n2)]) ∧ Below W.heap.size W w')  (w : World) :
 Calls Tryz.prog 7 #[.int .u64 b, .int .i64 z, .int .i64 m] w fun x w' => x = .returned (.bool true) ∧ Below w.heap.size w w' := by
 have F0 : Hid (Below w.heap.size w w) := Below.refl _ _
 go_enter Tryz.func7, Tryz.ntmps7
 go_wp2_with fail
 all_goals first | (exfalso; omega) | skip
 refine (HC _).mono ?_
 rintro o1 w1 ⟨rfl, bb⟩
 have F1 : Hid (Below w.heap.size w w1) := (F0.out).trans (bb.mono (F0.out).size)
 clear F0
 clear bb
 go_wp2_with fail
 all_goals first | (exfalso; omega) | skip
 refine (HW _).mono ?_
 rintro o2 w2 ⟨rfl, bb⟩
 have F2 : Hid (Below w.heap.size w w2) := (F1.out).trans (bb.mono (F1.out).size)
 clear F1
 clear bb
 have le0 := (F2.out).size
 have F3 : Hid (Bk (w2.alloc (.cells #[.string ⟨#[]⟩, .int .i64 0, .bool false] 24)) (w2.heap.size) [.string ⟨#[]⟩, .int .i64 0, .bool false] ∧ Below w.heap.size w (w2.alloc (.cells #[.string ⟨#[]⟩, .int .i64 0, .bool false] 24))) := ⟨Bk.new3 w2 (.string ⟨#[]⟩) (.int .i64 0) (.bool false) 24, (F2.out).alloc ((F2.out).size) _⟩
 clear F2
 go_upto_region 3 with fail
 generalize (w2.alloc (.cells #[.string ⟨#[]⟩, .int .i64 0, .bool false] 24)) = w3 at *
 have l1_0 := F3.out.1.lt
 have a1_0_0 := F3.out.1.cell 0 _ rfl
 have f1_0_0 := F3.out.1.fz 0
 have a1_0_1 := F3.out.1.cell 1 _ rfl
 have f1_0_1 := F3.out.1.fz 1
 have a1_0_2 := F3.out.1.cell 2 _ rfl
 have f1_0_2 := F3.out.1.fz 2
 go_wp2_with fail
 all_goals first | (exfalso; omega) | skip
 refine (works20 _).mono ?_
 rintro o4 w4 ⟨rfl, bb⟩
 have F4 : Hid (Bk w4 (w2.heap.size) [.string ⟨#[]⟩, .int .i64 0, .bool false] ∧ Below w.heap.size w w4) := ⟨(F3.out.1).step bb, (F3.out.2).trans (bb.mono (F3.out.2).size)⟩
 clear F3
 clear bb
 go_wp2
 go_ret
 exact ⟨rfl, F4.out.2⟩
theorem cov_none {b z m k : Int} (q1 : m < k) (HC : ∀ W, Calls Tryz.prog 10 #[.int .u64 b, .int .i64 z] W fun e w' => e = .returned (.tuple #[.int .i64 k, .nilIface]) ∧ Below W.heap.size W w') (HW : ∀ W, Calls Tryz.prog 14 #[.int .u64 b, .int .i64 z, .int .i64 m] W fun e w' => e = .returned (.tuple #[.agg #[.string ⟨#[]⟩, .int .i64 0, .bool false], .bool false, .nilIface]) ∧ Below W.heap.size W w')  (w : World) :
 Calls Tryz.prog 7 #[.int .u64 b, .int .i64 z, .int .i64 m] w fun x w' => x = .returned (.bool true) ∧ Below w.heap.size w w' := by
 have F0 : Hid (Below w.heap.size w w) := Below.refl _ _
 go_enter Tryz.func7, Tryz.ntmps7
 go_wp2_with fail
 all_goals first | (exfalso; omega) | skip
 refine (HC _).mono ?_
 rintro o1 w1 ⟨rfl, bb⟩
 have F1 : Hid (Below w.heap.size w w1) := (F0.out).trans (bb.mono (F0.out).size)
 clear F0
 clear bb
 go_wp2_with fail
 all_goals first | (exfalso; omega) | skip
 refine (HW _).mono ?_
 rintro o2 w2 ⟨rfl, bb⟩
 have F2 : Hid (Below w.heap.size w w2) := (F1.out).trans (bb.mono (F1.out).size)
 clear F1
 clear bb
 have le0 := (F2.out).size
 have F3 : Hid (Bk (w2.alloc (.cells #[.string ⟨#[]⟩, .int .i64 0, .bool false] 24)) (w2.heap.size) [.string ⟨#[]⟩, .int .i64 0, .bool false] ∧ Below w.heap.size w (w2.alloc (.cells #[.string ⟨#[]⟩, .int .i64 0, .bool false] 24))) := ⟨Bk.new3 w2 (.string ⟨#[]⟩) (.int .i64 0) (.bool false) 24, (F2.out).alloc ((F2.out).size) _⟩
 clear F2
 go_upto_region 3 with fail
 generalize (w2.alloc (.cells #[.string ⟨#[]⟩, .int .i64 0, .bool false] 24)) = w3 at *
 have l1_0 := F3.out.1.lt
 have a1_0_0 := F3.out.1.cell 0 _ rfl
 have f1_0_0 := F3.out.1.fz 0
 have a1_0_1 := F3.out.1.cell 1 _ rfl
 have f1_0_1 := F3.out.1.fz 1
 have a1_0_2 := F3.out.1.cell 2 _ rfl
 have f1_0_2 := F3.out.1.fz 2
 have q2 : ¬ k ≤ m := by omega
 go_wp2_with fail
 all_goals first | (exfalso; omega) | skip
 refine (works20 _).mono ?_
 rintro o4 w4 ⟨rfl, bb⟩
 have F4 : Hid (Bk w4 (w2.heap.size) [.string ⟨#[]⟩, .int .i64 0, .bool false] ∧ Below w.heap.size w w4) := ⟨(F3.out.1).step bb, (F3.out.2).trans (bb.mono (F3.out.2).size)⟩
 clear F3
 clear bb
 go_wp2
 go_ret
 exact ⟨rfl, F4.out.2⟩
theorem cov_some {b z m k x : Int} {d1 : ByteArray} {d2 : Int} (q1 : k ≤ m) (q2 : (d1.size : Int) ≤ m) (HC : ∀ W, Calls Tryz.prog 10 #[.int .u64 b, .int .i64 z] W fun e w' => e = .returned (.tuple #[.int .i64 k, .nilIface]) ∧ Below W.heap.size W w') (HW : ∀ W, Calls Tryz.prog 14 #[.int .u64 b, .int .i64 z, .int .i64 m] W fun e w' => e = .returned (.tuple #[.agg #[.string d1, .int .i64 d2, .bool false], .bool true, .nilIface]) ∧ Below W.heap.size W w') (HN : ∀ W, Calls Tryz.prog 20 #[.agg #[.string d1, .int .i64 d2, .bool false], .int .i64 z] W fun e w' => e = .returned (.tuple #[.int .u64 x, .int .i64 0]) ∧ Below W.heap.size W w') (HM : ∀ W, Calls Tryz.prog 21 #[.int .u64 b, .int .i64 z] W fun e w' => e = .returned (.int .u64 x) ∧ Below W.heap.size W w') (w : World) :
 Calls Tryz.prog 7 #[.int .u64 b, .int .i64 z, .int .i64 m] w fun x w' => x = .returned (.bool true) ∧ Below w.heap.size w w' := by
 have F0 : Hid (Below w.heap.size w w) := Below.refl _ _
 go_enter Tryz.func7, Tryz.ntmps7
 go_wp2_with fail
 all_goals first | (exfalso; omega) | skip
 refine (HC _).mono ?_
 rintro o1 w1 ⟨rfl, bb⟩
 have F1 : Hid (Below w.heap.size w w1) := (F0.out).trans (bb.mono (F0.out).size)
 clear F0
 clear bb
 go_wp2_with fail
 all_goals first | (exfalso; omega) | skip
 refine (HW _).mono ?_
 rintro o2 w2 ⟨rfl, bb⟩
 have F2 : Hid (Below w.heap.size w w2) := (F1.out).trans (bb.mono (F1.out).size)
 clear F1
 clear bb
 have le0 := (F2.out).size
 have F3 : Hid (Bk (w2.alloc (.cells #[.string d1, .int .i64 d2, .bool false] 24)) (w2.heap.size) [.string d1, .int .i64 d2, .bool false] ∧ Below w.heap.size w (w2.alloc (.cells #[.string d1, .int .i64 d2, .bool false] 24))) := ⟨Bk.new3 w2 (.string d1) (.int .i64 d2) (.bool false) 24, (F2.out).alloc ((F2.out).size) _⟩
 clear F2
 go_upto_region 3 with fail
 generalize (w2.alloc (.cells #[.string d1, .int .i64 d2, .bool false] 24)) = w3 at *
 have l1_0 := F3.out.1.lt
 have a1_0_0 := F3.out.1.cell 0 _ rfl
 have f1_0_0 := F3.out.1.fz 0
 have a1_0_1 := F3.out.1.cell 1 _ rfl
 have f1_0_1 := F3.out.1.fz 1
 have a1_0_2 := F3.out.1.cell 2 _ rfl
 have f1_0_2 := F3.out.1.fz 2
 go_wp2_with fail
 all_goals first | (exfalso; omega) | skip
 refine (HN _).mono ?_
 rintro o4 w4 ⟨rfl, bb⟩
 have F4 : Hid (Bk w4 (w2.heap.size) [.string d1, .int .i64 d2, .bool false] ∧ Below w.heap.size w w4) := ⟨(F3.out.1).step bb, (F3.out.2).trans (bb.mono (F3.out.2).size)⟩
 clear F3
 clear bb
 clear l1_0 a1_0_0 f1_0_0 a1_0_1 f1_0_1 a1_0_2 f1_0_2
 have l2_0 := F4.out.1.lt
 have a2_0_0 := F4.out.1.cell 0 _ rfl
 have f2_0_0 := F4.out.1.fz 0
 have a2_0_1 := F4.out.1.cell 1 _ rfl
 have f2_0_1 := F4.out.1.fz 1
 have a2_0_2 := F4.out.1.cell 2 _ rfl
 have f2_0_2 := F4.out.1.fz 2
 go_wp2_with fail
 all_goals first | (exfalso; omega) | skip
 refine (HM _).mono ?_
 rintro o5 w5 ⟨rfl, bb⟩
 have F5 : Hid (Bk w5 (w2.heap.size) [.string d1, .int .i64 d2, .bool false] ∧ Below w.heap.size w w5) := ⟨(F4.out.1).step bb, (F4.out.2).trans (bb.mono (F4.out.2).size)⟩
 clear F4
 clear bb
 clear l2_0 a2_0_0 f2_0_0 a2_0_1 f2_0_1 a2_0_2 f2_0_2
 have l3_0 := F5.out.1.lt
 have a3_0_0 := F5.out.1.cell 0 _ rfl
 have f3_0_0 := F5.out.1.fz 0
 have a3_0_1 := F5.out.1.cell 1 _ rfl
 have f3_0_1 := F5.out.1.fz 1
 have a3_0_2 := F5.out.1.cell 2 _ rfl
 have f3_0_2 := F5.out.1.fz 2
 go_wp2_with fail
 all_goals first | (exfalso; omega) | skip
 refine (works20 _).mono ?_
 rintro o6 w6 ⟨rfl, bb⟩
 have F6 : Hid (Bk w6 (w2.heap.size) [.string d1, .int .i64 d2, .bool false] ∧ Below w.heap.size w w6) := ⟨(F5.out.1).step bb, (F5.out.2).trans (bb.mono (F5.out.2).size)⟩
 clear F5
 clear bb
 go_wp2
 go_ret
 exact ⟨rfl, F6.out.2⟩
theorem law_covers (b : Nat) (hb : b < 18446744073709551616) (z m : Int) (w : World) :
    Calls Tryz.prog 7 #[.int .u64 (b : Int), .int .i64 z, .int .i64 m] w fun x w' => x = .returned (.bool true) ∧ Below w.heap.size w w' := by
  rcases kinds b z hb with ⟨n, h⟩ | ⟨f, T, L, S, I, h⟩
  · exact cov_bad (fun W => sco_ok (fun W => sdi_bad h W) W) (fun W => swi_err (fun W => ssp_bad h W) W) w
  · by_cases m0 : mg S b = 0
    · exact cov_out (fun W => sco_ok (fun W => fn_zero h m0 W) W) (fun W => fn_within_none h (Or.inr (Or.inr m0)) W) w
    · obtain ⟨u, o, s, p, t, q, A, d1, d2, k⟩ := fl_ex h m0
      obtain ⟨N, d, e1, e2, e3, e4, e5⟩ := k.first (decide (b % 2 = 0))
      have HC := fun W => sco_ok (fun W => k.digits e1 W) W
      have N17 : N ≤ 17 := by split at e3 <;> omega
      have sz := k.size e2 N17 e4 e5
      by_cases hm : m < 1 ∨ 17 < m
      · exact cov_out HC (fun W => fn_within_none h (by omega) W) w
      · obtain ⟨n, rfl⟩ : ∃ n : Nat, m = (n : Int) := ⟨m.toNat, by omega⟩
        have n0 : 1 ≤ n := by omega
        have n1 : n ≤ 17 := by omega
        have H1 := fun W => k.within n0 n1 W
        cases e : fD (decide (b % 2 = 0)) s p t q u d1 d2 n with
        | some d' =>
          rw [e] at H1
          have nN : N ≤ n := by
            apply Nat.le_of_not_lt
            intro c
            rw [e5 n n0 c] at e
            cases e
          have few : d'.1.size ≤ n := by
            rcases k.pick (decide (b % 2 = 0)) n0 n1 with ⟨a, _⟩ | ⟨d'', Z, a, _, _, _, w⟩
            · rw [a] at e; cases e
            · rw [a] at e
              obtain rfl := Option.some.inj e
              exact (k.few n0 n1 w).1
          exact cov_some (by omega) (by omega) HC H1 (fun W => k.near16 n0 n1 e W) (fun W => fn_mag h W) w
        | none =>
          rw [e] at H1
          have nN : n < N := by
            apply Nat.lt_of_not_le
            intro c
            have x := k.mono (decide (b % 2 = 0)) e2 c n1 e
            rw [x] at e4
            cases e4
          exact cov_none (by omega) HC H1 w
end Go.Proofs.YtblkokjkmbpejaaGreatDoor
