/-
  Holds: IvO LawIvA.
-/
import Derived.Test.YtdfefjcobeopbaaGreatDoorRows
import Derived.Laws.Externs
import Derived.WalkKit
import Derived.WalkSpells
import Derived.WalkLawsBesides
import Derived.Lib.Mul64
import Derived.Stop.Asserts
import Derived.RowKitTokens
import Derived.Lib.Strings
import Derived.Lib.BufferWrite
import Derived.Deep.OwnRows
import Derived.Deep.RegionHeld3
import Derived.BigQuiet
import Derived.Lib.ConvBytes
import Derived.Laws.CopyOwn
import Derived.Lib.TrailingZeros
import Derived.Lib.ItoaNum
import Derived.Deep.LoopGhost
import Derived.Deep.AppendLies
import Derived.Deep.DeepCutAuto
import Derived.Test.YtdfefjcobeopbaaGreatDoorKa23
import Derived.Test.YtdfefjcobeopbaaGreatDoorKa27
import Derived.Test.YtdfefjcobeopbaaGreatDoorKa28
set_option maxRecDepth 100000
set_option maxHeartbeats 4000000
namespace Go.Proofs.YtdfefjcobeopbaaGreatDoor
open Go.RowKit
theorem rck_no {b : Nat} {z : Int} (h : Sn z) (w : World) : Calls Tryz.prog 41 #[.int .u64 (b : Int), .int .i64 z] w fun e w' => e = .returned (.int .i64 5) ∧ Below w.heap.size w w' := toB' (fun W => rcheck_no h _ W) w
theorem rck_any {z : Int} {f T : Nat} {L : Int} {S I b : Nat} (h : Sf z f T L S I) (hb : b < 2 * S) (w : World) :
 Calls Tryz.prog 41 #[.int .u64 (b : Int), .int .i64 z] w fun e w' => e = .returned (.int .i64 0) ∧ Below w.heap.size w w' := by
 rcases h with ⟨rfl, rfl, rfl, rfl, rfl, rfl⟩ | ⟨rfl, rfl, rfl, rfl, rfl, rfl⟩
 · exact toB' (fun W => rcheck_32 (by omega) W) w
 · exact toB' (fun W => rcheck_64 _ W) w
theorem rof_any {z : Int} {f T : Nat} {L : Int} {S I b : Nat} (h : Sf z f T L S I) (hb : b < 2 * S) (w : World) :
    Calls Tryz.prog 42 #[.int .u64 (b : Int), .int .i64 z] w fun e w' => e = .returned (.int .i64 (cl I (mg S b))) ∧ Below w.heap.size w w' := by
  rcases h with ⟨rfl, rfl, rfl, rfl, rfl, rfl⟩ | ⟨rfl, rfl, rfl, rfl, rfl, rfl⟩
  · exact toB' (fun W => rof_32 (by omega) W) w
  · exact toB' (fun W => rof_64 (by omega) W) w
theorem rpa_any {z : Int} {f T : Nat} {L : Int} {S I b : Nat} (h : Sf z f T L S I) (hb : b < 2 * S) (w : World) :
 Calls Tryz.prog 18 #[.int .u64 (b : Int), .int .i64 z] w fun e w' => e = .returned (.tuple #[.int .u64 ((mt f (mg S b) : Nat) : Int), .int .i64 (xp f L (mg S b))]) ∧ Below w.heap.size w w' := by
 rcases h with ⟨rfl, rfl, rfl, rfl, rfl, rfl⟩ | ⟨rfl, rfl, rfl, rfl, rfl, rfl⟩
 · exact toB' (fun W => rparts_32 (by omega) W) w
 · exact toB' (fun W => rparts_64 (by omega) W) w
theorem rmg_any {z : Int} {f T : Nat} {L : Int} {S I b : Nat} (h : Sf z f T L S I) (hb : b < 2 * S) (w : World) :
 Calls Tryz.prog 24 #[.int .u64 (b : Int), .int .i64 z] w fun e w' => e = .returned (.int .u64 ((mg S b : Nat) : Int)) ∧ Below w.heap.size w w' := by
 rcases h with ⟨rfl, rfl, rfl, rfl, rfl, rfl⟩ | ⟨rfl, rfl, rfl, rfl, rfl, rfl⟩
 · exact toB' (fun W => rmag_32 (by omega) W) w
 · exact toB' (fun W => rmag_64 (by omega) W) w
theorem chk_bad {b : Nat} {z n : Int} (h : Bad b z n) (w : World) :
 Calls Tryz.prog 17 #[.int .u64 (b : Int), .int .i64 z] w fun e w' => e = .returned (.int .i64 n) ∧ Below w.heap.size w w' := by
 rcases h with ⟨h, rfl⟩ | ⟨rfl, h, rfl⟩ | ⟨f, T, L, S, I, h, hb, hi, rfl⟩
 · exact chk_err rfl (fun W => rck_no h W) w
 · exact chk_err rfl (fun W => toB' (fun W => rcheck_big h W) W) w
 · have i1 := h.fs.2.2.2.2.2.1
   refine chk_not ?_ (fun W => rck_any h hb W) (fun W => rof_any h hb W) w
   rcases cl_cases I (mg S b) with q | q | q | q <;> omega
theorem chk_is {z : Int} {f T : Nat} {L : Int} {S I b : Nat} (h : Fn z f T L S I b) (w : World) : Calls Tryz.prog 17 #[.int .u64 (b : Int), .int .i64 z] w fun e w' => e = .returned (.int .i64 0) ∧ Below w.heap.size w w' := by
 refine chk_ok ?_ (fun W => rck_any h.sf h.lt W) (fun W => rof_any h.sf h.lt W) w
 have := h.fin
 rcases cl_cases I (mg S b) with q | q | q | q <;> omega
theorem rex_is {z : Int} {f T : Nat} {L : Int} {S I b : Nat} (h : Fn z f T L S I b) {s : ByteArray} {p : Int} (D : Dx s p (vlF f L (mg S b))) (w : World) :
 Calls Tryz.prog 6 #[.int .u64 (b : Int), .int .i64 z] w fun e w' => e = .returned (.tuple #[dcV s p false, .int .i64 0]) ∧ Below w.heap.size w w' := by
 have fs := h.sf.fs.1
 have x := xp_in fs h.m
 have m := mt_lt fs (mg S b)
 refine rex_ok (by omega) (fun W => chk_is h W) (fun W => rpa_any h.sf h.lt W) (fun W v hv => rdec_any (by omega) (by omega) (by omega) ?_ D hv) w
 by_cases m0 : mg S b = 0
 · right
   rw [m0, (xp_one fs.one L).2.1]
   rcases fs with ⟨_, _, rfl⟩ | ⟨_, _, rfl⟩ <;> omega
 · exact Or.inl (mt_some m0)
theorem mg_even {z : Int} {f T : Nat} {L : Int} {S I b : Nat} (h : Fn z f T L S I b) : decide (mg S b % 2 = 0) = decide (b % 2 = 0) := by
 have e := h.sf.fs.2.2.2.2.1
 obtain ⟨k, rfl⟩ : ∃ k, S = 2 * k := ⟨S / 2, by omega⟩
 unfold mg
 rw [Nat.mod_mul_right_mod]
theorem rbd_is {z : Int} {f T : Nat} {L : Int} {S I b : Nat} (h : Fn z f T L S I b) {s t : ByteArray} {p q : Int} (D : Dx s p (loF f L (mg S b))) (E : Dx t q (hiF f L (mg S b))) (w : World) :
 Calls Tryz.prog 8 #[.int .u64 (b : Int), .int .i64 z] w fun e w' => e = .returned (.tuple #[dcV s p false, dcV t q false, .bool (decide (b % 2 = 0)), .int .i64 0]) ∧ Below w.heap.size w w' := by
 have fs := h.sf.fs.1
 have x := xp_in fs h.m
 have m := mt_lt fs (mg S b)
 have HD : ∀ W v, Big.D.NatV W v (2 * mt f (mg S b) + 1) → Calls Tryz.prog 19 #[v, .int .i64 (xp f L (mg S b) - 1)] W fun e w' => e = .returned (dcV t q false) ∧ Below W.heap.size W w' :=
  fun W v hv => rdec_any (by omega) (by omega) (by omega) (by omega) E hv
 have MG := fun W => rmg_any h.sf h.lt W
 rw [← mg_even h]
 by_cases m0 : mg S b = 0
 · rw [m0] at D
   obtain ⟨rfl, rfl⟩ := Dx.uniq D dx_nought
   rw [show ((mg S b : Nat) : Int) = 0 by rw [m0]; rfl] at MG
   rw [show decide (mg S b % 2 = 0) = true by rw [m0]; rfl]
   exact rbd_zero (by omega) (by omega) (by omega) (fun W => chk_is h W) (fun W => rpa_any h.sf h.lt W) HD MG w
 · obtain ⟨_, _, s2, hS, _, _, hIS⟩ := h.sf.fs
   have fin := h.fin
   obtain ⟨k, e⟩ : ∃ k, mg S b = k + 1 := ⟨mg S b - 1, by omega⟩
   have hm := h.m
   rw [e] at hm D x MG m0 HD ⊢
   have x2 := xp_in fs (m := k) (by omega)
   have m2 := mt_lt fs k
   have mo := xp_mono f L k
   have P2 := fun W => rpa_any (b := k) h.sf (by omega) W
   have gk : mg S k = k := Nat.mod_eq_of_lt (by omega)
   rw [gk] at P2
   have e1 : ((k + 1 : Nat) : Int) - 1 = (k : Int) := by omega
   have P1 := fun W => rpa_any h.sf h.lt W
   rw [e] at P1
   exact rbd_ok (m2 := mt f k) (M := k + 1) (D := (xp f L (k + 1) - xp f L k).toNat) (E2 := xp f L k) (by rw [← e]; omega) (by omega) (by omega) (by omega) (by omega) (by omega) (by omega) (by omega) (by omega) (by omega) (fun W => chk_is h W) P1 HD MG (fun W => by rw [e1]; exact P2 W)
    (fun W v hv => by rw [low_doc] at hv; exact rdec_any (by omega) (by omega) (by omega) (by omega) D hv) w
theorem exacts_walk {b z : Int} {s1 s2 s3 : ByteArray} {p1 p2 p3 n1 n2 : Int} {c : Bool} {E1 E2 : Value} (HE : ∀ W, Calls Tryz.prog 5 #[.int .u64 b, .int .i64 z] W fun e w' => e = .returned (.tuple #[.agg #[.string s1, .int .i64 p1, .bool false], E1]) ∧ Below W.heap.size W w') (HR : ∀ W, Calls Tryz.prog 6 #[.int .u64 b, .int .i64 z] W fun e w' => e = .returned (.tuple #[.agg #[.string s1, .int .i64 p1, .bool false], .int .i64 n1]) ∧ Below W.heap.size W w') (HB : ∀ W, Calls Tryz.prog 7 #[.int .u64 b, .int .i64 z] W fun e w' => e = .returned (.tuple #[.agg #[.string s2, .int .i64 p2, .bool false], .agg #[.string s3, .int .i64 p3, .bool false], .bool c, E2]) ∧ Below W.heap.size W w') (HQ : ∀ W, Calls Tryz.prog 8 #[.int .u64 b, .int .i64 z] W fun e w' => e = .returned (.tuple #[.agg #[.string s2, .int .i64 p2, .bool false], .agg #[.string s3, .int .i64 p3, .bool false], .bool c, .int .i64 n2]) ∧ Below W.heap.size W w') (N1 : ∀ W, ErrT W → Calls Tryz.prog 9 #[E1] W fun e w' => e = .returned (.int .i64 n1) ∧ Below W.heap.size W w') (N2 : ∀ W, ErrT W → Calls Tryz.prog 9 #[E2] W fun e w' => e = .returned (.int .i64 n2) ∧ Below W.heap.size W w') (w : World) (hE : ErrT w) :
 Calls Tryz.prog 3 #[.int .u64 b, .int .i64 z] w fun x w' => x = .returned (.bool true) ∧ Below w.heap.size w w' := by
 have HG : Hid (ErrT w) := hE
 clear hE
 have F0 : Hid (Below w.heap.size w w) := Below.refl _ _
 go_enter Tryz.func3, Tryz.ntmps3
 go_wp2_with fail
 all_goals first | (exfalso; omega) | skip
 refine (HE _).mono ?_
 rintro o1 w1 ⟨rfl, bb⟩
 have F1 : Hid (Below w.heap.size w w1) := (F0.out).trans (bb.mono (F0.out).size)
 clear F0
 clear bb
 have le0 := (F1.out).size
 have F2 : Hid (Bk (w1.alloc (.cells #[.string s1, .int .i64 p1, .bool false] 24)) (w1.heap.size) [.string s1, .int .i64 p1, .bool false] ∧ Below w.heap.size w (w1.alloc (.cells #[.string s1, .int .i64 p1, .bool false] 24))) := ⟨Bk.new3 w1 (.string s1) (.int .i64 p1) (.bool false) 24, (F1.out).alloc ((F1.out).size) _⟩
 clear F1
 go_upto_region 2 with fail
 generalize (w1.alloc (.cells #[.string s1, .int .i64 p1, .bool false] 24)) = w2 at *
 have l1_0 := F2.out.1.lt
 have a1_0_0 := F2.out.1.cell 0 _ rfl
 have f1_0_0 := F2.out.1.fz 0
 have a1_0_1 := F2.out.1.cell 1 _ rfl
 have f1_0_1 := F2.out.1.fz 1
 have a1_0_2 := F2.out.1.cell 2 _ rfl
 have f1_0_2 := F2.out.1.fz 2
 go_wp2_with fail
 all_goals first | (exfalso; omega) | skip
 refine (HR _).mono ?_
 rintro o3 w3 ⟨rfl, bb⟩
 have F3 : Hid (Bk w3 (w1.heap.size) [.string s1, .int .i64 p1, .bool false] ∧ Below w.heap.size w w3) := ⟨(F2.out.1).step bb, (F2.out.2).trans (bb.mono (F2.out.2).size)⟩
 clear F2
 clear bb
 clear l1_0 a1_0_0 f1_0_0 a1_0_1 f1_0_1 a1_0_2 f1_0_2
 have lt0_1 := (F3.out.1).lt
 have le1 := (F3.out.2).size
 have F4 : Hid (Bk (w3.alloc (.cells #[.string s1, .int .i64 p1, .bool false] 24)) (w1.heap.size) [.string s1, .int .i64 p1, .bool false] ∧ Bk (w3.alloc (.cells #[.string s1, .int .i64 p1, .bool false] 24)) (w3.heap.size) [.string s1, .int .i64 p1, .bool false] ∧ Below w.heap.size w (w3.alloc (.cells #[.string s1, .int .i64 p1, .bool false] 24))) := ⟨(F3.out.1).step ((Below.refl _ _).alloc (Nat.le_refl _) _), Bk.new3 w3 (.string s1) (.int .i64 p1) (.bool false) 24, (F3.out.2).alloc ((F3.out.2).size) _⟩
 clear F3
 go_upto_region 3 with fail
 generalize (w3.alloc (.cells #[.string s1, .int .i64 p1, .bool false] 24)) = w4 at *
 have l2_0 := F4.out.1.lt
 have a2_0_0 := F4.out.1.cell 0 _ rfl
 have f2_0_0 := F4.out.1.fz 0
 have a2_0_1 := F4.out.1.cell 1 _ rfl
 have f2_0_1 := F4.out.1.fz 1
 have a2_0_2 := F4.out.1.cell 2 _ rfl
 have f2_0_2 := F4.out.1.fz 2
 have l2_1 := F4.out.2.1.lt
 have a2_1_0 := F4.out.2.1.cell 0 _ rfl
 have f2_1_0 := F4.out.2.1.fz 0
 have a2_1_1 := F4.out.2.1.cell 1 _ rfl
 have f2_1_1 := F4.out.2.1.fz 1
 have a2_1_2 := F4.out.2.1.cell 2 _ rfl
 have f2_1_2 := F4.out.2.1.fz 2
 have ne2_0_1 : ¬ w1.heap.size = w3.heap.size := by omega
 have ne2_1_0 : ¬ w3.heap.size = w1.heap.size := by omega
 go_wp2_with fail
 all_goals first | (exfalso; omega) | skip
 refine (HB _).mono ?_
 rintro o5 w5 ⟨rfl, bb⟩
 have F5 : Hid (Bk w5 (w1.heap.size) [.string s1, .int .i64 p1, .bool false] ∧ Bk w5 (w3.heap.size) [.string s1, .int .i64 p1, .bool false] ∧ Below w.heap.size w w5) := ⟨(F4.out.1).step bb, (F4.out.2.1).step bb, (F4.out.2.2).trans (bb.mono (F4.out.2.2).size)⟩
 clear F4
 clear bb
 clear l2_0 a2_0_0 f2_0_0 a2_0_1 f2_0_1 a2_0_2 f2_0_2 l2_1 a2_1_0 f2_1_0 a2_1_1 f2_1_1 a2_1_2 f2_1_2
 have lt0_2 := (F5.out.1).lt
 have lt1_2 := (F5.out.2.1).lt
 have le2 := (F5.out.2.2).size
 have F6 : Hid (Bk ((w5.alloc (.cells #[.string s2, .int .i64 p2, .bool false] 24)).alloc (.cells #[.string s3, .int .i64 p3, .bool false] 24)) (w1.heap.size) [.string s1, .int .i64 p1, .bool false] ∧ Bk ((w5.alloc (.cells #[.string s2, .int .i64 p2, .bool false] 24)).alloc (.cells #[.string s3, .int .i64 p3, .bool false] 24)) (w3.heap.size) [.string s1, .int .i64 p1, .bool false] ∧ Bk ((w5.alloc (.cells #[.string s2, .int .i64 p2, .bool false] 24)).alloc (.cells #[.string s3, .int .i64 p3, .bool false] 24)) (w5.heap.size) [.string s2, .int .i64 p2, .bool false] ∧ Bk ((w5.alloc (.cells #[.string s2, .int .i64 p2, .bool false] 24)).alloc (.cells #[.string s3, .int .i64 p3, .bool false] 24)) (w5.heap.size + 1) [.string s3, .int .i64 p3, .bool false] ∧ Below w.heap.size w ((w5.alloc (.cells #[.string s2, .int .i64 p2, .bool false] 24)).alloc (.cells #[.string s3, .int .i64 p3, .bool false] 24))) := ⟨((F5.out.1).step ((Below.refl _ _).alloc (Nat.le_refl _) _)).step ((Below.refl _ _).alloc (Nat.le_refl _) _), ((F5.out.2.1).step ((Below.refl _ _).alloc (Nat.le_refl _) _)).step ((Below.refl _ _).alloc (Nat.le_refl _) _), (Bk.new3 w5 (.string s2) (.int .i64 p2) (.bool false) 24).step ((Below.refl _ _).alloc (Nat.le_refl _) _), ((by have q := Bk.new3 (w5.alloc (.cells #[.string s2, .int .i64 p2, .bool false] 24)) (.string s3) (.int .i64 p3) (.bool false) 24; simpa using q) : Bk ((w5.alloc (.cells #[.string s2, .int .i64 p2, .bool false] 24)).alloc (.cells #[.string s3, .int .i64 p3, .bool false] 24)) (w5.heap.size + 1) [.string s3, .int .i64 p3, .bool false]), ((F5.out.2.2).alloc ((F5.out.2.2).size) _).alloc (((F5.out.2.2).alloc ((F5.out.2.2).size) _).size) _⟩
 clear F5
 go_upto_region 4 with fail
 generalize ((w5.alloc (.cells #[.string s2, .int .i64 p2, .bool false] 24)).alloc (.cells #[.string s3, .int .i64 p3, .bool false] 24)) = w6 at *
 have l3_0 := F6.out.1.lt
 have a3_0_0 := F6.out.1.cell 0 _ rfl
 have f3_0_0 := F6.out.1.fz 0
 have a3_0_1 := F6.out.1.cell 1 _ rfl
 have f3_0_1 := F6.out.1.fz 1
 have a3_0_2 := F6.out.1.cell 2 _ rfl
 have f3_0_2 := F6.out.1.fz 2
 have l3_1 := F6.out.2.1.lt
 have a3_1_0 := F6.out.2.1.cell 0 _ rfl
 have f3_1_0 := F6.out.2.1.fz 0
 have a3_1_1 := F6.out.2.1.cell 1 _ rfl
 have f3_1_1 := F6.out.2.1.fz 1
 have a3_1_2 := F6.out.2.1.cell 2 _ rfl
 have f3_1_2 := F6.out.2.1.fz 2
 have l3_2 := F6.out.2.2.1.lt
 have a3_2_0 := F6.out.2.2.1.cell 0 _ rfl
 have f3_2_0 := F6.out.2.2.1.fz 0
 have a3_2_1 := F6.out.2.2.1.cell 1 _ rfl
 have f3_2_1 := F6.out.2.2.1.fz 1
 have a3_2_2 := F6.out.2.2.1.cell 2 _ rfl
 have f3_2_2 := F6.out.2.2.1.fz 2
 have l3_3 := F6.out.2.2.2.1.lt
 have a3_3_0 := F6.out.2.2.2.1.cell 0 _ rfl
 have f3_3_0 := F6.out.2.2.2.1.fz 0
 have a3_3_1 := F6.out.2.2.2.1.cell 1 _ rfl
 have f3_3_1 := F6.out.2.2.2.1.fz 1
 have a3_3_2 := F6.out.2.2.2.1.cell 2 _ rfl
 have f3_3_2 := F6.out.2.2.2.1.fz 2
 have ne3_0_1 : ¬ w1.heap.size = w3.heap.size := by omega
 have ne3_0_2 : ¬ w1.heap.size = w5.heap.size := by omega
 have ne3_0_3 : ¬ w1.heap.size = w5.heap.size + 1 := by omega
 have ne3_1_0 : ¬ w3.heap.size = w1.heap.size := by omega
 have ne3_1_2 : ¬ w3.heap.size = w5.heap.size := by omega
 have ne3_1_3 : ¬ w3.heap.size = w5.heap.size + 1 := by omega
 have ne3_2_0 : ¬ w5.heap.size = w1.heap.size := by omega
 have ne3_2_1 : ¬ w5.heap.size = w3.heap.size := by omega
 have ne3_2_3 : ¬ w5.heap.size = w5.heap.size + 1 := by omega
 have ne3_3_0 : ¬ w5.heap.size + 1 = w1.heap.size := by omega
 have ne3_3_1 : ¬ w5.heap.size + 1 = w3.heap.size := by omega
 have ne3_3_2 : ¬ w5.heap.size + 1 = w5.heap.size := by omega
 go_wp2_with fail
 all_goals first | (exfalso; omega) | skip
 refine (HQ _).mono ?_
 rintro o7 w7 ⟨rfl, bb⟩
 have F7 : Hid (Bk w7 (w1.heap.size) [.string s1, .int .i64 p1, .bool false] ∧ Bk w7 (w3.heap.size) [.string s1, .int .i64 p1, .bool false] ∧ Bk w7 (w5.heap.size) [.string s2, .int .i64 p2, .bool false] ∧ Bk w7 (w5.heap.size + 1) [.string s3, .int .i64 p3, .bool false] ∧ Below w.heap.size w w7) := ⟨(F6.out.1).step bb, (F6.out.2.1).step bb, (F6.out.2.2.1).step bb, (F6.out.2.2.2.1).step bb, (F6.out.2.2.2.2).trans (bb.mono (F6.out.2.2.2.2).size)⟩
 clear F6
 clear bb
 clear l3_0 a3_0_0 f3_0_0 a3_0_1 f3_0_1 a3_0_2 f3_0_2 l3_1 a3_1_0 f3_1_0 a3_1_1 f3_1_1 a3_1_2 f3_1_2 l3_2 a3_2_0 f3_2_0 a3_2_1 f3_2_1 a3_2_2 f3_2_2 l3_3 a3_3_0 f3_3_0 a3_3_1 f3_3_1 a3_3_2 f3_3_2
 have lt0_4 := (F7.out.1).lt
 have lt1_4 := (F7.out.2.1).lt
 have lt2_4 := (F7.out.2.2.1).lt
 have lt3_4 := (F7.out.2.2.2.1).lt
 have le4 := (F7.out.2.2.2.2).size
 have F8 : Hid (Bk ((w7.alloc (.cells #[.string s2, .int .i64 p2, .bool false] 24)).alloc (.cells #[.string s3, .int .i64 p3, .bool false] 24)) (w1.heap.size) [.string s1, .int .i64 p1, .bool false] ∧ Bk ((w7.alloc (.cells #[.string s2, .int .i64 p2, .bool false] 24)).alloc (.cells #[.string s3, .int .i64 p3, .bool false] 24)) (w3.heap.size) [.string s1, .int .i64 p1, .bool false] ∧ Bk ((w7.alloc (.cells #[.string s2, .int .i64 p2, .bool false] 24)).alloc (.cells #[.string s3, .int .i64 p3, .bool false] 24)) (w5.heap.size) [.string s2, .int .i64 p2, .bool false] ∧ Bk ((w7.alloc (.cells #[.string s2, .int .i64 p2, .bool false] 24)).alloc (.cells #[.string s3, .int .i64 p3, .bool false] 24)) (w5.heap.size + 1) [.string s3, .int .i64 p3, .bool false] ∧ Bk ((w7.alloc (.cells #[.string s2, .int .i64 p2, .bool false] 24)).alloc (.cells #[.string s3, .int .i64 p3, .bool false] 24)) (w7.heap.size) [.string s2, .int .i64 p2, .bool false] ∧ Bk ((w7.alloc (.cells #[.string s2, .int .i64 p2, .bool false] 24)).alloc (.cells #[.string s3, .int .i64 p3, .bool false] 24)) (w7.heap.size + 1) [.string s3, .int .i64 p3, .bool false] ∧ Below w.heap.size w ((w7.alloc (.cells #[.string s2, .int .i64 p2, .bool false] 24)).alloc (.cells #[.string s3, .int .i64 p3, .bool false] 24))) := ⟨((F7.out.1).step ((Below.refl _ _).alloc (Nat.le_refl _) _)).step ((Below.refl _ _).alloc (Nat.le_refl _) _), ((F7.out.2.1).step ((Below.refl _ _).alloc (Nat.le_refl _) _)).step ((Below.refl _ _).alloc (Nat.le_refl _) _), ((F7.out.2.2.1).step ((Below.refl _ _).alloc (Nat.le_refl _) _)).step ((Below.refl _ _).alloc (Nat.le_refl _) _), ((F7.out.2.2.2.1).step ((Below.refl _ _).alloc (Nat.le_refl _) _)).step ((Below.refl _ _).alloc (Nat.le_refl _) _), (Bk.new3 w7 (.string s2) (.int .i64 p2) (.bool false) 24).step ((Below.refl _ _).alloc (Nat.le_refl _) _), ((by have q := Bk.new3 (w7.alloc (.cells #[.string s2, .int .i64 p2, .bool false] 24)) (.string s3) (.int .i64 p3) (.bool false) 24; simpa using q) : Bk ((w7.alloc (.cells #[.string s2, .int .i64 p2, .bool false] 24)).alloc (.cells #[.string s3, .int .i64 p3, .bool false] 24)) (w7.heap.size + 1) [.string s3, .int .i64 p3, .bool false]), ((F7.out.2.2.2.2).alloc ((F7.out.2.2.2.2).size) _).alloc (((F7.out.2.2.2.2).alloc ((F7.out.2.2.2.2).size) _).size) _⟩
 clear F7
 go_upto_region 5 with fail
 generalize ((w7.alloc (.cells #[.string s2, .int .i64 p2, .bool false] 24)).alloc (.cells #[.string s3, .int .i64 p3, .bool false] 24)) = w8 at *
 have l4_0 := F8.out.1.lt
 have a4_0_0 := F8.out.1.cell 0 _ rfl
 have f4_0_0 := F8.out.1.fz 0
 have a4_0_1 := F8.out.1.cell 1 _ rfl
 have f4_0_1 := F8.out.1.fz 1
 have a4_0_2 := F8.out.1.cell 2 _ rfl
 have f4_0_2 := F8.out.1.fz 2
 have l4_1 := F8.out.2.1.lt
 have a4_1_0 := F8.out.2.1.cell 0 _ rfl
 have f4_1_0 := F8.out.2.1.fz 0
 have a4_1_1 := F8.out.2.1.cell 1 _ rfl
 have f4_1_1 := F8.out.2.1.fz 1
 have a4_1_2 := F8.out.2.1.cell 2 _ rfl
 have f4_1_2 := F8.out.2.1.fz 2
 have l4_2 := F8.out.2.2.1.lt
 have a4_2_0 := F8.out.2.2.1.cell 0 _ rfl
 have f4_2_0 := F8.out.2.2.1.fz 0
 have a4_2_1 := F8.out.2.2.1.cell 1 _ rfl
 have f4_2_1 := F8.out.2.2.1.fz 1
 have a4_2_2 := F8.out.2.2.1.cell 2 _ rfl
 have f4_2_2 := F8.out.2.2.1.fz 2
 have l4_3 := F8.out.2.2.2.1.lt
 have a4_3_0 := F8.out.2.2.2.1.cell 0 _ rfl
 have f4_3_0 := F8.out.2.2.2.1.fz 0
 have a4_3_1 := F8.out.2.2.2.1.cell 1 _ rfl
 have f4_3_1 := F8.out.2.2.2.1.fz 1
 have a4_3_2 := F8.out.2.2.2.1.cell 2 _ rfl
 have f4_3_2 := F8.out.2.2.2.1.fz 2
 have l4_4 := F8.out.2.2.2.2.1.lt
 have a4_4_0 := F8.out.2.2.2.2.1.cell 0 _ rfl
 have f4_4_0 := F8.out.2.2.2.2.1.fz 0
 have a4_4_1 := F8.out.2.2.2.2.1.cell 1 _ rfl
 have f4_4_1 := F8.out.2.2.2.2.1.fz 1
 have a4_4_2 := F8.out.2.2.2.2.1.cell 2 _ rfl
 have f4_4_2 := F8.out.2.2.2.2.1.fz 2
 have l4_5 := F8.out.2.2.2.2.2.1.lt
 have a4_5_0 := F8.out.2.2.2.2.2.1.cell 0 _ rfl
 have f4_5_0 := F8.out.2.2.2.2.2.1.fz 0
 have a4_5_1 := F8.out.2.2.2.2.2.1.cell 1 _ rfl
 have f4_5_1 := F8.out.2.2.2.2.2.1.fz 1
 have a4_5_2 := F8.out.2.2.2.2.2.1.cell 2 _ rfl
 have f4_5_2 := F8.out.2.2.2.2.2.1.fz 2
 have ne4_0_1 : ¬ w1.heap.size = w3.heap.size := by omega
 have ne4_0_2 : ¬ w1.heap.size = w5.heap.size := by omega
 have ne4_0_3 : ¬ w1.heap.size = w5.heap.size + 1 := by omega
 have ne4_0_4 : ¬ w1.heap.size = w7.heap.size := by omega
 have ne4_0_5 : ¬ w1.heap.size = w7.heap.size + 1 := by omega
 have ne4_1_0 : ¬ w3.heap.size = w1.heap.size := by omega
 have ne4_1_2 : ¬ w3.heap.size = w5.heap.size := by omega
 have ne4_1_3 : ¬ w3.heap.size = w5.heap.size + 1 := by omega
 have ne4_1_4 : ¬ w3.heap.size = w7.heap.size := by omega
 have ne4_1_5 : ¬ w3.heap.size = w7.heap.size + 1 := by omega
 have ne4_2_0 : ¬ w5.heap.size = w1.heap.size := by omega
 have ne4_2_1 : ¬ w5.heap.size = w3.heap.size := by omega
 have ne4_2_3 : ¬ w5.heap.size = w5.heap.size + 1 := by omega
 have ne4_2_4 : ¬ w5.heap.size = w7.heap.size := by omega
 have ne4_2_5 : ¬ w5.heap.size = w7.heap.size + 1 := by omega
 have ne4_3_0 : ¬ w5.heap.size + 1 = w1.heap.size := by omega
 have ne4_3_1 : ¬ w5.heap.size + 1 = w3.heap.size := by omega
 have ne4_3_2 : ¬ w5.heap.size + 1 = w5.heap.size := by omega
 have ne4_3_4 : ¬ w5.heap.size + 1 = w7.heap.size := by omega
 have ne4_3_5 : ¬ w5.heap.size + 1 = w7.heap.size + 1 := by omega
 have ne4_4_0 : ¬ w7.heap.size = w1.heap.size := by omega
 have ne4_4_1 : ¬ w7.heap.size = w3.heap.size := by omega
 have ne4_4_2 : ¬ w7.heap.size = w5.heap.size := by omega
 have ne4_4_3 : ¬ w7.heap.size = w5.heap.size + 1 := by omega
 have ne4_4_5 : ¬ w7.heap.size = w7.heap.size + 1 := by omega
 have ne4_5_0 : ¬ w7.heap.size + 1 = w1.heap.size := by omega
 have ne4_5_1 : ¬ w7.heap.size + 1 = w3.heap.size := by omega
 have ne4_5_2 : ¬ w7.heap.size + 1 = w5.heap.size := by omega
 have ne4_5_3 : ¬ w7.heap.size + 1 = w5.heap.size + 1 := by omega
 have ne4_5_4 : ¬ w7.heap.size + 1 = w7.heap.size := by omega
 go_wp2_with fail
 all_goals first | (exfalso; omega) | skip
 refine (N1 _ (HG.out.below (F8.out.2.2.2.2.2.2) HG.out.pos)).mono ?_
 rintro o9 w9 ⟨rfl, bb⟩
 have F9 : Hid (Bk w9 (w1.heap.size) [.string s1, .int .i64 p1, .bool false] ∧ Bk w9 (w3.heap.size) [.string s1, .int .i64 p1, .bool false] ∧ Bk w9 (w5.heap.size) [.string s2, .int .i64 p2, .bool false] ∧ Bk w9 (w5.heap.size + 1) [.string s3, .int .i64 p3, .bool false] ∧ Bk w9 (w7.heap.size) [.string s2, .int .i64 p2, .bool false] ∧ Bk w9 (w7.heap.size + 1) [.string s3, .int .i64 p3, .bool false] ∧ Below w.heap.size w w9) := ⟨(F8.out.1).step bb, (F8.out.2.1).step bb, (F8.out.2.2.1).step bb, (F8.out.2.2.2.1).step bb, (F8.out.2.2.2.2.1).step bb, (F8.out.2.2.2.2.2.1).step bb, (F8.out.2.2.2.2.2.2).trans (bb.mono (F8.out.2.2.2.2.2.2).size)⟩
 clear F8
 clear bb
 clear l4_0 a4_0_0 f4_0_0 a4_0_1 f4_0_1 a4_0_2 f4_0_2 l4_1 a4_1_0 f4_1_0 a4_1_1 f4_1_1 a4_1_2 f4_1_2 l4_2 a4_2_0 f4_2_0 a4_2_1 f4_2_1 a4_2_2 f4_2_2 l4_3 a4_3_0 f4_3_0 a4_3_1 f4_3_1 a4_3_2 f4_3_2 l4_4 a4_4_0 f4_4_0 a4_4_1 f4_4_1 a4_4_2 f4_4_2 l4_5 a4_5_0 f4_5_0 a4_5_1 f4_5_1 a4_5_2 f4_5_2
 have l5_0 := F9.out.1.lt
 have a5_0_0 := F9.out.1.cell 0 _ rfl
 have f5_0_0 := F9.out.1.fz 0
 have a5_0_1 := F9.out.1.cell 1 _ rfl
 have f5_0_1 := F9.out.1.fz 1
 have a5_0_2 := F9.out.1.cell 2 _ rfl
 have f5_0_2 := F9.out.1.fz 2
 have l5_1 := F9.out.2.1.lt
 have a5_1_0 := F9.out.2.1.cell 0 _ rfl
 have f5_1_0 := F9.out.2.1.fz 0
 have a5_1_1 := F9.out.2.1.cell 1 _ rfl
 have f5_1_1 := F9.out.2.1.fz 1
 have a5_1_2 := F9.out.2.1.cell 2 _ rfl
 have f5_1_2 := F9.out.2.1.fz 2
 have l5_2 := F9.out.2.2.1.lt
 have a5_2_0 := F9.out.2.2.1.cell 0 _ rfl
 have f5_2_0 := F9.out.2.2.1.fz 0
 have a5_2_1 := F9.out.2.2.1.cell 1 _ rfl
 have f5_2_1 := F9.out.2.2.1.fz 1
 have a5_2_2 := F9.out.2.2.1.cell 2 _ rfl
 have f5_2_2 := F9.out.2.2.1.fz 2
 have l5_3 := F9.out.2.2.2.1.lt
 have a5_3_0 := F9.out.2.2.2.1.cell 0 _ rfl
 have f5_3_0 := F9.out.2.2.2.1.fz 0
 have a5_3_1 := F9.out.2.2.2.1.cell 1 _ rfl
 have f5_3_1 := F9.out.2.2.2.1.fz 1
 have a5_3_2 := F9.out.2.2.2.1.cell 2 _ rfl
 have f5_3_2 := F9.out.2.2.2.1.fz 2
 have l5_4 := F9.out.2.2.2.2.1.lt
 have a5_4_0 := F9.out.2.2.2.2.1.cell 0 _ rfl
 have f5_4_0 := F9.out.2.2.2.2.1.fz 0
 have a5_4_1 := F9.out.2.2.2.2.1.cell 1 _ rfl
 have f5_4_1 := F9.out.2.2.2.2.1.fz 1
 have a5_4_2 := F9.out.2.2.2.2.1.cell 2 _ rfl
 have f5_4_2 := F9.out.2.2.2.2.1.fz 2
 have l5_5 := F9.out.2.2.2.2.2.1.lt
 have a5_5_0 := F9.out.2.2.2.2.2.1.cell 0 _ rfl
 have f5_5_0 := F9.out.2.2.2.2.2.1.fz 0
 have a5_5_1 := F9.out.2.2.2.2.2.1.cell 1 _ rfl
 have f5_5_1 := F9.out.2.2.2.2.2.1.fz 1
 have a5_5_2 := F9.out.2.2.2.2.2.1.cell 2 _ rfl
 have f5_5_2 := F9.out.2.2.2.2.2.1.fz 2
 have ne5_0_1 : ¬ w1.heap.size = w3.heap.size := by omega
 have ne5_0_2 : ¬ w1.heap.size = w5.heap.size := by omega
 have ne5_0_3 : ¬ w1.heap.size = w5.heap.size + 1 := by omega
 have ne5_0_4 : ¬ w1.heap.size = w7.heap.size := by omega
 have ne5_0_5 : ¬ w1.heap.size = w7.heap.size + 1 := by omega
 have ne5_1_0 : ¬ w3.heap.size = w1.heap.size := by omega
 have ne5_1_2 : ¬ w3.heap.size = w5.heap.size := by omega
 have ne5_1_3 : ¬ w3.heap.size = w5.heap.size + 1 := by omega
 have ne5_1_4 : ¬ w3.heap.size = w7.heap.size := by omega
 have ne5_1_5 : ¬ w3.heap.size = w7.heap.size + 1 := by omega
 have ne5_2_0 : ¬ w5.heap.size = w1.heap.size := by omega
 have ne5_2_1 : ¬ w5.heap.size = w3.heap.size := by omega
 have ne5_2_3 : ¬ w5.heap.size = w5.heap.size + 1 := by omega
 have ne5_2_4 : ¬ w5.heap.size = w7.heap.size := by omega
 have ne5_2_5 : ¬ w5.heap.size = w7.heap.size + 1 := by omega
 have ne5_3_0 : ¬ w5.heap.size + 1 = w1.heap.size := by omega
 have ne5_3_1 : ¬ w5.heap.size + 1 = w3.heap.size := by omega
 have ne5_3_2 : ¬ w5.heap.size + 1 = w5.heap.size := by omega
 have ne5_3_4 : ¬ w5.heap.size + 1 = w7.heap.size := by omega
 have ne5_3_5 : ¬ w5.heap.size + 1 = w7.heap.size + 1 := by omega
 have ne5_4_0 : ¬ w7.heap.size = w1.heap.size := by omega
 have ne5_4_1 : ¬ w7.heap.size = w3.heap.size := by omega
 have ne5_4_2 : ¬ w7.heap.size = w5.heap.size := by omega
 have ne5_4_3 : ¬ w7.heap.size = w5.heap.size + 1 := by omega
 have ne5_4_5 : ¬ w7.heap.size = w7.heap.size + 1 := by omega
 have ne5_5_0 : ¬ w7.heap.size + 1 = w1.heap.size := by omega
 have ne5_5_1 : ¬ w7.heap.size + 1 = w3.heap.size := by omega
 have ne5_5_2 : ¬ w7.heap.size + 1 = w5.heap.size := by omega
 have ne5_5_3 : ¬ w7.heap.size + 1 = w5.heap.size + 1 := by omega
 have ne5_5_4 : ¬ w7.heap.size + 1 = w7.heap.size := by omega
 go_wp2_with fail
 all_goals first | (exfalso; omega) | skip
 refine (N2 _ (HG.out.below (F9.out.2.2.2.2.2.2) HG.out.pos)).mono ?_
 rintro o10 w10 ⟨rfl, bb⟩
 have F10 : Hid (Bk w10 (w1.heap.size) [.string s1, .int .i64 p1, .bool false] ∧ Bk w10 (w3.heap.size) [.string s1, .int .i64 p1, .bool false] ∧ Bk w10 (w5.heap.size) [.string s2, .int .i64 p2, .bool false] ∧ Bk w10 (w5.heap.size + 1) [.string s3, .int .i64 p3, .bool false] ∧ Bk w10 (w7.heap.size) [.string s2, .int .i64 p2, .bool false] ∧ Bk w10 (w7.heap.size + 1) [.string s3, .int .i64 p3, .bool false] ∧ Below w.heap.size w w10) := ⟨(F9.out.1).step bb, (F9.out.2.1).step bb, (F9.out.2.2.1).step bb, (F9.out.2.2.2.1).step bb, (F9.out.2.2.2.2.1).step bb, (F9.out.2.2.2.2.2.1).step bb, (F9.out.2.2.2.2.2.2).trans (bb.mono (F9.out.2.2.2.2.2.2).size)⟩
 clear F9
 clear bb
 clear l5_0 a5_0_0 f5_0_0 a5_0_1 f5_0_1 a5_0_2 f5_0_2 l5_1 a5_1_0 f5_1_0 a5_1_1 f5_1_1 a5_1_2 f5_1_2 l5_2 a5_2_0 f5_2_0 a5_2_1 f5_2_1 a5_2_2 f5_2_2 l5_3 a5_3_0 f5_3_0 a5_3_1 f5_3_1 a5_3_2 f5_3_2 l5_4 a5_4_0 f5_4_0 a5_4_1 f5_4_1 a5_4_2 f5_4_2 l5_5 a5_5_0 f5_5_0 a5_5_1 f5_5_1 a5_5_2 f5_5_2
 have l6_0 := F10.out.1.lt
 have a6_0_0 := F10.out.1.cell 0 _ rfl
 have f6_0_0 := F10.out.1.fz 0
 have a6_0_1 := F10.out.1.cell 1 _ rfl
 have f6_0_1 := F10.out.1.fz 1
 have a6_0_2 := F10.out.1.cell 2 _ rfl
 have f6_0_2 := F10.out.1.fz 2
 have l6_1 := F10.out.2.1.lt
 have a6_1_0 := F10.out.2.1.cell 0 _ rfl
 have f6_1_0 := F10.out.2.1.fz 0
 have a6_1_1 := F10.out.2.1.cell 1 _ rfl
 have f6_1_1 := F10.out.2.1.fz 1
 have a6_1_2 := F10.out.2.1.cell 2 _ rfl
 have f6_1_2 := F10.out.2.1.fz 2
 have l6_2 := F10.out.2.2.1.lt
 have a6_2_0 := F10.out.2.2.1.cell 0 _ rfl
 have f6_2_0 := F10.out.2.2.1.fz 0
 have a6_2_1 := F10.out.2.2.1.cell 1 _ rfl
 have f6_2_1 := F10.out.2.2.1.fz 1
 have a6_2_2 := F10.out.2.2.1.cell 2 _ rfl
 have f6_2_2 := F10.out.2.2.1.fz 2
 have l6_3 := F10.out.2.2.2.1.lt
 have a6_3_0 := F10.out.2.2.2.1.cell 0 _ rfl
 have f6_3_0 := F10.out.2.2.2.1.fz 0
 have a6_3_1 := F10.out.2.2.2.1.cell 1 _ rfl
 have f6_3_1 := F10.out.2.2.2.1.fz 1
 have a6_3_2 := F10.out.2.2.2.1.cell 2 _ rfl
 have f6_3_2 := F10.out.2.2.2.1.fz 2
 have l6_4 := F10.out.2.2.2.2.1.lt
 have a6_4_0 := F10.out.2.2.2.2.1.cell 0 _ rfl
 have f6_4_0 := F10.out.2.2.2.2.1.fz 0
 have a6_4_1 := F10.out.2.2.2.2.1.cell 1 _ rfl
 have f6_4_1 := F10.out.2.2.2.2.1.fz 1
 have a6_4_2 := F10.out.2.2.2.2.1.cell 2 _ rfl
 have f6_4_2 := F10.out.2.2.2.2.1.fz 2
 have l6_5 := F10.out.2.2.2.2.2.1.lt
 have a6_5_0 := F10.out.2.2.2.2.2.1.cell 0 _ rfl
 have f6_5_0 := F10.out.2.2.2.2.2.1.fz 0
 have a6_5_1 := F10.out.2.2.2.2.2.1.cell 1 _ rfl
 have f6_5_1 := F10.out.2.2.2.2.2.1.fz 1
 have a6_5_2 := F10.out.2.2.2.2.2.1.cell 2 _ rfl
 have f6_5_2 := F10.out.2.2.2.2.2.1.fz 2
 have ne6_0_1 : ¬ w1.heap.size = w3.heap.size := by omega
 have ne6_0_2 : ¬ w1.heap.size = w5.heap.size := by omega
 have ne6_0_3 : ¬ w1.heap.size = w5.heap.size + 1 := by omega
 have ne6_0_4 : ¬ w1.heap.size = w7.heap.size := by omega
 have ne6_0_5 : ¬ w1.heap.size = w7.heap.size + 1 := by omega
 have ne6_1_0 : ¬ w3.heap.size = w1.heap.size := by omega
 have ne6_1_2 : ¬ w3.heap.size = w5.heap.size := by omega
 have ne6_1_3 : ¬ w3.heap.size = w5.heap.size + 1 := by omega
 have ne6_1_4 : ¬ w3.heap.size = w7.heap.size := by omega
 have ne6_1_5 : ¬ w3.heap.size = w7.heap.size + 1 := by omega
 have ne6_2_0 : ¬ w5.heap.size = w1.heap.size := by omega
 have ne6_2_1 : ¬ w5.heap.size = w3.heap.size := by omega
 have ne6_2_3 : ¬ w5.heap.size = w5.heap.size + 1 := by omega
 have ne6_2_4 : ¬ w5.heap.size = w7.heap.size := by omega
 have ne6_2_5 : ¬ w5.heap.size = w7.heap.size + 1 := by omega
 have ne6_3_0 : ¬ w5.heap.size + 1 = w1.heap.size := by omega
 have ne6_3_1 : ¬ w5.heap.size + 1 = w3.heap.size := by omega
 have ne6_3_2 : ¬ w5.heap.size + 1 = w5.heap.size := by omega
 have ne6_3_4 : ¬ w5.heap.size + 1 = w7.heap.size := by omega
 have ne6_3_5 : ¬ w5.heap.size + 1 = w7.heap.size + 1 := by omega
 have ne6_4_0 : ¬ w7.heap.size = w1.heap.size := by omega
 have ne6_4_1 : ¬ w7.heap.size = w3.heap.size := by omega
 have ne6_4_2 : ¬ w7.heap.size = w5.heap.size := by omega
 have ne6_4_3 : ¬ w7.heap.size = w5.heap.size + 1 := by omega
 have ne6_4_5 : ¬ w7.heap.size = w7.heap.size + 1 := by omega
 have ne6_5_0 : ¬ w7.heap.size + 1 = w1.heap.size := by omega
 have ne6_5_1 : ¬ w7.heap.size + 1 = w3.heap.size := by omega
 have ne6_5_2 : ¬ w7.heap.size + 1 = w5.heap.size := by omega
 have ne6_5_3 : ¬ w7.heap.size + 1 = w5.heap.size + 1 := by omega
 have ne6_5_4 : ¬ w7.heap.size + 1 = w7.heap.size := by omega
 go_wp2_with fail
 all_goals first | (exfalso; omega) | skip
 refine (sure19 _).mono ?_
 rintro o11 w11 ⟨rfl, bb⟩
 have F11 : Hid (Bk w11 (w1.heap.size) [.string s1, .int .i64 p1, .bool false] ∧ Bk w11 (w3.heap.size) [.string s1, .int .i64 p1, .bool false] ∧ Bk w11 (w5.heap.size) [.string s2, .int .i64 p2, .bool false] ∧ Bk w11 (w5.heap.size + 1) [.string s3, .int .i64 p3, .bool false] ∧ Bk w11 (w7.heap.size) [.string s2, .int .i64 p2, .bool false] ∧ Bk w11 (w7.heap.size + 1) [.string s3, .int .i64 p3, .bool false] ∧ Below w.heap.size w w11) := ⟨(F10.out.1).step bb, (F10.out.2.1).step bb, (F10.out.2.2.1).step bb, (F10.out.2.2.2.1).step bb, (F10.out.2.2.2.2.1).step bb, (F10.out.2.2.2.2.2.1).step bb, (F10.out.2.2.2.2.2.2).trans (bb.mono (F10.out.2.2.2.2.2.2).size)⟩
 clear F10
 clear bb
 go_wp2
 go_ret
 exact ⟨rfl, F11.out.2.2.2.2.2.2⟩
theorem law_exacts (b : Nat) (hb : b < 18446744073709551616) (z : Int) (w : World) (hE : ErrT w) :
 Calls Tryz.prog 3 #[.int .u64 (b : Int), .int .i64 z] w fun x w' => x = .returned (.bool true) ∧ Below w.heap.size w w' := by
 rcases kinds b z hb with ⟨n, h⟩ | ⟨f, T, L, S, I, h⟩
 · have n0 := h.not0
   exact exacts_walk (fun W => ex_err (fun W => fin_bad h W) W) (fun W => rex_err n0 (fun W => chk_bad h W) W) (fun W => bd_err (fun W => span_err (fun W => fin_bad h W) W) W) (fun W => rbd_err n0 (fun W => chk_bad h W) W) (fun W g => num_errno n W g) (fun W g => num_errno n W g) w hE
 · obtain ⟨⟨s, p, D⟩, ⟨t, q, E⟩, u, o, G⟩ := Fn.has h
   exact exacts_walk (fun W => ex_is h G W) (fun W => rex_is h G W) (fun W => bd_is h D E W) (fun W => rbd_is h D E W) (fun W _ => num_nil W) (fun W _ => num_nil W) w hE
end Go.Proofs.YtdfefjcobeopbaaGreatDoor
