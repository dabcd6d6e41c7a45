/-
  Holds: IvO LawIvB.
-/
import Derived.Test.YtdfefjcobeopbaaGreatDoorRows
import Derived.Laws.Externs
import Derived.WalkKit
import Derived.WalkSpells
import Derived.WalkLawsBesides
import Derived.Lib.Mul64
import Derived.Stop.Asserts
import Derived.RowKitTokens
import Derived.Lib.Strings
import Derived.Lib.BufferWrite
import Derived.Deep.OwnRows
import Derived.Deep.RegionHeld3
import Derived.BigQuiet
import Derived.Lib.ConvBytes
import Derived.Laws.CopyOwn
import Derived.Lib.TrailingZeros
import Derived.Lib.ItoaNum
import Derived.Deep.LoopGhost
import Derived.Deep.AppendLies
import Derived.Deep.DeepCutAuto
import Derived.Test.YtdfefjcobeopbaaGreatDoorKb25
import Derived.Test.YtdfefjcobeopbaaGreatDoorKb29
import Derived.Test.YtdfefjcobeopbaaGreatDoorKb30
set_option maxRecDepth 100000
set_option maxHeartbeats 4000000
namespace Go.Proofs.YtdfefjcobeopbaaGreatDoor
open Go.RowKit
theorem rck_no {b : Nat} {z : Int} (h : Sn z) (w : World) : Calls Tryz.prog 41 #[.int .u64 (b : Int), .int .i64 z] w fun e w' => e = .returned (.int .i64 5) ∧ Below w.heap.size w w' := toB' (fun W => rcheck_no h _ W) w
theorem rck_any {z : Int} {f T : Nat} {L : Int} {S I b : Nat} (h : Sf z f T L S I) (hb : b < 2 * S) (w : World) :
 Calls Tryz.prog 41 #[.int .u64 (b : Int), .int .i64 z] w fun e w' => e = .returned (.int .i64 0) ∧ Below w.heap.size w w' := by
 rcases h with ⟨rfl, rfl, rfl, rfl, rfl, rfl⟩ | ⟨rfl, rfl, rfl, rfl, rfl, rfl⟩
 · exact toB' (fun W => rcheck_32 (by omega) W) w
 · exact toB' (fun W => rcheck_64 _ W) w
theorem rof_any {z : Int} {f T : Nat} {L : Int} {S I b : Nat} (h : Sf z f T L S I) (hb : b < 2 * S) (w : World) :
    Calls Tryz.prog 42 #[.int .u64 (b : Int), .int .i64 z] w fun e w' => e = .returned (.int .i64 (cl I (mg S b))) ∧ Below w.heap.size w w' := by
  rcases h with ⟨rfl, rfl, rfl, rfl, rfl, rfl⟩ | ⟨rfl, rfl, rfl, rfl, rfl, rfl⟩
  · exact toB' (fun W => rof_32 (by omega) W) w
  · exact toB' (fun W => rof_64 (by omega) W) w
theorem rpa_any {z : Int} {f T : Nat} {L : Int} {S I b : Nat} (h : Sf z f T L S I) (hb : b < 2 * S) (w : World) :
 Calls Tryz.prog 18 #[.int .u64 (b : Int), .int .i64 z] w fun e w' => e = .returned (.tuple #[.int .u64 ((mt f (mg S b) : Nat) : Int), .int .i64 (xp f L (mg S b))]) ∧ Below w.heap.size w w' := by
 rcases h with ⟨rfl, rfl, rfl, rfl, rfl, rfl⟩ | ⟨rfl, rfl, rfl, rfl, rfl, rfl⟩
 · exact toB' (fun W => rparts_32 (by omega) W) w
 · exact toB' (fun W => rparts_64 (by omega) W) w
theorem rmg_any {z : Int} {f T : Nat} {L : Int} {S I b : Nat} (h : Sf z f T L S I) (hb : b < 2 * S) (w : World) :
 Calls Tryz.prog 24 #[.int .u64 (b : Int), .int .i64 z] w fun e w' => e = .returned (.int .u64 ((mg S b : Nat) : Int)) ∧ Below w.heap.size w w' := by
 rcases h with ⟨rfl, rfl, rfl, rfl, rfl, rfl⟩ | ⟨rfl, rfl, rfl, rfl, rfl, rfl⟩
 · exact toB' (fun W => rmag_32 (by omega) W) w
 · exact toB' (fun W => rmag_64 (by omega) W) w
theorem chk_bad {b : Nat} {z n : Int} (h : Bad b z n) (w : World) :
 Calls Tryz.prog 17 #[.int .u64 (b : Int), .int .i64 z] w fun e w' => e = .returned (.int .i64 n) ∧ Below w.heap.size w w' := by
 rcases h with ⟨h, rfl⟩ | ⟨rfl, h, rfl⟩ | ⟨f, T, L, S, I, h, hb, hi, rfl⟩
 · exact chk_err rfl (fun W => rck_no h W) w
 · exact chk_err rfl (fun W => toB' (fun W => rcheck_big h W) W) w
 · have i1 := h.fs.2.2.2.2.2.1
   refine chk_not ?_ (fun W => rck_any h hb W) (fun W => rof_any h hb W) w
   rcases cl_cases I (mg S b) with q | q | q | q <;> omega
theorem chk_is {z : Int} {f T : Nat} {L : Int} {S I b : Nat} (h : Fn z f T L S I b) (w : World) : Calls Tryz.prog 17 #[.int .u64 (b : Int), .int .i64 z] w fun e w' => e = .returned (.int .i64 0) ∧ Below w.heap.size w w' := by
 refine chk_ok ?_ (fun W => rck_any h.sf h.lt W) (fun W => rof_any h.sf h.lt W) w
 have := h.fin
 rcases cl_cases I (mg S b) with q | q | q | q <;> omega
theorem rex_is {z : Int} {f T : Nat} {L : Int} {S I b : Nat} (h : Fn z f T L S I b) {s : ByteArray} {p : Int} (D : Dx s p (vlF f L (mg S b))) (w : World) :
 Calls Tryz.prog 6 #[.int .u64 (b : Int), .int .i64 z] w fun e w' => e = .returned (.tuple #[dcV s p false, .int .i64 0]) ∧ Below w.heap.size w w' := by
 have fs := h.sf.fs.1
 have x := xp_in fs h.m
 have m := mt_lt fs (mg S b)
 refine rex_ok (by omega) (fun W => chk_is h W) (fun W => rpa_any h.sf h.lt W) (fun W v hv => rdec_any (by omega) (by omega) (by omega) ?_ D hv) w
 by_cases m0 : mg S b = 0
 · right
   rw [m0, (xp_one fs.one L).2.1]
   rcases fs with ⟨_, _, rfl⟩ | ⟨_, _, rfl⟩ <;> omega
 · exact Or.inl (mt_some m0)
theorem mg_even {z : Int} {f T : Nat} {L : Int} {S I b : Nat} (h : Fn z f T L S I b) : decide (mg S b % 2 = 0) = decide (b % 2 = 0) := by
 have e := h.sf.fs.2.2.2.2.1
 obtain ⟨k, rfl⟩ : ∃ k, S = 2 * k := ⟨S / 2, by omega⟩
 unfold mg
 rw [Nat.mod_mul_right_mod]
theorem rbd_is {z : Int} {f T : Nat} {L : Int} {S I b : Nat} (h : Fn z f T L S I b) {s t : ByteArray} {p q : Int} (D : Dx s p (loF f L (mg S b))) (E : Dx t q (hiF f L (mg S b))) (w : World) :
 Calls Tryz.prog 8 #[.int .u64 (b : Int), .int .i64 z] w fun e w' => e = .returned (.tuple #[dcV s p false, dcV t q false, .bool (decide (b % 2 = 0)), .int .i64 0]) ∧ Below w.heap.size w w' := by
 have fs := h.sf.fs.1
 have x := xp_in fs h.m
 have m := mt_lt fs (mg S b)
 have HD : ∀ W v, Big.D.NatV W v (2 * mt f (mg S b) + 1) → Calls Tryz.prog 19 #[v, .int .i64 (xp f L (mg S b) - 1)] W fun e w' => e = .returned (dcV t q false) ∧ Below W.heap.size W w' :=
  fun W v hv => rdec_any (by omega) (by omega) (by omega) (by omega) E hv
 have MG := fun W => rmg_any h.sf h.lt W
 rw [← mg_even h]
 by_cases m0 : mg S b = 0
 · rw [m0] at D
   obtain ⟨rfl, rfl⟩ := Dx.uniq D dx_nought
   rw [show ((mg S b : Nat) : Int) = 0 by rw [m0]; rfl] at MG
   rw [show decide (mg S b % 2 = 0) = true by rw [m0]; rfl]
   exact rbd_zero (by omega) (by omega) (by omega) (fun W => chk_is h W) (fun W => rpa_any h.sf h.lt W) HD MG w
 · obtain ⟨_, _, s2, hS, _, _, hIS⟩ := h.sf.fs
   have fin := h.fin
   obtain ⟨k, e⟩ : ∃ k, mg S b = k + 1 := ⟨mg S b - 1, by omega⟩
   have hm := h.m
   rw [e] at hm D x MG m0 HD ⊢
   have x2 := xp_in fs (m := k) (by omega)
   have m2 := mt_lt fs k
   have mo := xp_mono f L k
   have P2 := fun W => rpa_any (b := k) h.sf (by omega) W
   have gk : mg S k = k := Nat.mod_eq_of_lt (by omega)
   rw [gk] at P2
   have e1 : ((k + 1 : Nat) : Int) - 1 = (k : Int) := by omega
   have P1 := fun W => rpa_any h.sf h.lt W
   rw [e] at P1
   exact rbd_ok (m2 := mt f k) (M := k + 1) (D := (xp f L (k + 1) - xp f L k).toNat) (E2 := xp f L k) (by rw [← e]; omega) (by omega) (by omega) (by omega) (by omega) (by omega) (by omega) (by omega) (by omega) (by omega) (fun W => chk_is h W) P1 HD MG (fun W => by rw [e1]; exact P2 W)
    (fun W v hv => by rw [low_doc] at hv; exact rdec_any (by omega) (by omega) (by omega) (by omega) D hv) w
theorem rin_is {z : Int} {f T : Nat} {L : Int} {S I b : Nat} (h : Fn z f T L S I b) {s t : ByteArray} {p q : Int} (D : Dx s p (loF f L (mg S b))) (E : Dx t q (hiF f L (mg S b))) {u : ByteArray} {o : Int} (hu : VD u o false) (w : World) :
 Calls Tryz.prog 12 #[dcV u o false, .int .u64 (b : Int), .int .i64 z] w fun e w' => e = .returned (.tuple #[.bool (inB (decide (b % 2 = 0)) (lowF u o s p) (lowF u o t q)), .int .i64 0]) ∧ Below w.heap.size w w' := by
 by_cases u0 : u.size = 0
 · have t0 : ¬ t.size = 0 := by
    have := E.pos.2 (Nat.lt_of_le_of_lt (Nat.zero_le _) (vl_hi h.sf.fs.1 h.m))
    omega
   rw [lowF_left o q u0 t0]
   refine rin_zero (r := inB (decide (b % 2 = 0)) (lowF u o s p) (-1)) (by omega) ?_ (fun W => rbd_is h D E W) (fun W => rvald_yes hu W) w
   by_cases s0 : s.size = 0
   · rw [lowF_none o p u0 s0]
     have m0 : mg S b = 0 := by
      apply Nat.eq_zero_of_not_pos
      intro c
      have l0 := D.pos
      have : 0 < loF f L (mg S b) := by
       obtain ⟨k, e⟩ : ∃ k, mg S b = k + 1 := ⟨mg S b - 1, by omega⟩
       have hm := h.m
       rw [e] at hm ⊢
       exact Nat.lt_of_le_of_lt (Nat.zero_le _) (vl_hi h.sf.fs.1 (m := k) (by omega))
      omega
     have ev := mg_even h
     rw [m0] at ev
     rw [← ev, show ((s.size : Int) == 0) = true by rw [s0]; rfl]
     rfl
   · rw [lowF_left o p u0 s0, show ((s.size : Int) == 0) = false from beq_eq_false_iff_ne.mpr (by omega)]
     cases decide (b % 2 = 0) <;> rfl
 · have e := lowF_flip u o s p
   rw [e]
   exact rin_ok (beq_eq_false_iff_ne.mpr (by omega)) (fun W => rbd_is h D E W) (fun W => rvald_yes hu W) (fun W => within_any (fun W => rcmp_is D.vd hu W) (fun W => rcmp_is hu E.vd W) W) w
theorem rin_none {z : Int} {f T : Nat} {L : Int} {S I b : Nat} (h : Fn z f T L S I b) {s t : ByteArray} {p q : Int} (D : Dx s p (loF f L (mg S b))) (E : Dx t q (hiF f L (mg S b))) {u : ByteArray} {o : Int} {d : Bool} (hs : u.size ≤ 9223372036854775807) (hu : ¬ (VD u o d ∧ d = false)) (w : World) :
 Calls Tryz.prog 12 #[dcV u o d, .int .u64 (b : Int), .int .i64 z] w fun e w' => e = .returned (.tuple #[.bool false, .int .i64 1]) ∧ Below w.heap.size w w' := by
 by_cases c : VD u o d
 · cases d with
   | true => exact rin_cut (fun W => rbd_is h D E W) (fun W => rvald_yes c W) w
   | false => exact absurd ⟨c, rfl⟩ hu
 · exact rin_bad (fun W => rbd_is h D E W) (fun W => rvald_no hs c W) w
theorem rbt_is {z : Int} {f T : Nat} {L : Int} {S I b : Nat} (h : Fn z f T L S I b) {s t : ByteArray} {p q : Int} (D : Dx s p (loF f L (mg S b))) (E : Dx t q (hiF f L (mg S b))) {n : Nat} (m0 : mg S b ≠ 0) (n0 : 0 < n) (hn : n ≤ 17) {u : ByteArray} {o : Int} {u1 u2 : ByteArray} {o2 : Int} {Y Z : Nat} (G : Dx u o (vlF f L (mg S b))) (u0 : 0 < u.size) (o1 : o ≤ 1000) (du : Du u o n u1 u2 o2) (D1 : Dx u1 o Y) (D2 : Dx u2 o2 Z) (w : World) :
    Calls Tryz.prog 14 #[.int .u64 (b : Int), .int .i64 z, .int .i64 (n : Int)] w fun e w' => e = .returned (.tuple #[.bool (inB (decide (b % 2 = 0)) (lowF u1 o s p) (lowF u1 o t q) || inB (decide (b % 2 = 0)) (lowF u2 o2 s p) (lowF u2 o2 t q)), .int .i64 0]) ∧ Below w.heap.size w w' := by
  obtain ⟨dn, up⟩ := du_doc (G.vn u0) o1 n0 hn du
  have N := fun W => near_ok (fun W => rex_is h G W) dn up (fun W => rin_is h D E D1.vd W) (fun W => rin_is h D E D2.vd W) W
  have M0 : (((mg S b : Nat) : Int) == 0) = false := beq_eq_false_iff_ne.mpr (by omega)
  cases r : inB (decide (b % 2 = 0)) (lowF u1 o s p) (lowF u1 o t q) with
  | true =>
    rw [r] at N
    rw [Bool.true_or]
    exact rbt_yes (by omega) (by omega) M0 (fun W => chk_is h W) (fun W => rmg_any h.sf h.lt W) N w
  | false =>
    rw [r] at N
    rw [Bool.false_or]
    exact rbt_no (by omega) (by omega) M0 (fun W => chk_is h W) (fun W => rmg_any h.sf h.lt W) N w
theorem rbt_none {z : Int} {f T : Nat} {L : Int} {S I b : Nat} (h : Fn z f T L S I b) {n : Int} (hn : n < 1 ∨ 17 < n ∨ mg S b = 0) (w : World) :
 Calls Tryz.prog 14 #[.int .u64 (b : Int), .int .i64 z, .int .i64 n] w fun e w' => e = .returned (.tuple #[.bool false, .int .i64 1]) ∧ Below w.heap.size w w' := by
 by_cases c1 : n < 1
 · exact rbt_low c1 (fun W => chk_is h W) w
 · by_cases c2 : 17 < n
   · exact rbt_high c1 c2 (fun W => chk_is h W) w
   · have m0 : mg S b = 0 := by omega
     have MG := fun W => rmg_any h.sf h.lt W
     rw [show ((mg S b : Nat) : Int) = 0 by rw [m0]; rfl] at MG
     exact rbt_mag c1 c2 (fun W => chk_is h W) MG w
theorem ins_walk {b z : Int} {u : ByteArray} {o n1 n2 : Int} {d r1 r2 : Bool} {E1 E2 : Value} (HI : ∀ W, Calls Tryz.prog 11 #[.agg #[.string u, .int .i64 o, .bool d], .int .u64 b, .int .i64 z] W fun e w' => e = .returned (.tuple #[.bool r1, E1]) ∧ Below W.heap.size W w') (HR : ∀ W, Calls Tryz.prog 12 #[.agg #[.string u, .int .i64 o, .bool d], .int .u64 b, .int .i64 z] W fun e w' => e = .returned (.tuple #[.bool r1, .int .i64 n1]) ∧ Below W.heap.size W w') (HB : ∀ W, Calls Tryz.prog 13 #[.int .u64 b, .int .i64 z, .int .i64 (u.size : Int)] W fun e w' => e = .returned (.tuple #[.bool r2, E2]) ∧ Below W.heap.size W w') (HQ : ∀ W, Calls Tryz.prog 14 #[.int .u64 b, .int .i64 z, .int .i64 (u.size : Int)] W fun e w' => e = .returned (.tuple #[.bool r2, .int .i64 n2]) ∧ Below W.heap.size W w') (N1 : ∀ W, ErrT W → Calls Tryz.prog 9 #[E1] W fun e w' => e = .returned (.int .i64 n1) ∧ Below W.heap.size W w') (N2 : ∀ W, ErrT W → Calls Tryz.prog 9 #[E2] W fun e w' => e = .returned (.int .i64 n2) ∧ Below W.heap.size W w') (w : World) (hE : ErrT w) :
 Calls Tryz.prog 4 #[.agg #[.string u, .int .i64 o, .bool d], .int .u64 b, .int .i64 z] w fun x w' => x = .returned (.bool true) ∧ Below w.heap.size w w' := by
 have HG : Hid (ErrT w) := hE
 clear hE
 have F0 : Hid (Bk (w.alloc (.cells #[.string u, .int .i64 o, .bool d] 24)) (w.heap.size) [.string u, .int .i64 o, .bool d] ∧ Below w.heap.size w (w.alloc (.cells #[.string u, .int .i64 o, .bool d] 24))) := ⟨Bk.new3 w (.string u) (.int .i64 o) (.bool d) 24, ((Below.refl w.heap.size w)).alloc (Nat.le_refl _) _⟩
 go_enter Tryz.func4, Tryz.ntmps4
 go_upto_region 1 with fail
 generalize (w.alloc (.cells #[.string u, .int .i64 o, .bool d] 24)) = w1 at *
 have l1_0 := F0.out.1.lt
 have a1_0_0 := F0.out.1.cell 0 _ rfl
 have f1_0_0 := F0.out.1.fz 0
 have a1_0_1 := F0.out.1.cell 1 _ rfl
 have f1_0_1 := F0.out.1.fz 1
 have a1_0_2 := F0.out.1.cell 2 _ rfl
 have f1_0_2 := F0.out.1.fz 2
 go_wp2_with fail
 all_goals first | (exfalso; omega) | skip
 refine (HI _).mono ?_
 rintro o2 w2 ⟨rfl, bb⟩
 have F1 : Hid (Bk w2 (w.heap.size) [.string u, .int .i64 o, .bool d] ∧ Below w.heap.size w w2) := ⟨(F0.out.1).step bb, (F0.out.2).trans (bb.mono (F0.out.2).size)⟩
 clear F0
 clear bb
 clear l1_0 a1_0_0 f1_0_0 a1_0_1 f1_0_1 a1_0_2 f1_0_2
 have l2_0 := F1.out.1.lt
 have a2_0_0 := F1.out.1.cell 0 _ rfl
 have f2_0_0 := F1.out.1.fz 0
 have a2_0_1 := F1.out.1.cell 1 _ rfl
 have f2_0_1 := F1.out.1.fz 1
 have a2_0_2 := F1.out.1.cell 2 _ rfl
 have f2_0_2 := F1.out.1.fz 2
 go_wp2_with fail
 all_goals first | (exfalso; omega) | skip
 refine (HR _).mono ?_
 rintro o3 w3 ⟨rfl, bb⟩
 have F2 : Hid (Bk w3 (w.heap.size) [.string u, .int .i64 o, .bool d] ∧ Below w.heap.size w w3) := ⟨(F1.out.1).step bb, (F1.out.2).trans (bb.mono (F1.out.2).size)⟩
 clear F1
 clear bb
 clear l2_0 a2_0_0 f2_0_0 a2_0_1 f2_0_1 a2_0_2 f2_0_2
 have l3_0 := F2.out.1.lt
 have a3_0_0 := F2.out.1.cell 0 _ rfl
 have f3_0_0 := F2.out.1.fz 0
 have a3_0_1 := F2.out.1.cell 1 _ rfl
 have f3_0_1 := F2.out.1.fz 1
 have a3_0_2 := F2.out.1.cell 2 _ rfl
 have f3_0_2 := F2.out.1.fz 2
 go_wp2_with fail
 all_goals first | (exfalso; omega) | skip
 refine (HB _).mono ?_
 rintro o4 w4 ⟨rfl, bb⟩
 have F3 : Hid (Bk w4 (w.heap.size) [.string u, .int .i64 o, .bool d] ∧ Below w.heap.size w w4) := ⟨(F2.out.1).step bb, (F2.out.2).trans (bb.mono (F2.out.2).size)⟩
 clear F2
 clear bb
 go_wp2_with fail
 all_goals first | (exfalso; omega) | skip
 refine (HQ _).mono ?_
 rintro o5 w5 ⟨rfl, bb⟩
 have F4 : Hid (Bk w5 (w.heap.size) [.string u, .int .i64 o, .bool d] ∧ Below w.heap.size w w5) := ⟨(F3.out.1).step bb, (F3.out.2).trans (bb.mono (F3.out.2).size)⟩
 clear F3
 clear bb
 go_wp2_with fail
 all_goals first | (exfalso; omega) | skip
 refine (N1 _ (HG.out.below (F4.out.2) HG.out.pos)).mono ?_
 rintro o6 w6 ⟨rfl, bb⟩
 have F5 : Hid (Bk w6 (w.heap.size) [.string u, .int .i64 o, .bool d] ∧ Below w.heap.size w w6) := ⟨(F4.out.1).step bb, (F4.out.2).trans (bb.mono (F4.out.2).size)⟩
 clear F4
 clear bb
 go_wp2_with fail
 all_goals first | (exfalso; omega) | skip
 refine (N2 _ (HG.out.below (F5.out.2) HG.out.pos)).mono ?_
 rintro o7 w7 ⟨rfl, bb⟩
 have F6 : Hid (Bk w7 (w.heap.size) [.string u, .int .i64 o, .bool d] ∧ Below w.heap.size w w7) := ⟨(F5.out.1).step bb, (F5.out.2).trans (bb.mono (F5.out.2).size)⟩
 clear F5
 clear bb
 go_wp2_with fail
 all_goals first | (exfalso; omega) | skip
 refine (sure19 _).mono ?_
 rintro o8 w8 ⟨rfl, bb⟩
 have F7 : Hid (Bk w8 (w.heap.size) [.string u, .int .i64 o, .bool d] ∧ Below w.heap.size w w8) := ⟨(F6.out.1).step bb, (F6.out.2).trans (bb.mono (F6.out.2).size)⟩
 clear F6
 clear bb
 go_wp2
 go_ret
 exact ⟨rfl, F7.out.2⟩
theorem law_ins (u : ByteArray) (o : Int) (d : Bool) (hu : u.size ≤ 9223372036854775807) (b : Nat) (hb : b < 18446744073709551616) (z : Int) (w : World) (hE : ErrT w) :
 Calls Tryz.prog 4 #[dcV u o d, .int .u64 (b : Int), .int .i64 z] w fun x w' => x = .returned (.bool true) ∧ Below w.heap.size w w' := by
 rcases kinds b z hb with ⟨n, h⟩ | ⟨f, T, L, S, I, h⟩
 · have n0 := h.not0
   have SE := fun W => span_err (fun W => fin_bad h W) W
   exact ins_walk (fun W => in_err SE W) (fun W => rin_err n0 (fun W => rbd_err n0 (fun W => chk_bad h W) W) W) (fun W => bt_err SE W) (fun W => rbt_err n0 (fun W => chk_bad h W) W) (fun W g => num_errno n W g) (fun W g => num_errno n W g) w hE
 · obtain ⟨⟨s, p, D⟩, ⟨t, q, E⟩, _⟩ := Fn.has h
   by_cases hn : (u.size : Int) < 1 ∨ 17 < (u.size : Int) ∨ mg S b = 0
   · have H1 := fun W => bt_none h D E hn W
     have H2 := fun W => rbt_none h hn W
     by_cases hv : VD u o d ∧ d = false
     · obtain ⟨hv, rfl⟩ := hv
       exact ins_walk (fun W => in_is h D E hv W) (fun W => rin_is h D E hv W) H1 H2 (fun W _ => num_nil W) (fun W g => num_errno 1 W g) w hE
     · exact ins_walk (fun W => in_none h D E hu hv W) (fun W => rin_none h D E hu hv W) H1 H2 (fun W g => num_errno 1 W g) (fun W g => num_errno 1 W g) w hE
   · have m0 : mg S b ≠ 0 := by omega
     obtain ⟨x, y, u1, u2, o2, A, G, u0, o1, _, du, D1, D2, _, _, _⟩ := du_has h m0 (n := u.size) (by omega) (by omega)
     have H1 := fun W => bt_is h D E (n := u.size) (by omega) (by omega) G u0 o1 du D1 D2 W
     have H2 := fun W => rbt_is h D E (n := u.size) m0 (by omega) (by omega) G u0 o1 du D1 D2 W
     by_cases hv : VD u o d ∧ d = false
     · obtain ⟨hv, rfl⟩ := hv
       exact ins_walk (fun W => in_is h D E hv W) (fun W => rin_is h D E hv W) H1 H2 (fun W _ => num_nil W) (fun W _ => num_nil W) w hE
     · exact ins_walk (fun W => in_none h D E hu hv W) (fun W => rin_none h D E hu hv W) H1 H2 (fun W g => num_errno 1 W g) (fun W _ => num_nil W) w hE
end Go.Proofs.YtdfefjcobeopbaaGreatDoor
