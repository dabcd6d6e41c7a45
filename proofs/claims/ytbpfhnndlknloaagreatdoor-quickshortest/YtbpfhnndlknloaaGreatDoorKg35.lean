/-
  Holds: IvO QkDb LawQk LawQkA.
-/
import Derived.Test.YtbpfhnndlknloaaGreatDoorRows
import Derived.Laws.Externs
import Derived.WalkKit
import Derived.WalkSpells
import Derived.WalkLawsBesides
import Derived.Lib.Mul64
import Derived.Stop.Asserts
import Derived.RowKitTokens
import Derived.Lib.Strings
import Derived.Lib.BufferWrite
import Derived.Deep.OwnRows
import Derived.Deep.RegionHeld3
import Derived.BigQuiet
import Derived.Lib.ConvBytes
import Derived.Laws.CopyOwn
import Derived.Lib.TrailingZeros
import Derived.Lib.ItoaNum
import Derived.Deep.LoopGhost
import Derived.Deep.AppendLies
import Derived.Deep.DeepCutAuto
import Derived.Test.YtbpfhnndlknloaaGreatDoorShelf
import Derived.Test.YtbpfhnndlknloaaGreatDoorKg33
import Derived.Test.YtbpfhnndlknloaaGreatDoorKg34
set_option maxRecDepth 100000
set_option maxHeartbeats 4000000
namespace Go.Proofs.YtbpfhnndlknloaaGreatDoor
open Go.RowKit
theorem rck_no {b : Nat} {z : Int} (h : Sn z) (w : World) : Calls Tryz.prog 17 #[.int .u64 (b : Int), .int .i64 z] w fun e w' => e = .returned (.int .i64 5) ∧ Below w.heap.size w w' := toB' (fun W => rcheck_no h _ W) w
theorem rck_any {z : Int} {f T : Nat} {L : Int} {S I b : Nat} (h : Sf z f T L S I) (hb : b < 2 * S) (w : World) :
 Calls Tryz.prog 17 #[.int .u64 (b : Int), .int .i64 z] w fun e w' => e = .returned (.int .i64 0) ∧ Below w.heap.size w w' := by
 rcases h with ⟨rfl, rfl, rfl, rfl, rfl, rfl⟩ | ⟨rfl, rfl, rfl, rfl, rfl, rfl⟩
 · exact toB' (fun W => rcheck_32 (by omega) W) w
 · exact toB' (fun W => rcheck_64 _ W) w
theorem rof_any {z : Int} {f T : Nat} {L : Int} {S I b : Nat} (h : Sf z f T L S I) (hb : b < 2 * S) (w : World) :
    Calls Tryz.prog 18 #[.int .u64 (b : Int), .int .i64 z] w fun e w' => e = .returned (.int .i64 (cl I (mg S b))) ∧ Below w.heap.size w w' := by
  rcases h with ⟨rfl, rfl, rfl, rfl, rfl, rfl⟩ | ⟨rfl, rfl, rfl, rfl, rfl, rfl⟩
  · exact toB' (fun W => rof_32 (by omega) W) w
  · exact toB' (fun W => rof_64 (by omega) W) w
theorem rpa_any {z : Int} {f T : Nat} {L : Int} {S I b : Nat} (h : Sf z f T L S I) (hb : b < 2 * S) (w : World) :
 Calls Tryz.prog 20 #[.int .u64 (b : Int), .int .i64 z] w fun e w' => e = .returned (.tuple #[.int .u64 ((mt f (mg S b) : Nat) : Int), .int .i64 (xp f L (mg S b))]) ∧ Below w.heap.size w w' := by
 rcases h with ⟨rfl, rfl, rfl, rfl, rfl, rfl⟩ | ⟨rfl, rfl, rfl, rfl, rfl, rfl⟩
 · exact toB' (fun W => rparts_32 (by omega) W) w
 · exact toB' (fun W => rparts_64 (by omega) W) w
theorem rmg_any {z : Int} {f T : Nat} {L : Int} {S I b : Nat} (h : Sf z f T L S I) (hb : b < 2 * S) (w : World) :
 Calls Tryz.prog 40 #[.int .u64 (b : Int), .int .i64 z] w fun e w' => e = .returned (.int .u64 ((mg S b : Nat) : Int)) ∧ Below w.heap.size w w' := by
 rcases h with ⟨rfl, rfl, rfl, rfl, rfl, rfl⟩ | ⟨rfl, rfl, rfl, rfl, rfl, rfl⟩
 · exact toB' (fun W => rmag_32 (by omega) W) w
 · exact toB' (fun W => rmag_64 (by omega) W) w
theorem chk_is {z : Int} {f T : Nat} {L : Int} {S I b : Nat} (h : Fn z f T L S I b) (w : World) : Calls Tryz.prog 48 #[.int .u64 (b : Int), .int .i64 z] w fun e w' => e = .returned (.int .i64 0) ∧ Below w.heap.size w w' := by
 refine chk_ok ?_ (fun W => rck_any h.sf h.lt W) (fun W => rof_any h.sf h.lt W) w
 have := h.fin
 rcases cl_cases I (mg S b) with q | q | q | q <;> omega
theorem rex_is {z : Int} {f T : Nat} {L : Int} {S I b : Nat} (h : Fn z f T L S I b) {s : ByteArray} {p : Int} (D : Dx s p (vlF f L (mg S b))) (w : World) :
 Calls Tryz.prog 21 #[.int .u64 (b : Int), .int .i64 z] w fun e w' => e = .returned (.tuple #[dcV s p false, .int .i64 0]) ∧ Below w.heap.size w w' := by
 have fs := h.sf.fs.1
 have x := xp_in fs h.m
 have m := mt_lt fs (mg S b)
 refine rex_ok (by omega) (fun W => chk_is h W) (fun W => rpa_any h.sf h.lt W) (fun W v hv => rdec_any (by omega) (by omega) (by omega) ?_ D hv) w
 by_cases m0 : mg S b = 0
 · right
   rw [m0, (xp_one fs.one L).2.1]
   rcases fs with ⟨_, _, rfl⟩ | ⟨_, _, rfl⟩ <;> omega
 · exact Or.inl (mt_some m0)
theorem mg_even {z : Int} {f T : Nat} {L : Int} {S I b : Nat} (h : Fn z f T L S I b) : decide (mg S b % 2 = 0) = decide (b % 2 = 0) := by
 have e := h.sf.fs.2.2.2.2.1
 obtain ⟨k, rfl⟩ : ∃ k, S = 2 * k := ⟨S / 2, by omega⟩
 unfold mg
 rw [Nat.mod_mul_right_mod]
theorem rbd_is {z : Int} {f T : Nat} {L : Int} {S I b : Nat} (h : Fn z f T L S I b) {s t : ByteArray} {p q : Int} (D : Dx s p (loF f L (mg S b))) (E : Dx t q (hiF f L (mg S b))) (w : World) :
 Calls Tryz.prog 90 #[.int .u64 (b : Int), .int .i64 z] w fun e w' => e = .returned (.tuple #[dcV s p false, dcV t q false, .bool (decide (b % 2 = 0)), .int .i64 0]) ∧ Below w.heap.size w w' := by
 have fs := h.sf.fs.1
 have x := xp_in fs h.m
 have m := mt_lt fs (mg S b)
 have HD : ∀ W v, Big.D.NatV W v (2 * mt f (mg S b) + 1) → Calls Tryz.prog 49 #[v, .int .i64 (xp f L (mg S b) - 1)] W fun e w' => e = .returned (dcV t q false) ∧ Below W.heap.size W w' :=
  fun W v hv => rdec_any (by omega) (by omega) (by omega) (by omega) E hv
 have MG := fun W => rmg_any h.sf h.lt W
 rw [← mg_even h]
 by_cases m0 : mg S b = 0
 · rw [m0] at D
   obtain ⟨rfl, rfl⟩ := Dx.uniq D dx_nought
   rw [show ((mg S b : Nat) : Int) = 0 by rw [m0]; rfl] at MG
   rw [show decide (mg S b % 2 = 0) = true by rw [m0]; rfl]
   exact rbd_zero (by omega) (by omega) (by omega) (fun W => chk_is h W) (fun W => rpa_any h.sf h.lt W) HD MG w
 · obtain ⟨_, _, s2, hS, _, _, hIS⟩ := h.sf.fs
   have fin := h.fin
   obtain ⟨k, e⟩ : ∃ k, mg S b = k + 1 := ⟨mg S b - 1, by omega⟩
   have hm := h.m
   rw [e] at hm D x MG m0 HD ⊢
   have x2 := xp_in fs (m := k) (by omega)
   have m2 := mt_lt fs k
   have mo := xp_mono f L k
   have P2 := fun W => rpa_any (b := k) h.sf (by omega) W
   have gk : mg S k = k := Nat.mod_eq_of_lt (by omega)
   rw [gk] at P2
   have e1 : ((k + 1 : Nat) : Int) - 1 = (k : Int) := by omega
   have P1 := fun W => rpa_any h.sf h.lt W
   rw [e] at P1
   exact rbd_ok (m2 := mt f k) (M := k + 1) (D := (xp f L (k + 1) - xp f L k).toNat) (E2 := xp f L k) (by rw [← e]; omega) (by omega) (by omega) (by omega) (by omega) (by omega) (by omega) (by omega) (by omega) (by omega) (fun W => chk_is h W) P1 HD MG (fun W => by rw [e1]; exact P2 W)
    (fun W v hv => by rw [low_doc] at hv; exact rdec_any (by omega) (by omega) (by omega) (by omega) D hv) w
theorem rin_is {z : Int} {f T : Nat} {L : Int} {S I b : Nat} (h : Fn z f T L S I b) {s t : ByteArray} {p q : Int} (D : Dx s p (loF f L (mg S b))) (E : Dx t q (hiF f L (mg S b))) {u : ByteArray} {o : Int} (hu : VD u o false) (w : World) :
 Calls Tryz.prog 53 #[dcV u o false, .int .u64 (b : Int), .int .i64 z] w fun e w' => e = .returned (.tuple #[.bool (inB (decide (b % 2 = 0)) (lowF u o s p) (lowF u o t q)), .int .i64 0]) ∧ Below w.heap.size w w' := by
 by_cases u0 : u.size = 0
 · have t0 : ¬ t.size = 0 := by
    have := E.pos.2 (Nat.lt_of_le_of_lt (Nat.zero_le _) (vl_hi h.sf.fs.1 h.m))
    omega
   rw [lowF_left o q u0 t0]
   refine rin_zero (r := inB (decide (b % 2 = 0)) (lowF u o s p) (-1)) (by omega) ?_ (fun W => rbd_is h D E W) (fun W => rvald_yes hu W) w
   by_cases s0 : s.size = 0
   · rw [lowF_none o p u0 s0]
     have m0 : mg S b = 0 := by
      apply Nat.eq_zero_of_not_pos
      intro c
      have l0 := D.pos
      have : 0 < loF f L (mg S b) := by
       obtain ⟨k, e⟩ : ∃ k, mg S b = k + 1 := ⟨mg S b - 1, by omega⟩
       have hm := h.m
       rw [e] at hm ⊢
       exact Nat.lt_of_le_of_lt (Nat.zero_le _) (vl_hi h.sf.fs.1 (m := k) (by omega))
      omega
     have ev := mg_even h
     rw [m0] at ev
     rw [← ev, show ((s.size : Int) == 0) = true by rw [s0]; rfl]
     rfl
   · rw [lowF_left o p u0 s0, show ((s.size : Int) == 0) = false from beq_eq_false_iff_ne.mpr (by omega)]
     cases decide (b % 2 = 0) <;> rfl
 · have e := lowF_flip u o s p
   rw [e]
   exact rin_ok (beq_eq_false_iff_ne.mpr (by omega)) (fun W => rbd_is h D E W) (fun W => rvald_yes hu W) (fun W => within_any (fun W => rcmp_is D.vd hu W) (fun W => rcmp_is hu E.vd W) W) w
theorem rround_off21 {s : ByteArray} {p : Int} {n : Int} (h : VD s p false) (n0 : ¬ n < 0) (n8 : ¬ 800 < n) (hn : (s.size : Int) ≤ n) (w : World) :
 Calls Tryz.prog 23 #[dcV s p false, .int .i64 n] w fun e w' => e = .returned (.tuple #[dcV s p false, .int .i64 0]) ∧ Below w.heap.size w w' := by
 have VV := fun W => rvald_yes h W
 clear h
 unfold dcV at *
 go_enter Tryz.func23, Tryz.ntmps23
 go_wp2_with fail
 refine (VV _).mono ?_
 rintro e w1 ⟨rfl, hb1⟩
 have HT1 : Hid (OneR w w1 s p false) := (OneR.start w s p false).step hb1
 clear hb1
 obtain ⟨_, _, a01, a11, a21, r01, r11, r21, fr1⟩ := HT1.out
 go_wp2
 refine bodyPost_ret (v := .tuple #[.agg #[.string s, .int .i64 p, .bool false], .int .i64 0]) (by simp [results, Tryz.results23, go_sem, *]) rfl ⟨rfl, ?_⟩
 exact (((HT1.out.bel.setCell (by simp) _).setCell (by simp) _).setCell (by simp) _)
theorem du_rround {s : ByteArray} {p : Int} {n : Nat} {s1 s2 : ByteArray} {p2 : Int} (g : VN s p false) (hp : p ≤ 1000) (n0 : 0 < n) (hn : n ≤ 17) (D : Du s p n s1 s2 p2) (W : World) :
    Calls Tryz.prog 23 #[dcV s p false, .int .i64 n] W fun e w' => e = .returned (.tuple #[if n < s.size ∧ upB s false n = true then dcV s2 p2 false else dcV s1 p false, .int .i64 0]) ∧ Below W.heap.size W w' := by
  have nf := vn_nf g
  have hl := g.len
  rcases D.way with ⟨c, e1, e2, e3⟩ | ⟨c, m, k, mz, m1, m2, m3, rfl, k1, k2, K⟩
  · rw [if_neg (fun z => by have := z.1; omega), e1]
    exact rround_off21 (Or.inr g) (by omega) (by omega) (by omega) W
  · have M1 : ∀ W, Calls Tryz.prog 55 #[dcV s p false, .int .i64 (n : Int), .bool false] W fun e w' => e = .returned (.tuple #[dcV (s.extract 0 m) p false, .int .i64 0]) ∧ Below W.heap.size W w' := fun W => made_dn hl g.dg nf.first n0 (Nat.le_of_lt c) m1 mz m2 m3 g.lo g.hi W
    have M2 : ∀ W, Calls Tryz.prog 55 #[dcV s p false, .int .i64 (n : Int), .bool true] W fun e w' => e = .returned (.tuple #[dcV s2 p2 false, .int .i64 0]) ∧ Below W.heap.size W w' := fun W => by
      rcases K with ⟨rfl, rfl, rfl⟩ | ⟨k0, d9, rfl, rfl⟩
      · exact made_un hl g.dg n0 (Nat.le_of_lt c) (fun i hi => k2 i (Nat.zero_le _) hi) g.lo (by omega) W
      · exact made_up hl g.dg nf.first n0 (Nat.le_of_lt c) k1 k0 k2 d9 g.lo g.hi W
    cases u : upB s false n with
    | true =>
      rw [if_pos ⟨c, rfl⟩]
      exact rround_lo g c (fun W => by rw [u]; exact M2 W) W
    | false =>
      rw [if_neg (fun z => by cases z.2)]
      exact rround_lo g c (fun W => by rw [u]; exact M1 W) W
theorem Fl.rround {z : Int} {f T : Nat} {L : Int} {S I b : Nat} {u : ByteArray} {o : Int} {s : ByteArray} {p : Int} {t : ByteArray} {q : Int} {A : Nat} {d1 d2 : Nat → Dp} (h : Fl z f T L S I b u o s p t q A d1 d2) {n : Nat} (n0 : 1 ≤ n) (n1 : n ≤ 17) (W : World) :
 Calls Tryz.prog 23 #[dcV u o false, .int .i64 (n : Int)] W fun e w' => e = .returned (.tuple #[dcV (rC u d1 d2 n).1 (rC u d1 d2 n).2 false, .int .i64 0]) ∧ Below W.heap.size W w' := by
 obtain ⟨c1, du, c3, c4⟩ := h.c n n0 n1
 have R := du_rround (h.g.vn h.pos) h.o1 n0 n1 du W
 unfold rC
 by_cases q : n < u.size ∧ upB u false n = true
 · rw [if_pos q] at R ⊢; exact R
 · rw [if_neg q] at R ⊢; rw [c1]; exact R
theorem Fl.rnear {z : Int} {f T : Nat} {L : Int} {S I b : Nat} {u : ByteArray} {o : Int} {s : ByteArray} {p : Int} {t : ByteArray} {q : Int} {A : Nat} {d1 d2 : Nat → Dp} (h : Fl z f T L S I b u o s p t q A d1 d2) {n : Nat} (n0 : 1 ≤ n) (n1 : n ≤ 17) (W : World) :
 Calls Tryz.prog 22 #[.int .u64 (b : Int), .int .i64 z, .int .i64 (n : Int)] W fun e w' => e = .returned (.tuple #[dcV (d1 n).1 (d1 n).2 false, .bool (hdB (decide (b % 2 = 0)) s p t q (d1 n)), dcV (d2 n).1 (d2 n).2 false, .bool (hdB (decide (b % 2 = 0)) s p t q (d2 n))]) ∧ Below W.heap.size W w' := by
 obtain ⟨c1, du, c3, c4⟩ := h.c n n0 n1
 obtain ⟨dn, up⟩ := du_doc (h.g.vn h.pos) h.o1 n0 n1 du
 have N := near_ok (fun W => rex_is h.fn h.g W) dn up (fun W => rin_is h.fn h.d h.e c3.vd W) (fun W => rin_is h.fn h.d h.e c4.vd W) W
 have e1 : hdB (decide (b % 2 = 0)) s p t q (d1 n) = inB (decide (b % 2 = 0)) (lowF (d1 n).1 o s p) (lowF (d1 n).1 o t q) := by unfold hdB; rw [c1]
 rw [e1, c1]
 exact N
theorem Fl.rshortest {z : Int} {f T : Nat} {L : Int} {S I b : Nat} {u : ByteArray} {o : Int} {s : ByteArray} {p : Int} {t : ByteArray} {q : Int} {A : Nat} {d1 d2 : Nat → Dp} (h : Fl z f T L S I b u o s p t q A d1 d2) {N : Nat} {d : Dp} (n0 : 1 ≤ N) (n17 : N ≤ 17) (hN : fD (decide (b % 2 = 0)) s p t q u d1 d2 N = some d) (hm : ∀ m, 1 ≤ m → m < N → fD (decide (b % 2 = 0)) s p t q u d1 d2 m = none) (W : World) :
    Calls Tryz.prog 10 #[.int .u64 (b : Int), .int .i64 z] W fun e w' => e = .returned (dcV d.1 d.2 false) ∧ Below W.heap.size W w' := by
  have HE := fun W => rex_is h.fn h.g W
  have HN : ∀ j : Nat, 1 ≤ j → j < N → ∀ W, Calls Tryz.prog 22 #[.int .u64 (b : Int), .int .i64 z, .int .i64 (j : Int)] W fun e w' => e = .returned (.tuple #[dcV (d1 j).1 (d1 j).2 false, .bool false, dcV (d2 j).1 (d2 j).2 false, .bool false]) ∧ Below W.heap.size W w' := fun j j1 jN W => by
    have k := hm j j1 jN
    rw [h.doc _ j1 (by omega)] at k
    have r := h.rnear j1 (by omega) W
    cases x : hdB (decide (b % 2 = 0)) s p t q (d1 j) with
    | true => rw [x] at k; cases y : hdB (decide (b % 2 = 0)) s p t q (d2 j) <;> rw [y] at k <;> cases k
    | false =>
      cases y : hdB (decide (b % 2 = 0)) s p t q (d2 j) with
      | true => rw [x, y] at k; cases k
      | false => rw [x, y] at r; exact r
  have HK := fun W => h.rnear n0 n17 W
  have k := hN
  rw [h.doc _ n0 n17] at k
  cases x : hdB (decide (b % 2 = 0)) s p t q (d1 N) with
  | true =>
    cases y : hdB (decide (b % 2 = 0)) s p t q (d2 N) with
    | true =>
      rw [x, y] at HK k
      cases k
      exact rs_tt n0 n17 HE HN HK (fun W => h.rround n0 n17 W) W
    | false =>
      rw [x, y] at HK k
      cases k
      exact rs_tf n0 n17 HE HN HK W
  | false =>
    cases y : hdB (decide (b % 2 = 0)) s p t q (d2 N) with
    | true =>
      rw [x, y] at HK k
      cases k
      exact rs_ft n0 n17 HE HN HK W
    | false =>
      rw [x, y] at k
      cases k
theorem rchk_bad21 {b : Nat} {z n : Int} (h : Bad b z n) (w : World) :
 Calls Tryz.prog 6 #[.int .u64 (b : Int), .int .i64 z] w fun e w' => e = .returned (.int .i64 n) ∧ Below w.heap.size w w' := by
 rcases h with ⟨h, rfl⟩ | ⟨rfl, h, rfl⟩ | ⟨f, T, L, S, I, h, hb, hi, rfl⟩
 · exact rc21_err rfl (fun W => rck_no h W) w
 · exact rc21_err rfl (fun W => toB' (fun W => rcheck_big h W) W) w
 · have i1 := h.fs.2.2.2.2.2.1
   refine rc21_not (bne_iff_ne.mpr ?_) (fun W => rck_any h hb W) (fun W => rof_any h hb W) w
   rcases cl_cases I (mg S b) with q | q | q | q <;> omega
theorem rchk_zero21 {z : Int} {f T : Nat} {L : Int} {S I b : Nat} (h : Fn z f T L S I b) (m0 : mg S b = 0) (w : World) :
 Calls Tryz.prog 6 #[.int .u64 (b : Int), .int .i64 z] w fun e w' => e = .returned (.int .i64 1) ∧ Below w.heap.size w w' := by
 refine rc21_not (bne_iff_ne.mpr ?_) (fun W => rck_any h.sf h.lt W) (fun W => rof_any h.sf h.lt W) w
 rw [m0, cl_zero]
 decide
theorem rchk_is21 {z : Int} {f T : Nat} {L : Int} {S I b : Nat} (h : Fn z f T L S I b) (m0 : mg S b ≠ 0) (w : World) :
 Calls Tryz.prog 6 #[.int .u64 (b : Int), .int .i64 z] w fun e w' => e = .returned (.int .i64 0) ∧ Below w.heap.size w w' := by
 refine rc21_ok ?_ (fun W => rck_any h.sf h.lt W) (fun W => rof_any h.sf h.lt W) w
 rw [cl_fine m0 h.fin]
 rfl
theorem q_bad {b : Nat} {z n : Int} (h : Bad b z n) (w : World) :
 Calls Tryz.prog 5 #[.int .u64 (b : Int), .int .i64 z] w fun e w' => e = .returned (.tuple #[dcV ⟨#[]⟩ 0 false, .bool false, .iface 42 (.int .i64 n)]) ∧ Below w.heap.size w w' := by
 rcases h with ⟨h, rfl⟩ | ⟨rfl, h, rfl⟩ | ⟨f, T, L, S, I, h, hb, hi, rfl⟩
 · exact qst_err (fun W => unp_no h _ W) w
 · exact qst_err (fun W => unp_big h W) w
 · have i1 := h.fs.2.2.2.2.2.1
   refine qst_not ?_ (fun W => unp_any h hb W) w
   rcases cl_cases I (mg S b) with q | q | q | q <;> omega
theorem q_zero {z : Int} {f T : Nat} {L : Int} {S I b : Nat} (h : Fn z f T L S I b) (m0 : mg S b = 0) (w : World) :
 Calls Tryz.prog 5 #[.int .u64 (b : Int), .int .i64 z] w fun e w' => e = .returned (.tuple #[dcV ⟨#[]⟩ 0 false, .bool false, .iface 42 (.int .i64 1)]) ∧ Below w.heap.size w w' := by
 refine qst_not ?_ (fun W => unp_any h.sf h.lt W) w
 rw [m0, cl_zero]
 decide
theorem whole_not {z : Int} {f T : Nat} {L : Int} {S I b : Nat} (h : Fn z f T L S I b) (m0 : mg S b ≠ 0) (hp : ¬ (0 ≤ -plQ (xp f L (mg S b)) ∧ -plQ (xp f L (mg S b)) ≤ 55)) (w : World) :
 Calls Tryz.prog 9 #[.int .u64 (b : Int), .int .i64 z, .int .u64 16777216] w fun e w' => e = .returned (.bool false) ∧ Below w.heap.size w w' := by
 have P := fun W => rpa_any h.sf h.lt W
 have fs := h.sf.fs.1
 have x := xp_in fs h.m
 have m53 := mt_lt fs (mg S b)
 have mp := mt_some (f := f) m0
 have big : L < xp f L (mg S b) → 8388608 ≤ mt f (mg S b) := by
  intro c
  have pf : 2 ^ 23 ≤ 2 ^ f := Nat.pow_le_pow_right (by decide) (by rcases fs with ⟨rfl, _⟩ | ⟨rfl, _⟩ <;> omega)
  unfold xp at c
  unfold mt
  split
  · rename_i q
    rw [if_pos q] at c
    omega
  · omega
 have lneg : L < 0 := by rcases fs with ⟨_, _, rfl⟩ | ⟨_, _, rfl⟩ <;> omega
 generalize xp f L (mg S b) = e at *
 have w2 : e < -176 ∨ 9 < e := by
  unfold plQ at hp
  omega
 rcases w2 with c | c
 · exact wh_small c (by omega) mp m53 P w
 · by_cases c64 : 64 ≤ e
   · exact wh_far c64 P w
   · refine wh_big (by omega) (by omega) ?_ P w
     have b8 := big (by omega)
     obtain ⟨k, rfl⟩ : ∃ k : Nat, e = (k : Int) := ⟨e.toNat, by omega⟩
     rw [Int.toNat_natCast]
     have p9 : 2 ^ 9 ≤ 2 ^ k := Nat.pow_le_pow_right (by decide) (by omega)
     have dv : 16777215 / 2 ^ k ≤ 16777215 / 2 ^ 9 := Nat.div_le_div_left p9 (by decide)
     have e1 : (16777215 : Int) / 2 ^ k = ((16777215 / 2 ^ k : Nat) : Int) := by rw [Int.natCast_ediv, Int.natCast_pow]; rfl
     rw [e1]
     omega
theorem one_digit {c : Nat} (c1 : 49 ≤ c) (c9 : c ≤ 57) (p : Int) (h0 : -1000 ≤ p) (h1 : p ≤ 1000) {j k : Nat} (hj : c - 48 = j) (hk : (p + (R0 : Int) - 1).toNat = k) : Dx ⟨#[UInt8.ofNat c]⟩ p (j * 10 ^ k) := by
 have e : (UInt8.ofNat c).toNat = c := by
  rw [UInt8.toNat_ofNat']
  omega
 have s1 : (⟨#[UInt8.ofNat c]⟩ : ByteArray).size = 1 := rfl
 have d0 : dgt ⟨#[UInt8.ofNat c]⟩ 0 = c := by
  rw [dgt_lt (by rw [s1]; decide)]
  exact e
 have dg : DG ⟨#[UInt8.ofNat c]⟩ := fun i hi => by
  rw [← dgt_lt hi, show i = 0 by rw [s1] at hi; omega, d0]
  omega
 refine ⟨Or.inr (nf_vn ⟨by rw [s1]; decide, dg, by rw [d0]; omega, by show dgt _ 0 ≠ 48; rw [d0]; omega⟩ (by rw [s1]; decide) (by omega) (by omega)), ?_, ?_⟩
 · rw [s1]; unfold R0; omega
 · rw [s1]
   show (10 * 0 + (dgt ⟨#[UInt8.ofNat c]⟩ 0 - 48)) * _ = _
   rw [d0, Nat.mul_zero, Nat.zero_add, hj]
   rw [← hk]
   rfl
theorem fl_place {z : Int} {f T : Nat} {L : Int} {S I b : Nat} {u : ByteArray} {o : Int} {s : ByteArray} {p : Int} {t : ByteArray} {q : Int} {A : Nat} {d1 d2 : Nat → Dp} (h : Fl z f T L S I b u o s p t q A d1 d2) {B : Nat} (h1 : 10 ^ B ≤ vlF f L (mg S b)) (h2 : vlF f L (mg S b) < 10 ^ (B + 1)) : A = B + 1 := by
 obtain ⟨_, a, b⟩ := h.g.some h.pos
 rw [h.hA] at a b
 rw [show ((A : Int) - 1).toNat = A - 1 by omega] at a
 rw [show ((A : Int)).toNat = A by omega] at b
 have x1 := (Nat.pow_lt_pow_iff_right (a := 10) (by decide)).1 (Nat.lt_of_le_of_lt h1 b)
 have x2 := (Nat.pow_lt_pow_iff_right (a := 10) (by decide)).1 (Nat.lt_of_le_of_lt a h2)
 omega
theorem firstF_at {f : Nat → Option Dp} {d : Dp} (h : f 1 = some d) : firstF f 1 17 = some d := by
 show firstF f 1 (16 + 1) = some d
 unfold firstF
 rw [h]
theorem fn100 : Fn 64 52 2047 (-1074) 9223372036854775808 9218868437227405312 4636737291354636288 := ⟨Or.inr ⟨rfl, rfl, rfl, rfl, rfl, rfl⟩, by decide, by decide +kernel⟩
theorem k100 : 10 ^ 1102 ≤ vlF 52 (-1074) (mg 9223372036854775808 4636737291354636288) ∧ vlF 52 (-1074) (mg 9223372036854775808 4636737291354636288) < 10 ^ (1102 + 1) ∧ pickU (decide (4636737291354636288 % 2 = 0)) (loF 52 (-1074) (mg 9223372036854775808 4636737291354636288)) (hiF 52 (-1074) (mg 9223372036854775808 4636737291354636288)) (vlF 52 (-1074) (mg 9223372036854775808 4636737291354636288)) (10 ^ (1102 + 1 - 1)) = some (1 * 10 ^ 1102) := by decide +kernel
theorem pl100 : 0 ≤ -plQ (xp 52 (-1074) (mg 9223372036854775808 4636737291354636288)) ∧ -plQ (xp 52 (-1074) (mg 9223372036854775808 4636737291354636288)) ≤ 55 := by decide +kernel
theorem q_100 (w : World) (gd : Gd w) : Calls Tryz.prog 5 #[.int .u64 4636737291354636288, .int .i64 64] w fun e w' => e = .returned (.tuple #[.agg #[.string ⟨#[49]⟩, .int .i64 3, .bool false], .bool true, .nilIface]) ∧ Below w.heap.size w w' := by
 obtain ⟨k1, k2, k3⟩ := k100
 obtain ⟨u, o, s, p, t, q, A, d1, d2, h⟩ := fl_ex fn100 (by decide +kernel)
 have hA := fl_place h k1 k2
 subst hA
 rcases h.pick (decide (4636737291354636288 % 2 = 0)) (n := 1) (by decide) (by decide) with ⟨_, b⟩ | ⟨d, Z, a, b, c, _⟩
 · rw [k3] at b; cases b
 · rw [k3] at b
   have bz : 1 * 10 ^ 1102 = Z := Option.some.inj b
   have x := one_digit (c := 49) (by decide) (by decide) 3 (by decide) (by decide) (j := 1) (k := 1102) rfl rfl
   rw [bz] at x
   obtain ⟨y1, y2⟩ := Dx.uniq c x
   rcases h.qsure with ⟨N, dd, f1, _, _, _, _, H⟩ | ⟨_, no⟩
   · rw [firstF_at a] at f1
     cases f1
     have r := H w gd
     rw [y1, y2] at r
     exact r
   · exact absurd pl100 no
theorem ErrT.next {w w' : World} (h : ErrT w) (hb : Below w.heap.size w w') : ErrT w' := h.below hb h.pos
theorem sure21 {w : World} (gd : Gd w) :
 Calls Tryz.prog 8 #[] w fun x w' => x = .returned (.bool true) ∧ Below w.heap.size w w' := by
 have F0 : Hid (Below w.heap.size w w) := Below.refl _ _
 go_enter Tryz.func8, Tryz.ntmps8
 go_wp2_with fail
 all_goals first | (exfalso; omega) | skip
 refine (q_100 _ (gd.next F0.out)).mono ?_
 rintro o1 w1 ⟨rfl, bb⟩
 have F1 : Hid (Below w.heap.size w w1) := (F0.out).trans (bb.mono (F0.out).size)
 clear F0
 clear bb
 have le0 := (F1.out).size
 have F2 : Hid (Bk (w1.alloc (.cells #[.string ⟨#[49]⟩, .int .i64 3, .bool false] 24)) (w1.heap.size) [.string ⟨#[49]⟩, .int .i64 3, .bool false] ∧ Below w.heap.size w (w1.alloc (.cells #[.string ⟨#[49]⟩, .int .i64 3, .bool false] 24))) := ⟨Bk.newL w1 [.string ⟨#[49]⟩, .int .i64 3, .bool false] 24, (F1.out).alloc ((F1.out).size) _⟩
 clear F1
 go_upto_region 2 with fail
 generalize (w1.alloc (.cells #[.string ⟨#[49]⟩, .int .i64 3, .bool false] 24)) = w2 at *
 have l1_0 := F2.out.1.lt
 have a1_0_0 := F2.out.1.cell 0 _ rfl
 have f1_0_0 := F2.out.1.fz 0
 have a1_0_1 := F2.out.1.cell 1 _ rfl
 have f1_0_1 := F2.out.1.fz 1
 have a1_0_2 := F2.out.1.cell 2 _ rfl
 have f1_0_2 := F2.out.1.fz 2
 go_wp2
 go_ret
 exact ⟨rfl, F2.out.2⟩
theorem qs_err {w : World} {b z n : Int} (gd : Gd w) (er : ErrT w) (q1 : (n != 0) = true) (HQ : ∀ W, Gd W → Calls Tryz.prog 5 #[.int .u64 b, .int .i64 z] W fun e w' => e = .returned (.tuple #[.agg #[.string ⟨#[]⟩, .int .i64 0, .bool false], .bool false, .iface 42 (.int .i64 n)]) ∧ Below W.heap.size W w') (HC : ∀ W, Calls Tryz.prog 6 #[.int .u64 b, .int .i64 z] W fun e w' => e = .returned (.int .i64 n) ∧ Below W.heap.size W w') :
 Calls Tryz.prog 3 #[.int .u64 b, .int .i64 z] w fun x w' => x = .returned (.bool true) ∧ Below w.heap.size w w' := by
 have F0 : Hid (Below w.heap.size w w) := Below.refl _ _
 go_enter Tryz.func3, Tryz.ntmps3
 go_wp2_with fail
 all_goals first | (exfalso; omega) | skip
 refine (HQ _ (gd.next F0.out)).mono ?_
 rintro o1 w1 ⟨rfl, bb⟩
 have F1 : Hid (Below w.heap.size w w1) := (F0.out).trans (bb.mono (F0.out).size)
 clear F0
 clear bb
 have le0 := (F1.out).size
 have F2 : Hid (Bk (w1.alloc (.cells #[.string ⟨#[]⟩, .int .i64 0, .bool false] 24)) (w1.heap.size) [.string ⟨#[]⟩, .int .i64 0, .bool false] ∧ Below w.heap.size w (w1.alloc (.cells #[.string ⟨#[]⟩, .int .i64 0, .bool false] 24))) := ⟨Bk.newL w1 [.string ⟨#[]⟩, .int .i64 0, .bool false] 24, (F1.out).alloc ((F1.out).size) _⟩
 clear F1
 go_upto_region 2 with fail
 generalize (w1.alloc (.cells #[.string ⟨#[]⟩, .int .i64 0, .bool false] 24)) = w2 at *
 have l1_0 := F2.out.1.lt
 have a1_0_0 := F2.out.1.cell 0 _ rfl
 have f1_0_0 := F2.out.1.fz 0
 have a1_0_1 := F2.out.1.cell 1 _ rfl
 have f1_0_1 := F2.out.1.fz 1
 have a1_0_2 := F2.out.1.cell 2 _ rfl
 have f1_0_2 := F2.out.1.fz 2
 go_wp2_with fail
 all_goals first | (exfalso; omega) | skip
 refine (HC _).mono ?_
 rintro o3 w3 ⟨rfl, bb⟩
 have F3 : Hid (Bk w3 (w1.heap.size) [.string ⟨#[]⟩, .int .i64 0, .bool false] ∧ Below w.heap.size w w3) := ⟨(F2.out.1).step bb, (F2.out.2).trans (bb.mono (F2.out.2).size)⟩
 clear F2
 clear bb
 clear l1_0 a1_0_0 f1_0_0 a1_0_1 f1_0_1 a1_0_2 f1_0_2
 have l2_0 := F3.out.1.lt
 have a2_0_0 := F3.out.1.cell 0 _ rfl
 have f2_0_0 := F3.out.1.fz 0
 have a2_0_1 := F3.out.1.cell 1 _ rfl
 have f2_0_1 := F3.out.1.fz 1
 have a2_0_2 := F3.out.1.cell 2 _ rfl
 have f2_0_2 := F3.out.1.fz 2
 go_wp2_with fail
 all_goals first | (exfalso; omega) | skip
 refine (num_errno n _ (er.next F3.out.2)).mono ?_
 rintro o4 w4 ⟨rfl, bb⟩
 have F4 : Hid (Bk w4 (w1.heap.size) [.string ⟨#[]⟩, .int .i64 0, .bool false] ∧ Below w.heap.size w w4) := ⟨(F3.out.1).step bb, (F3.out.2).trans (bb.mono (F3.out.2).size)⟩
 clear F3
 clear bb
 clear l2_0 a2_0_0 f2_0_0 a2_0_1 f2_0_1 a2_0_2 f2_0_2
 have l3_0 := F4.out.1.lt
 have a3_0_0 := F4.out.1.cell 0 _ rfl
 have f3_0_0 := F4.out.1.fz 0
 have a3_0_1 := F4.out.1.cell 1 _ rfl
 have f3_0_1 := F4.out.1.fz 1
 have a3_0_2 := F4.out.1.cell 2 _ rfl
 have f3_0_2 := F4.out.1.fz 2
 go_wp2_with fail
 all_goals first | (exfalso; omega) | skip
 refine (sure21 (gd.next F4.out.2)).mono ?_
 rintro o5 w5 ⟨rfl, bb⟩
 have F5 : Hid (Bk w5 (w1.heap.size) [.string ⟨#[]⟩, .int .i64 0, .bool false] ∧ Below w.heap.size w w5) := ⟨(F4.out.1).step bb, (F4.out.2).trans (bb.mono (F4.out.2).size)⟩
 clear F4
 clear bb
 go_wp2
 go_ret
 exact ⟨rfl, F5.out.2⟩
theorem qs_not {w : World} {b z : Int} (gd : Gd w) (HQ : ∀ W, Gd W → Calls Tryz.prog 5 #[.int .u64 b, .int .i64 z] W fun e w' => e = .returned (.tuple #[.agg #[.string ⟨#[]⟩, .int .i64 0, .bool false], .bool false, .nilIface]) ∧ Below W.heap.size W w') (HC : ∀ W, Calls Tryz.prog 6 #[.int .u64 b, .int .i64 z] W fun e w' => e = .returned (.int .i64 0) ∧ Below W.heap.size W w') (HW : ∀ W, Calls Tryz.prog 9 #[.int .u64 b, .int .i64 z, .int .u64 16777216] W fun e w' => e = .returned (.bool false) ∧ Below W.heap.size W w') :
 Calls Tryz.prog 3 #[.int .u64 b, .int .i64 z] w fun x w' => x = .returned (.bool true) ∧ Below w.heap.size w w' := by
 have F0 : Hid (Below w.heap.size w w) := Below.refl _ _
 go_enter Tryz.func3, Tryz.ntmps3
 go_wp2_with fail
 all_goals first | (exfalso; omega) | skip
 refine (HQ _ (gd.next F0.out)).mono ?_
 rintro o1 w1 ⟨rfl, bb⟩
 have F1 : Hid (Below w.heap.size w w1) := (F0.out).trans (bb.mono (F0.out).size)
 clear F0
 clear bb
 have le0 := (F1.out).size
 have F2 : Hid (Bk (w1.alloc (.cells #[.string ⟨#[]⟩, .int .i64 0, .bool false] 24)) (w1.heap.size) [.string ⟨#[]⟩, .int .i64 0, .bool false] ∧ Below w.heap.size w (w1.alloc (.cells #[.string ⟨#[]⟩, .int .i64 0, .bool false] 24))) := ⟨Bk.newL w1 [.string ⟨#[]⟩, .int .i64 0, .bool false] 24, (F1.out).alloc ((F1.out).size) _⟩
 clear F1
 go_upto_region 2 with fail
 generalize (w1.alloc (.cells #[.string ⟨#[]⟩, .int .i64 0, .bool false] 24)) = w2 at *
 have l1_0 := F2.out.1.lt
 have a1_0_0 := F2.out.1.cell 0 _ rfl
 have f1_0_0 := F2.out.1.fz 0
 have a1_0_1 := F2.out.1.cell 1 _ rfl
 have f1_0_1 := F2.out.1.fz 1
 have a1_0_2 := F2.out.1.cell 2 _ rfl
 have f1_0_2 := F2.out.1.fz 2
 go_wp2_with fail
 all_goals first | (exfalso; omega) | skip
 refine (HC _).mono ?_
 rintro o3 w3 ⟨rfl, bb⟩
 have F3 : Hid (Bk w3 (w1.heap.size) [.string ⟨#[]⟩, .int .i64 0, .bool false] ∧ Below w.heap.size w w3) := ⟨(F2.out.1).step bb, (F2.out.2).trans (bb.mono (F2.out.2).size)⟩
 clear F2
 clear bb
 clear l1_0 a1_0_0 f1_0_0 a1_0_1 f1_0_1 a1_0_2 f1_0_2
 have l2_0 := F3.out.1.lt
 have a2_0_0 := F3.out.1.cell 0 _ rfl
 have f2_0_0 := F3.out.1.fz 0
 have a2_0_1 := F3.out.1.cell 1 _ rfl
 have f2_0_1 := F3.out.1.fz 1
 have a2_0_2 := F3.out.1.cell 2 _ rfl
 have f2_0_2 := F3.out.1.fz 2
 go_wp2_with fail
 all_goals first | (exfalso; omega) | skip
 refine (HW _).mono ?_
 rintro o4 w4 ⟨rfl, bb⟩
 have F4 : Hid (Bk w4 (w1.heap.size) [.string ⟨#[]⟩, .int .i64 0, .bool false] ∧ Below w.heap.size w w4) := ⟨(F3.out.1).step bb, (F3.out.2).trans (bb.mono (F3.out.2).size)⟩
 clear F3
 clear bb
 clear l2_0 a2_0_0 f2_0_0 a2_0_1 f2_0_1 a2_0_2 f2_0_2
 have l3_0 := F4.out.1.lt
 have a3_0_0 := F4.out.1.cell 0 _ rfl
 have f3_0_0 := F4.out.1.fz 0
 have a3_0_1 := F4.out.1.cell 1 _ rfl
 have f3_0_1 := F4.out.1.fz 1
 have a3_0_2 := F4.out.1.cell 2 _ rfl
 have f3_0_2 := F4.out.1.fz 2
 go_wp2_with fail
 all_goals first | (exfalso; omega) | skip
 refine (sure21 (gd.next F4.out.2)).mono ?_
 rintro o5 w5 ⟨rfl, bb⟩
 have F5 : Hid (Bk w5 (w1.heap.size) [.string ⟨#[]⟩, .int .i64 0, .bool false] ∧ Below w.heap.size w w5) := ⟨(F4.out.1).step bb, (F4.out.2).trans (bb.mono (F4.out.2).size)⟩
 clear F4
 clear bb
 go_wp2
 go_ret
 exact ⟨rfl, F5.out.2⟩
theorem qs_sure {w : World} {b z d2 : Int} {d1 : ByteArray} (gd : Gd w) (HQ : ∀ W, Gd W → Calls Tryz.prog 5 #[.int .u64 b, .int .i64 z] W fun e w' => e = .returned (.tuple #[.agg #[.string d1, .int .i64 d2, .bool false], .bool true, .nilIface]) ∧ Below W.heap.size W w') (HC : ∀ W, Calls Tryz.prog 6 #[.int .u64 b, .int .i64 z] W fun e w' => e = .returned (.int .i64 0) ∧ Below W.heap.size W w') (HR : ∀ W, Calls Tryz.prog 10 #[.int .u64 b, .int .i64 z] W fun e w' => e = .returned (.agg #[.string d1, .int .i64 d2, .bool false]) ∧ Below W.heap.size W w') :
 Calls Tryz.prog 3 #[.int .u64 b, .int .i64 z] w fun x w' => x = .returned (.bool true) ∧ Below w.heap.size w w' := by
 have F0 : Hid (Below w.heap.size w w) := Below.refl _ _
 go_enter Tryz.func3, Tryz.ntmps3
 go_wp2_with fail
 all_goals first | (exfalso; omega) | skip
 refine (HQ _ (gd.next F0.out)).mono ?_
 rintro o1 w1 ⟨rfl, bb⟩
 have F1 : Hid (Below w.heap.size w w1) := (F0.out).trans (bb.mono (F0.out).size)
 clear F0
 clear bb
 have le0 := (F1.out).size
 have F2 : Hid (Bk (w1.alloc (.cells #[.string d1, .int .i64 d2, .bool false] 24)) (w1.heap.size) [.string d1, .int .i64 d2, .bool false] ∧ Below w.heap.size w (w1.alloc (.cells #[.string d1, .int .i64 d2, .bool false] 24))) := ⟨Bk.newL w1 [.string d1, .int .i64 d2, .bool false] 24, (F1.out).alloc ((F1.out).size) _⟩
 clear F1
 go_upto_region 2 with fail
 generalize (w1.alloc (.cells #[.string d1, .int .i64 d2, .bool false] 24)) = w2 at *
 have l1_0 := F2.out.1.lt
 have a1_0_0 := F2.out.1.cell 0 _ rfl
 have f1_0_0 := F2.out.1.fz 0
 have a1_0_1 := F2.out.1.cell 1 _ rfl
 have f1_0_1 := F2.out.1.fz 1
 have a1_0_2 := F2.out.1.cell 2 _ rfl
 have f1_0_2 := F2.out.1.fz 2
 go_wp2_with fail
 all_goals first | (exfalso; omega) | skip
 refine (HC _).mono ?_
 rintro o3 w3 ⟨rfl, bb⟩
 have F3 : Hid (Bk w3 (w1.heap.size) [.string d1, .int .i64 d2, .bool false] ∧ Below w.heap.size w w3) := ⟨(F2.out.1).step bb, (F2.out.2).trans (bb.mono (F2.out.2).size)⟩
 clear F2
 clear bb
 clear l1_0 a1_0_0 f1_0_0 a1_0_1 f1_0_1 a1_0_2 f1_0_2
 have l2_0 := F3.out.1.lt
 have a2_0_0 := F3.out.1.cell 0 _ rfl
 have f2_0_0 := F3.out.1.fz 0
 have a2_0_1 := F3.out.1.cell 1 _ rfl
 have f2_0_1 := F3.out.1.fz 1
 have a2_0_2 := F3.out.1.cell 2 _ rfl
 have f2_0_2 := F3.out.1.fz 2
 go_upto_region 7 with fail
 go_region_held3 (fun w' => w'.cell? ⟨w1.heap.size, 0, none⟩ = some (.string d1) ∧ w'.cell? ⟨w1.heap.size, 1, none⟩ = some (.int .i64 d2) ∧ w'.cell? ⟨w1.heap.size, 2, none⟩ = some (.bool false)) (simp [*, go_sem]) (first | (go_at_call 10; refine (HR _).mono ?_; rintro pv1 v1 ⟨rfl, bb⟩; have Gv1 : Hid (Bk v1 (w1.heap.size) [.string d1, .int .i64 d2, .bool false] ∧ Below w.heap.size w v1) := ⟨(F3.out.1.dr).step bb, below_next (F3.out.2.drew) bb⟩; clear bb; have lv1 := (Gv1.out.1).lt; have cv1_0 := (Gv1.out.1).cell 0 _ rfl; have cv1_1 := (Gv1.out.1).cell 1 _ rfl; have cv1_2 := (Gv1.out.1).cell 2 _ rfl) | (go_at_call 8; refine (sure21 (gd.next Gv1.out.2)).mono ?_; rintro pv2 v2 ⟨rfl, bb⟩; have Gv2 : Hid (Bk v2 (w1.heap.size) [.string d1, .int .i64 d2, .bool false] ∧ Below w.heap.size w v2) := ⟨(Gv1.out.1).step bb, below_next (Gv1.out.2) bb⟩; clear bb; have lv2 := (Gv2.out.1).lt; have cv2_0 := (Gv2.out.1).cell 0 _ rfl; have cv2_1 := (Gv2.out.1).cell 1 _ rfl; have cv2_2 := (Gv2.out.1).cell 2 _ rfl))
 all_goals go_wp2
 all_goals go_ret
 all_goals exact ⟨by first | rfl | simp, Gv2.out.2⟩
theorem nine_in (z : Int) {N : Nat} (h : N ≤ (if z = 32 then 9 else 17)) : N ≤ 17 := by
 split at h <;> omega
theorem law_quick_shortest (b : Nat) (hb : b < 18446744073709551616) (z : Int) (w : World) (gd : Gd w) (er : ErrT w) :
 Calls Tryz.prog 3 #[.int .u64 (b : Int), .int .i64 z] w fun x w' => x = .returned (.bool true) ∧ Below w.heap.size w w' := by
 rcases kinds b z hb with ⟨n, h⟩ | ⟨f, T, L, S, I, h⟩
 · have n0 := h.not0
   refine qs_err gd er ?_ (fun W _ => q_bad h W) (fun W => rchk_bad21 h W)
   rw [bne, n0]
   rfl
 · by_cases m0 : mg S b = 0
   · exact qs_err gd er rfl (fun W _ => q_zero h m0 W) (fun W => rchk_zero21 h m0 W)
   · obtain ⟨u, o, s, p, t, q, A, d1, d2, k⟩ := fl_ex h m0
     rcases k.qsure with ⟨N, d, _, n0, n1, hN, hm, H⟩ | ⟨H, no⟩
     · exact qs_sure gd H (fun W => rchk_is21 h m0 W) (fun W => k.rshortest n0 (nine_in z n1) hN hm W)
     · exact qs_not gd H (fun W => rchk_is21 h m0 W) (fun W => whole_not h m0 no W)
end Go.Proofs.YtbpfhnndlknloaaGreatDoor
