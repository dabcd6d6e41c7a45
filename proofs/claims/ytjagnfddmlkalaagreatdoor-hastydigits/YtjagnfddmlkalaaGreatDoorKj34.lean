/-
  Holds: VBtL IvO HaX LawHa LawHaA.
-/
import Derived.Test.YtjagnfddmlkalaaGreatDoorRows
import Derived.Laws.Externs
import Derived.WalkKit
import Derived.WalkSpells
import Derived.WalkLawsBesides
import Derived.Lib.Mul64
import Derived.Stop.Asserts
import Derived.RowKitTokens
import Derived.Lib.Strings
import Derived.Lib.BufferWrite
import Derived.Deep.OwnRows
import Derived.Deep.RegionHeld3
import Derived.BigQuiet
import Derived.Lib.ConvBytes
import Derived.Laws.CopyOwn
import Derived.Lib.TrailingZeros
import Derived.Lib.ItoaNum
import Derived.Deep.LoopGhost
import Derived.Deep.AppendLies
import Derived.Deep.DeepCutAuto
import Derived.Test.YtjagnfddmlkalaaGreatDoorShelf
import Derived.Test.YtjagnfddmlkalaaGreatDoorKj30
import Derived.Test.YtjagnfddmlkalaaGreatDoorKj32
import Derived.Test.YtjagnfddmlkalaaGreatDoorKj33
set_option maxRecDepth 100000
set_option maxHeartbeats 4000000
namespace Go.Proofs.YtjagnfddmlkalaaGreatDoor
open Go.RowKit
theorem toB {P : Program} {f : FuncId} {a : Array Value} {W : World} {x : Ending} (h : Calls P f a W fun e w' => e = x ∧ w' = W) : Calls P f a W fun e w' => e = x ∧ Below W.heap.size W w' :=
 h.mono fun e w' q => ⟨q.1, by rw [q.2]; exact Below.refl _ _⟩
theorem toB' {P : Program} {f : FuncId} {a : Array Value} {x : Ending} (h : ∀ W, Calls P f a W fun e w' => e = x ∧ w' = W) (W : World) : Calls P f a W fun e w' => e = x ∧ Below W.heap.size W w' := toB (h W)
theorem rck_no {b : Nat} {z : Int} (h : Sn z) (w : World) : Calls Tryz.prog 36 #[.int .u64 (b : Int), .int .i64 z] w fun e w' => e = .returned (.int .i64 5) ∧ Below w.heap.size w w' := toB' (fun W => rcheck_no h _ W) w
theorem rck_any {z : Int} {f T : Nat} {L : Int} {S I b : Nat} (h : Sf z f T L S I) (hb : b < 2 * S) (w : World) :
 Calls Tryz.prog 36 #[.int .u64 (b : Int), .int .i64 z] w fun e w' => e = .returned (.int .i64 0) ∧ Below w.heap.size w w' := by
 rcases h with ⟨rfl, rfl, rfl, rfl, rfl, rfl⟩ | ⟨rfl, rfl, rfl, rfl, rfl, rfl⟩
 · exact toB' (fun W => rcheck_32 (by omega) W) w
 · exact toB' (fun W => rcheck_64 _ W) w
theorem rof_any {z : Int} {f T : Nat} {L : Int} {S I b : Nat} (h : Sf z f T L S I) (hb : b < 2 * S) (w : World) :
    Calls Tryz.prog 37 #[.int .u64 (b : Int), .int .i64 z] w fun e w' => e = .returned (.int .i64 (cl I (mg S b))) ∧ Below w.heap.size w w' := by
  rcases h with ⟨rfl, rfl, rfl, rfl, rfl, rfl⟩ | ⟨rfl, rfl, rfl, rfl, rfl, rfl⟩
  · exact toB' (fun W => rof_32 (by omega) W) w
  · exact toB' (fun W => rof_64 (by omega) W) w
theorem rpa_any {z : Int} {f T : Nat} {L : Int} {S I b : Nat} (h : Sf z f T L S I) (hb : b < 2 * S) (w : World) :
 Calls Tryz.prog 21 #[.int .u64 (b : Int), .int .i64 z] w fun e w' => e = .returned (.tuple #[.int .u64 ((mt f (mg S b) : Nat) : Int), .int .i64 (xp f L (mg S b))]) ∧ Below w.heap.size w w' := by
 rcases h with ⟨rfl, rfl, rfl, rfl, rfl, rfl⟩ | ⟨rfl, rfl, rfl, rfl, rfl, rfl⟩
 · exact toB' (fun W => rparts_32 (by omega) W) w
 · exact toB' (fun W => rparts_64 (by omega) W) w
theorem chk_is {z : Int} {f T : Nat} {L : Int} {S I b : Nat} (h : Fn z f T L S I b) (w : World) : Calls Tryz.prog 38 #[.int .u64 (b : Int), .int .i64 z] w fun e w' => e = .returned (.int .i64 0) ∧ Below w.heap.size w w' := by
 refine chk_ok ?_ (fun W => rck_any h.sf h.lt W) (fun W => rof_any h.sf h.lt W) w
 have := h.fin
 rcases cl_cases I (mg S b) with q | q | q | q <;> omega
theorem rex_is {z : Int} {f T : Nat} {L : Int} {S I b : Nat} (h : Fn z f T L S I b) {s : ByteArray} {p : Int} (D : Dx s p (vlF f L (mg S b))) (w : World) :
 Calls Tryz.prog 18 #[.int .u64 (b : Int), .int .i64 z] w fun e w' => e = .returned (.tuple #[dcV s p false, .int .i64 0]) ∧ Below w.heap.size w w' := by
 have fs := h.sf.fs.1
 have x := xp_in fs h.m
 have m := mt_lt fs (mg S b)
 refine rex_ok (by omega) (fun W => chk_is h W) (fun W => rpa_any h.sf h.lt W) (fun W v hv => rdec_any (by omega) (by omega) (by omega) ?_ D hv) w
 by_cases m0 : mg S b = 0
 · right
   rw [m0, (xp_one fs.one L).2.1]
   rcases fs with ⟨_, _, rfl⟩ | ⟨_, _, rfl⟩ <;> omega
 · exact Or.inl (mt_some m0)
theorem rround_off23 {s : ByteArray} {p : Int} {n : Int} (h : VD s p false) (n0 : ¬ n < 0) (n8 : ¬ 800 < n) (hn : (s.size : Int) ≤ n) (w : World) :
 Calls Tryz.prog 19 #[dcV s p false, .int .i64 n] w fun e w' => e = .returned (.tuple #[dcV s p false, .int .i64 0]) ∧ Below w.heap.size w w' := by
 have VV := fun W => rvald_yes h W
 clear h
 unfold dcV at *
 go_enter Tryz.func19, Tryz.ntmps19
 go_wp2_with fail
 refine (VV _).mono ?_
 rintro e w1 ⟨rfl, hb1⟩
 have HT1 : Hid (OneR w w1 s p false) := (OneR.start w s p false).step hb1
 clear hb1
 obtain ⟨_, _, a01, a11, a21, r01, r11, r21, fr1⟩ := HT1.out
 go_wp2
 refine bodyPost_ret (v := .tuple #[.agg #[.string s, .int .i64 p, .bool false], .int .i64 0]) (by simp [results, Tryz.results19, go_sem, *]) rfl ⟨rfl, ?_⟩
 exact (((HT1.out.bel.setCell (by simp) _).setCell (by simp) _).setCell (by simp) _)
theorem du_rround23 {s : ByteArray} {p : Int} {n : Nat} {s1 s2 : ByteArray} {p2 : Int} (g : VN s p false) (hp : p ≤ 1000) (n0 : 0 < n) (hn : n ≤ 800) (D : Du s p n s1 s2 p2) (W : World) :
    Calls Tryz.prog 19 #[dcV s p false, .int .i64 n] W fun e w' => e = .returned (.tuple #[if n < s.size ∧ upB s false n = true then dcV s2 p2 false else dcV s1 p false, .int .i64 0]) ∧ Below W.heap.size W w' := by
  have nf := vn_nf g
  have hl := g.len
  rcases D.way with ⟨c, e1, e2, e3⟩ | ⟨c, m, k, mz, m1, m2, m3, rfl, k1, k2, K⟩
  · rw [if_neg (fun z => by have := z.1; omega), e1]
    exact rround_off23 (Or.inr g) (by omega) (by omega) (by omega) W
  · have M1 : ∀ W, Calls Tryz.prog 42 #[dcV s p false, .int .i64 (n : Int), .bool false] W fun e w' => e = .returned (.tuple #[dcV (s.extract 0 m) p false, .int .i64 0]) ∧ Below W.heap.size W w' := fun W => made_dn hl g.dg nf.first n0 (Nat.le_of_lt c) m1 mz m2 m3 g.lo g.hi W
    have M2 : ∀ W, Calls Tryz.prog 42 #[dcV s p false, .int .i64 (n : Int), .bool true] W fun e w' => e = .returned (.tuple #[dcV s2 p2 false, .int .i64 0]) ∧ Below W.heap.size W w' := fun W => by
      rcases K with ⟨rfl, rfl, rfl⟩ | ⟨k0, d9, rfl, rfl⟩
      · exact made_un hl g.dg n0 (Nat.le_of_lt c) (fun i hi => k2 i (Nat.zero_le _) hi) g.lo (by omega) W
      · exact made_up hl g.dg nf.first n0 (Nat.le_of_lt c) k1 k0 k2 d9 g.lo g.hi W
    cases u : upB s false n with
    | true =>
      rw [if_pos ⟨c, rfl⟩]
      exact rround_lo g c (fun W => by rw [u]; exact M2 W) W
    | false =>
      rw [if_neg (fun z => by cases z.2)]
      exact rround_lo g c (fun W => by rw [u]; exact M1 W) W
theorem fl_rounds {z : Int} {f T : Nat} {L : Int} {S I b : Nat} (h : Fn z f T L S I b) (m0 : mg S b ≠ 0) : ∃ u o, Dx u o (vlF f L (mg S b)) ∧ 0 < u.size ∧ o ≤ 1000 ∧
 ∀ n : Nat, 1 ≤ n → ∃ v k s1 s2 p2, Dx v k (rnU (vlF f L (mg S b)) (10 ^ (o + (R0 : Int) - (n : Int)).toNat)) ∧ v.size ≤ n ∧ Du u o n s1 s2 p2 ∧ (((n < u.size ∧ upB u false n = true) ∧ v = s2 ∧ k = p2) ∨ (¬ (n < u.size ∧ upB u false n = true) ∧ v = s1 ∧ k = o)) := by
 obtain ⟨_, _, u, o, G⟩ := Fn.has h
 have fs := h.sf.fs.1
 have x := xp_in fs h.m
 have m := mt_lt fs (mg S b)
 have mp := mt_some (f := f) m0
 have u0 : 0 < u.size := G.pos.2 (fv_pos (by omega))
 have o1 : o ≤ 1000 := dx_near (by omega) (by omega) (by omega) G u0
 refine ⟨u, o, G, u0, o1, fun n n1 => ?_⟩
 obtain ⟨v, k, fx, D⟩ := fx_ex G o1 (n : Int)
 have few := fx.few (by omega)
 rcases fx.way with ⟨c, _⟩ | ⟨c, _⟩ | ⟨c, _⟩ | ⟨N, s1, s2, p2, e, N0, _, du, w⟩
 · omega
 · omega
 · omega
 · obtain rfl : n = N := by omega
   refine ⟨v, k, s1, s2, p2, D, few, du, ?_⟩
   rcases w with ⟨a1, a2, a3, a4⟩ | ⟨a1, a3, a4⟩
   · exact Or.inl ⟨⟨a1, a2⟩, a3, a4⟩
   · exact Or.inr ⟨a1, a3, a4⟩
theorem rchk_bad23 {b : Nat} {z n : Int} (h : Bad b z n) (w : World) :
 Calls Tryz.prog 17 #[.int .u64 (b : Int), .int .i64 z] w fun e w' => e = .returned (.int .i64 n) ∧ Below w.heap.size w w' := by
 rcases h with ⟨h, rfl⟩ | ⟨rfl, h, rfl⟩ | ⟨f, T, L, S, I, h, hb, hi, rfl⟩
 · exact rc21_err rfl (fun W => rck_no h W) w
 · exact rc21_err rfl (fun W => toB' (fun W => rcheck_big h W) W) w
 · have i1 := h.fs.2.2.2.2.2.1
   refine rc21_not (bne_iff_ne.mpr ?_) (fun W => rck_any h hb W) (fun W => rof_any h hb W) w
   rcases cl_cases I (mg S b) with q | q | q | q <;> omega
theorem rchk_zero23 {z : Int} {f T : Nat} {L : Int} {S I b : Nat} (h : Fn z f T L S I b) (m0 : mg S b = 0) (w : World) :
 Calls Tryz.prog 17 #[.int .u64 (b : Int), .int .i64 z] w fun e w' => e = .returned (.int .i64 1) ∧ Below w.heap.size w w' := by
 refine rc21_not (bne_iff_ne.mpr ?_) (fun W => rck_any h.sf h.lt W) (fun W => rof_any h.sf h.lt W) w
 rw [m0, cl_zero]
 decide
theorem rchk_is23 {z : Int} {f T : Nat} {L : Int} {S I b : Nat} (h : Fn z f T L S I b) (m0 : mg S b ≠ 0) (w : World) :
 Calls Tryz.prog 17 #[.int .u64 (b : Int), .int .i64 z] w fun e w' => e = .returned (.int .i64 0) ∧ Below w.heap.size w w' := by
 refine rc21_ok ?_ (fun W => rck_any h.sf h.lt W) (fun W => rof_any h.sf h.lt W) w
 rw [cl_fine m0 h.fin]
 rfl
theorem whole_not23 {z : Int} {f T : Nat} {L : Int} {S I b : Nat} (h : Fn z f T L S I b) (m0 : mg S b ≠ 0) (nw : NW (mt f (mg S b)) (xp f L (mg S b))) (w : World) :
 Calls Tryz.prog 9 #[.int .u64 (b : Int), .int .i64 z, .int .u64 9007199254740992] w fun e w' => e = .returned (.bool false) ∧ Below w.heap.size w w' := by
 have P := fun W => rpa_any h.sf h.lt W
 have fs := h.sf.fs.1
 have x := xp_in fs h.m
 have m53 := mt_lt fs (mg S b)
 have mp := mt_some (f := f) m0
 generalize xp f L (mg S b) = e at *
 generalize mt f (mg S b) = m at *
 by_cases c : e < 0
 · exact wh_small c (by omega) (by omega) m53 (nw.2 c) P w
 · by_cases c64 : 64 ≤ e
   · exact wh_far c64 P w
   · refine wh_big (by omega) (by omega) ?_ P w
     have b8 := nw.1 (by omega)
     obtain ⟨k, rfl⟩ : ∃ k : Nat, e = (k : Int) := ⟨e.toNat, by omega⟩
     rw [Int.toNat_natCast] at b8 ⊢
     have e1 : (9007199254740991 : Int) / 2 ^ k = ((9007199254740991 / 2 ^ k : Nat) : Int) := by rw [Int.natCast_ediv, Int.natCast_pow]; rfl
     rw [e1]
     have lt : 9007199254740991 / 2 ^ k < m := by
      rw [Nat.div_lt_iff_lt_mul (Nat.two_pow_pos k)]
      omega
     omega
theorem one_digit23 {c : Nat} (c1 : 49 ≤ c) (c9 : c ≤ 57) (p : Int) (h0 : -1000 ≤ p) (h1 : p ≤ 1000) {j k : Nat} (hj : c - 48 = j) (hk : (p + (R0 : Int) - 1).toNat = k) : Dx ⟨#[UInt8.ofNat c]⟩ p (j * 10 ^ k) := by
 have e : (UInt8.ofNat c).toNat = c := by
  rw [UInt8.toNat_ofNat']
  omega
 have s1 : (⟨#[UInt8.ofNat c]⟩ : ByteArray).size = 1 := rfl
 have d0 : dgt ⟨#[UInt8.ofNat c]⟩ 0 = c := by
  rw [dgt_lt (by rw [s1]; decide)]
  exact e
 have dg : DG ⟨#[UInt8.ofNat c]⟩ := fun i hi => by
  rw [← dgt_lt hi, show i = 0 by rw [s1] at hi; omega, d0]
  omega
 refine ⟨Or.inr (nf_vn ⟨by rw [s1]; decide, dg, by rw [d0]; omega, by show dgt _ 0 ≠ 48; rw [d0]; omega⟩ (by rw [s1]; decide) (by omega) (by omega)), ?_, ?_⟩
 · rw [s1]; unfold R0; omega
 · rw [s1]
   show (10 * 0 + (dgt ⟨#[UInt8.ofNat c]⟩ 0 - 48)) * _ = _
   rw [d0, Nat.mul_zero, Nat.zero_add, hj]
   rw [← hk]
   rfl
theorem fn100 : Fn 64 52 2047 (-1074) 9223372036854775808 9218868437227405312 4636737291354636288 := ⟨Or.inr ⟨rfl, rfl, rfl, rfl, rfl, rfl⟩, by decide, by decide +kernel⟩
theorem k100 : vlF 52 (-1074) (mg 9223372036854775808 4636737291354636288) = 1 * 10 ^ 1102 ∧ mg 9223372036854775808 4636737291354636288 ≠ 0 ∧ mt 52 (mg 9223372036854775808 4636737291354636288) = 7036874417766400 ∧ xp 52 (-1074) (mg 9223372036854775808 4636737291354636288) = -46 ∧ 7036874417766400 % 2 ^ 46 = 0 ∧ rnU (1 * 10 ^ 1102) (10 ^ 1101) = 1 * 10 ^ 1102 := by decide +kernel
theorem hd_100 (w : World) (gd : Gd w) : Calls Tryz.prog 5 #[.int .u64 4636737291354636288, .int .i64 64, .int .i64 2] w fun e w' => e = .returned (.tuple #[.agg #[.string ⟨#[49]⟩, .int .i64 3, .bool false], .bool true, .nilIface]) ∧ Below w.heap.size w w' := by
 obtain ⟨k1, k2, k3, k4, k5, k6⟩ := k100
 have D := one_digit23 (c := 49) (by decide) (by decide) 3 (by decide) (by decide) (j := 1) (k := 1102) rfl rfl
 rw [← k1] at D
 rcases hd_all fn100 k2 D (n := 2) (by decide) (by decide) with ⟨v, k, a, H⟩ | ⟨_, no⟩
 · rw [k1, show (3 + (R0 : Int) - ((2 : Nat) : Int)).toNat = 1101 from rfl, k6, ← k1] at a
   obtain ⟨y1, y2⟩ := Dx.uniq a D
   have r := H w gd
   rw [y1, y2] at r
   exact r
 · exfalso
   rw [k3, k4] at no
   exact no.2 (by decide) k5
theorem ErrT.next {w w' : World} (h : ErrT w) (hb : Below w.heap.size w w') : ErrT w' := h.below hb h.pos
theorem sure23 {w : World} (gd : Gd w) :
 Calls Tryz.prog 8 #[] w fun x w' => x = .returned (.bool true) ∧ Below w.heap.size w w' := by
 have F0 : Hid (Below w.heap.size w w) := Below.refl _ _
 go_enter Tryz.func8, Tryz.ntmps8
 go_wp2_with fail
 all_goals first | (exfalso; omega) | skip
 refine (hd_100 _ (gd.next F0.out)).mono ?_
 rintro o1 w1 ⟨rfl, bb⟩
 have F1 : Hid (Below w.heap.size w w1) := (F0.out).trans (bb.mono (F0.out).size)
 clear F0
 clear bb
 have le0 := (F1.out).size
 have F2 : Hid (Bk (w1.alloc (.cells #[.string ⟨#[49]⟩, .int .i64 3, .bool false] 24)) (w1.heap.size) [.string ⟨#[49]⟩, .int .i64 3, .bool false] ∧ Below w.heap.size w (w1.alloc (.cells #[.string ⟨#[49]⟩, .int .i64 3, .bool false] 24))) := ⟨Bk.newL w1 [.string ⟨#[49]⟩, .int .i64 3, .bool false] 24, (F1.out).alloc ((F1.out).size) _⟩
 clear F1
 go_upto_region 2 with fail
 generalize (w1.alloc (.cells #[.string ⟨#[49]⟩, .int .i64 3, .bool false] 24)) = w2 at *
 have l1_0 := F2.out.1.lt
 have a1_0_0 := F2.out.1.cell 0 _ rfl
 have f1_0_0 := F2.out.1.fz 0
 have a1_0_1 := F2.out.1.cell 1 _ rfl
 have f1_0_1 := F2.out.1.fz 1
 have a1_0_2 := F2.out.1.cell 2 _ rfl
 have f1_0_2 := F2.out.1.fz 2
 go_wp2
 go_ret
 exact ⟨rfl, F2.out.2⟩
theorem hl_err {w : World} {b z n er : Int} (gd : Gd w) (et : ErrT w) (q1 : (er != 0) = true) (HQ : ∀ W, Gd W → Calls Tryz.prog 5 #[.int .u64 b, .int .i64 z, .int .i64 n] W fun e w' => e = .returned (.tuple #[.agg #[.string ⟨#[]⟩, .int .i64 0, .bool false], .bool false, .iface 42 (.int .i64 er)]) ∧ Below W.heap.size W w') (HC : ∀ W, Calls Tryz.prog 6 #[.int .u64 b, .int .i64 z, .int .i64 n] W fun e w' => e = .returned (.tuple #[.agg #[.string ⟨#[]⟩, .int .i64 0, .bool false], .int .i64 er]) ∧ Below W.heap.size W w') :
 Calls Tryz.prog 3 #[.int .u64 b, .int .i64 z, .int .i64 n] w fun x w' => x = .returned (.bool true) ∧ Below w.heap.size w w' := by
 have F0 : Hid (Below w.heap.size w w) := Below.refl _ _
 go_enter Tryz.func3, Tryz.ntmps3
 go_wp2_with fail
 all_goals first | (exfalso; omega) | skip
 refine (HQ _ (gd.next F0.out)).mono ?_
 rintro o1 w1 ⟨rfl, bb⟩
 have F1 : Hid (Below w.heap.size w w1) := (F0.out).trans (bb.mono (F0.out).size)
 clear F0
 clear bb
 have le0 := (F1.out).size
 have F2 : Hid (Bk (w1.alloc (.cells #[.string ⟨#[]⟩, .int .i64 0, .bool false] 24)) (w1.heap.size) [.string ⟨#[]⟩, .int .i64 0, .bool false] ∧ Below w.heap.size w (w1.alloc (.cells #[.string ⟨#[]⟩, .int .i64 0, .bool false] 24))) := ⟨Bk.newL w1 [.string ⟨#[]⟩, .int .i64 0, .bool false] 24, (F1.out).alloc ((F1.out).size) _⟩
 clear F1
 go_upto_region 2 with fail
 generalize (w1.alloc (.cells #[.string ⟨#[]⟩, .int .i64 0, .bool false] 24)) = w2 at *
 have l1_0 := F2.out.1.lt
 have a1_0_0 := F2.out.1.cell 0 _ rfl
 have f1_0_0 := F2.out.1.fz 0
 have a1_0_1 := F2.out.1.cell 1 _ rfl
 have f1_0_1 := F2.out.1.fz 1
 have a1_0_2 := F2.out.1.cell 2 _ rfl
 have f1_0_2 := F2.out.1.fz 2
 go_wp2_with fail
 all_goals first | (exfalso; omega) | skip
 refine (HC _).mono ?_
 rintro o3 w3 ⟨rfl, bb⟩
 have F3 : Hid (Bk w3 (w1.heap.size) [.string ⟨#[]⟩, .int .i64 0, .bool false] ∧ Below w.heap.size w w3) := ⟨(F2.out.1).step bb, (F2.out.2).trans (bb.mono (F2.out.2).size)⟩
 clear F2
 clear bb
 clear l1_0 a1_0_0 f1_0_0 a1_0_1 f1_0_1 a1_0_2 f1_0_2
 have lt0_1 := (F3.out.1).lt
 have le1 := (F3.out.2).size
 have F4 : Hid (Bk (w3.alloc (.cells #[.string ⟨#[]⟩, .int .i64 0, .bool false] 24)) (w1.heap.size) [.string ⟨#[]⟩, .int .i64 0, .bool false] ∧ Bk (w3.alloc (.cells #[.string ⟨#[]⟩, .int .i64 0, .bool false] 24)) (w3.heap.size) [.string ⟨#[]⟩, .int .i64 0, .bool false] ∧ Below w.heap.size w (w3.alloc (.cells #[.string ⟨#[]⟩, .int .i64 0, .bool false] 24))) := ⟨(F3.out.1).step ((Below.refl _ _).alloc (Nat.le_refl _) _), Bk.newL w3 [.string ⟨#[]⟩, .int .i64 0, .bool false] 24, (F3.out.2).alloc ((F3.out.2).size) _⟩
 clear F3
 go_upto_region 3 with fail
 generalize (w3.alloc (.cells #[.string ⟨#[]⟩, .int .i64 0, .bool false] 24)) = w4 at *
 have l2_0 := F4.out.1.lt
 have a2_0_0 := F4.out.1.cell 0 _ rfl
 have f2_0_0 := F4.out.1.fz 0
 have a2_0_1 := F4.out.1.cell 1 _ rfl
 have f2_0_1 := F4.out.1.fz 1
 have a2_0_2 := F4.out.1.cell 2 _ rfl
 have f2_0_2 := F4.out.1.fz 2
 have l2_1 := F4.out.2.1.lt
 have a2_1_0 := F4.out.2.1.cell 0 _ rfl
 have f2_1_0 := F4.out.2.1.fz 0
 have a2_1_1 := F4.out.2.1.cell 1 _ rfl
 have f2_1_1 := F4.out.2.1.fz 1
 have a2_1_2 := F4.out.2.1.cell 2 _ rfl
 have f2_1_2 := F4.out.2.1.fz 2
 have ne2_0_1 : ¬ w1.heap.size = w3.heap.size := by omega
 have ne2_1_0 : ¬ w3.heap.size = w1.heap.size := by omega
 go_wp2_with fail
 all_goals first | (exfalso; omega) | skip
 refine (num_errno er _ (et.next F4.out.2.2)).mono ?_
 rintro o5 w5 ⟨rfl, bb⟩
 have F5 : Hid (Bk w5 (w1.heap.size) [.string ⟨#[]⟩, .int .i64 0, .bool false] ∧ Bk w5 (w3.heap.size) [.string ⟨#[]⟩, .int .i64 0, .bool false] ∧ Below w.heap.size w w5) := ⟨(F4.out.1).step bb, (F4.out.2.1).step bb, (F4.out.2.2).trans (bb.mono (F4.out.2.2).size)⟩
 clear F4
 clear bb
 clear l2_0 a2_0_0 f2_0_0 a2_0_1 f2_0_1 a2_0_2 f2_0_2 l2_1 a2_1_0 f2_1_0 a2_1_1 f2_1_1 a2_1_2 f2_1_2
 have l3_0 := F5.out.1.lt
 have a3_0_0 := F5.out.1.cell 0 _ rfl
 have f3_0_0 := F5.out.1.fz 0
 have a3_0_1 := F5.out.1.cell 1 _ rfl
 have f3_0_1 := F5.out.1.fz 1
 have a3_0_2 := F5.out.1.cell 2 _ rfl
 have f3_0_2 := F5.out.1.fz 2
 have l3_1 := F5.out.2.1.lt
 have a3_1_0 := F5.out.2.1.cell 0 _ rfl
 have f3_1_0 := F5.out.2.1.fz 0
 have a3_1_1 := F5.out.2.1.cell 1 _ rfl
 have f3_1_1 := F5.out.2.1.fz 1
 have a3_1_2 := F5.out.2.1.cell 2 _ rfl
 have f3_1_2 := F5.out.2.1.fz 2
 have ne3_0_1 : ¬ w1.heap.size = w3.heap.size := by omega
 have ne3_1_0 : ¬ w3.heap.size = w1.heap.size := by omega
 go_wp2_with fail
 all_goals first | (exfalso; omega) | skip
 refine (sure23 (gd.next F5.out.2.2)).mono ?_
 rintro o6 w6 ⟨rfl, bb⟩
 have F6 : Hid (Bk w6 (w1.heap.size) [.string ⟨#[]⟩, .int .i64 0, .bool false] ∧ Bk w6 (w3.heap.size) [.string ⟨#[]⟩, .int .i64 0, .bool false] ∧ Below w.heap.size w w6) := ⟨(F5.out.1).step bb, (F5.out.2.1).step bb, (F5.out.2.2).trans (bb.mono (F5.out.2.2).size)⟩
 clear F5
 clear bb
 go_wp2
 go_ret
 exact ⟨rfl, F6.out.2.2⟩
theorem hl_not {w : World} {b z n v2 : Int} {v1 : ByteArray} (gd : Gd w) (HQ : ∀ W, Gd W → Calls Tryz.prog 5 #[.int .u64 b, .int .i64 z, .int .i64 n] W fun e w' => e = .returned (.tuple #[.agg #[.string ⟨#[]⟩, .int .i64 0, .bool false], .bool false, .nilIface]) ∧ Below W.heap.size W w') (HC : ∀ W, Calls Tryz.prog 6 #[.int .u64 b, .int .i64 z, .int .i64 n] W fun e w' => e = .returned (.tuple #[.agg #[.string v1, .int .i64 v2, .bool false], .int .i64 0]) ∧ Below W.heap.size W w') (HW : ∀ W, Calls Tryz.prog 9 #[.int .u64 b, .int .i64 z, .int .u64 9007199254740992] W fun e w' => e = .returned (.bool false) ∧ Below W.heap.size W w') :
 Calls Tryz.prog 3 #[.int .u64 b, .int .i64 z, .int .i64 n] w fun x w' => x = .returned (.bool true) ∧ Below w.heap.size w w' := by
 have F0 : Hid (Below w.heap.size w w) := Below.refl _ _
 go_enter Tryz.func3, Tryz.ntmps3
 go_wp2_with fail
 all_goals first | (exfalso; omega) | skip
 refine (HQ _ (gd.next F0.out)).mono ?_
 rintro o1 w1 ⟨rfl, bb⟩
 have F1 : Hid (Below w.heap.size w w1) := (F0.out).trans (bb.mono (F0.out).size)
 clear F0
 clear bb
 have le0 := (F1.out).size
 have F2 : Hid (Bk (w1.alloc (.cells #[.string ⟨#[]⟩, .int .i64 0, .bool false] 24)) (w1.heap.size) [.string ⟨#[]⟩, .int .i64 0, .bool false] ∧ Below w.heap.size w (w1.alloc (.cells #[.string ⟨#[]⟩, .int .i64 0, .bool false] 24))) := ⟨Bk.newL w1 [.string ⟨#[]⟩, .int .i64 0, .bool false] 24, (F1.out).alloc ((F1.out).size) _⟩
 clear F1
 go_upto_region 2 with fail
 generalize (w1.alloc (.cells #[.string ⟨#[]⟩, .int .i64 0, .bool false] 24)) = w2 at *
 have l1_0 := F2.out.1.lt
 have a1_0_0 := F2.out.1.cell 0 _ rfl
 have f1_0_0 := F2.out.1.fz 0
 have a1_0_1 := F2.out.1.cell 1 _ rfl
 have f1_0_1 := F2.out.1.fz 1
 have a1_0_2 := F2.out.1.cell 2 _ rfl
 have f1_0_2 := F2.out.1.fz 2
 go_wp2_with fail
 all_goals first | (exfalso; omega) | skip
 refine (HC _).mono ?_
 rintro o3 w3 ⟨rfl, bb⟩
 have F3 : Hid (Bk w3 (w1.heap.size) [.string ⟨#[]⟩, .int .i64 0, .bool false] ∧ Below w.heap.size w w3) := ⟨(F2.out.1).step bb, (F2.out.2).trans (bb.mono (F2.out.2).size)⟩
 clear F2
 clear bb
 clear l1_0 a1_0_0 f1_0_0 a1_0_1 f1_0_1 a1_0_2 f1_0_2
 have lt0_1 := (F3.out.1).lt
 have le1 := (F3.out.2).size
 have F4 : Hid (Bk (w3.alloc (.cells #[.string v1, .int .i64 v2, .bool false] 24)) (w1.heap.size) [.string ⟨#[]⟩, .int .i64 0, .bool false] ∧ Bk (w3.alloc (.cells #[.string v1, .int .i64 v2, .bool false] 24)) (w3.heap.size) [.string v1, .int .i64 v2, .bool false] ∧ Below w.heap.size w (w3.alloc (.cells #[.string v1, .int .i64 v2, .bool false] 24))) := ⟨(F3.out.1).step ((Below.refl _ _).alloc (Nat.le_refl _) _), Bk.newL w3 [.string v1, .int .i64 v2, .bool false] 24, (F3.out.2).alloc ((F3.out.2).size) _⟩
 clear F3
 go_upto_region 3 with fail
 generalize (w3.alloc (.cells #[.string v1, .int .i64 v2, .bool false] 24)) = w4 at *
 have l2_0 := F4.out.1.lt
 have a2_0_0 := F4.out.1.cell 0 _ rfl
 have f2_0_0 := F4.out.1.fz 0
 have a2_0_1 := F4.out.1.cell 1 _ rfl
 have f2_0_1 := F4.out.1.fz 1
 have a2_0_2 := F4.out.1.cell 2 _ rfl
 have f2_0_2 := F4.out.1.fz 2
 have l2_1 := F4.out.2.1.lt
 have a2_1_0 := F4.out.2.1.cell 0 _ rfl
 have f2_1_0 := F4.out.2.1.fz 0
 have a2_1_1 := F4.out.2.1.cell 1 _ rfl
 have f2_1_1 := F4.out.2.1.fz 1
 have a2_1_2 := F4.out.2.1.cell 2 _ rfl
 have f2_1_2 := F4.out.2.1.fz 2
 have ne2_0_1 : ¬ w1.heap.size = w3.heap.size := by omega
 have ne2_1_0 : ¬ w3.heap.size = w1.heap.size := by omega
 go_wp2_with fail
 all_goals first | (exfalso; omega) | skip
 refine (HW _).mono ?_
 rintro o5 w5 ⟨rfl, bb⟩
 have F5 : Hid (Bk w5 (w1.heap.size) [.string ⟨#[]⟩, .int .i64 0, .bool false] ∧ Bk w5 (w3.heap.size) [.string v1, .int .i64 v2, .bool false] ∧ Below w.heap.size w w5) := ⟨(F4.out.1).step bb, (F4.out.2.1).step bb, (F4.out.2.2).trans (bb.mono (F4.out.2.2).size)⟩
 clear F4
 clear bb
 clear l2_0 a2_0_0 f2_0_0 a2_0_1 f2_0_1 a2_0_2 f2_0_2 l2_1 a2_1_0 f2_1_0 a2_1_1 f2_1_1 a2_1_2 f2_1_2
 have l3_0 := F5.out.1.lt
 have a3_0_0 := F5.out.1.cell 0 _ rfl
 have f3_0_0 := F5.out.1.fz 0
 have a3_0_1 := F5.out.1.cell 1 _ rfl
 have f3_0_1 := F5.out.1.fz 1
 have a3_0_2 := F5.out.1.cell 2 _ rfl
 have f3_0_2 := F5.out.1.fz 2
 have l3_1 := F5.out.2.1.lt
 have a3_1_0 := F5.out.2.1.cell 0 _ rfl
 have f3_1_0 := F5.out.2.1.fz 0
 have a3_1_1 := F5.out.2.1.cell 1 _ rfl
 have f3_1_1 := F5.out.2.1.fz 1
 have a3_1_2 := F5.out.2.1.cell 2 _ rfl
 have f3_1_2 := F5.out.2.1.fz 2
 have ne3_0_1 : ¬ w1.heap.size = w3.heap.size := by omega
 have ne3_1_0 : ¬ w3.heap.size = w1.heap.size := by omega
 go_wp2_with fail
 all_goals first | (exfalso; omega) | skip
 refine (sure23 (gd.next F5.out.2.2)).mono ?_
 rintro o6 w6 ⟨rfl, bb⟩
 have F6 : Hid (Bk w6 (w1.heap.size) [.string ⟨#[]⟩, .int .i64 0, .bool false] ∧ Bk w6 (w3.heap.size) [.string v1, .int .i64 v2, .bool false] ∧ Below w.heap.size w w6) := ⟨(F5.out.1).step bb, (F5.out.2.1).step bb, (F5.out.2.2).trans (bb.mono (F5.out.2.2).size)⟩
 clear F5
 clear bb
 go_wp2
 go_ret
 exact ⟨rfl, F6.out.2.2⟩
theorem hl_sure {w : World} {b z n d2 : Int} {d1 : ByteArray} (gd : Gd w) (HQ : ∀ W, Gd W → Calls Tryz.prog 5 #[.int .u64 b, .int .i64 z, .int .i64 n] W fun e w' => e = .returned (.tuple #[.agg #[.string d1, .int .i64 d2, .bool false], .bool true, .nilIface]) ∧ Below W.heap.size W w') (HC : ∀ W, Calls Tryz.prog 6 #[.int .u64 b, .int .i64 z, .int .i64 n] W fun e w' => e = .returned (.tuple #[.agg #[.string d1, .int .i64 d2, .bool false], .int .i64 0]) ∧ Below W.heap.size W w') :
 Calls Tryz.prog 3 #[.int .u64 b, .int .i64 z, .int .i64 n] w fun x w' => x = .returned (.bool true) ∧ Below w.heap.size w w' := by
 have F0 : Hid (Below w.heap.size w w) := Below.refl _ _
 go_enter Tryz.func3, Tryz.ntmps3
 go_wp2_with fail
 all_goals first | (exfalso; omega) | skip
 refine (HQ _ (gd.next F0.out)).mono ?_
 rintro o1 w1 ⟨rfl, bb⟩
 have F1 : Hid (Below w.heap.size w w1) := (F0.out).trans (bb.mono (F0.out).size)
 clear F0
 clear bb
 have le0 := (F1.out).size
 have F2 : Hid (Bk (w1.alloc (.cells #[.string d1, .int .i64 d2, .bool false] 24)) (w1.heap.size) [.string d1, .int .i64 d2, .bool false] ∧ Below w.heap.size w (w1.alloc (.cells #[.string d1, .int .i64 d2, .bool false] 24))) := ⟨Bk.newL w1 [.string d1, .int .i64 d2, .bool false] 24, (F1.out).alloc ((F1.out).size) _⟩
 clear F1
 go_upto_region 2 with fail
 generalize (w1.alloc (.cells #[.string d1, .int .i64 d2, .bool false] 24)) = w2 at *
 have l1_0 := F2.out.1.lt
 have a1_0_0 := F2.out.1.cell 0 _ rfl
 have f1_0_0 := F2.out.1.fz 0
 have a1_0_1 := F2.out.1.cell 1 _ rfl
 have f1_0_1 := F2.out.1.fz 1
 have a1_0_2 := F2.out.1.cell 2 _ rfl
 have f1_0_2 := F2.out.1.fz 2
 go_wp2_with fail
 all_goals first | (exfalso; omega) | skip
 refine (HC _).mono ?_
 rintro o3 w3 ⟨rfl, bb⟩
 have F3 : Hid (Bk w3 (w1.heap.size) [.string d1, .int .i64 d2, .bool false] ∧ Below w.heap.size w w3) := ⟨(F2.out.1).step bb, (F2.out.2).trans (bb.mono (F2.out.2).size)⟩
 clear F2
 clear bb
 clear l1_0 a1_0_0 f1_0_0 a1_0_1 f1_0_1 a1_0_2 f1_0_2
 have lt0_1 := (F3.out.1).lt
 have le1 := (F3.out.2).size
 have F4 : Hid (Bk (w3.alloc (.cells #[.string d1, .int .i64 d2, .bool false] 24)) (w1.heap.size) [.string d1, .int .i64 d2, .bool false] ∧ Bk (w3.alloc (.cells #[.string d1, .int .i64 d2, .bool false] 24)) (w3.heap.size) [.string d1, .int .i64 d2, .bool false] ∧ Below w.heap.size w (w3.alloc (.cells #[.string d1, .int .i64 d2, .bool false] 24))) := ⟨(F3.out.1).step ((Below.refl _ _).alloc (Nat.le_refl _) _), Bk.newL w3 [.string d1, .int .i64 d2, .bool false] 24, (F3.out.2).alloc ((F3.out.2).size) _⟩
 clear F3
 go_upto_region 3 with fail
 generalize (w3.alloc (.cells #[.string d1, .int .i64 d2, .bool false] 24)) = w4 at *
 have l2_0 := F4.out.1.lt
 have a2_0_0 := F4.out.1.cell 0 _ rfl
 have f2_0_0 := F4.out.1.fz 0
 have a2_0_1 := F4.out.1.cell 1 _ rfl
 have f2_0_1 := F4.out.1.fz 1
 have a2_0_2 := F4.out.1.cell 2 _ rfl
 have f2_0_2 := F4.out.1.fz 2
 have l2_1 := F4.out.2.1.lt
 have a2_1_0 := F4.out.2.1.cell 0 _ rfl
 have f2_1_0 := F4.out.2.1.fz 0
 have a2_1_1 := F4.out.2.1.cell 1 _ rfl
 have f2_1_1 := F4.out.2.1.fz 1
 have a2_1_2 := F4.out.2.1.cell 2 _ rfl
 have f2_1_2 := F4.out.2.1.fz 2
 have ne2_0_1 : ¬ w1.heap.size = w3.heap.size := by omega
 have ne2_1_0 : ¬ w3.heap.size = w1.heap.size := by omega
 go_wp2_with fail
 all_goals first | (exfalso; omega) | skip
 refine (sure23 (gd.next F4.out.2.2)).mono ?_
 rintro o5 w5 ⟨rfl, bb⟩
 have F5 : Hid (Bk w5 (w1.heap.size) [.string d1, .int .i64 d2, .bool false] ∧ Bk w5 (w3.heap.size) [.string d1, .int .i64 d2, .bool false] ∧ Below w.heap.size w w5) := ⟨(F4.out.1).step bb, (F4.out.2.1).step bb, (F4.out.2.2).trans (bb.mono (F4.out.2.2).size)⟩
 clear F4
 clear bb
 go_wp2
 go_ret
 exact ⟨by first | rfl | simp, F5.out.2.2⟩
theorem hn_err {w : World} {b z n : Int} {T : TypeId} {V : Value} (gd : Gd w) (HQ : ∀ W, Gd W → Calls Tryz.prog 5 #[.int .u64 b, .int .i64 z, .int .i64 n] W fun e w' => e = .returned (.tuple #[.agg #[.string ⟨#[]⟩, .int .i64 0, .bool false], .bool false, .iface T V]) ∧ Below W.heap.size W w')  :
 Calls Tryz.prog 4 #[.int .u64 b, .int .i64 z, .int .i64 n] w fun x w' => x = .returned (.bool true) ∧ Below w.heap.size w w' := by
 have F0 : Hid (Below w.heap.size w w) := Below.refl _ _
 go_enter Tryz.func4, Tryz.ntmps4
 go_wp2_with fail
 all_goals first | (exfalso; omega) | skip
 refine (HQ _ (gd.next F0.out)).mono ?_
 rintro o1 w1 ⟨rfl, bb⟩
 have F1 : Hid (Below w.heap.size w w1) := (F0.out).trans (bb.mono (F0.out).size)
 clear F0
 clear bb
 have le0 := (F1.out).size
 have F2 : Hid (Bk (w1.alloc (.cells #[.string ⟨#[]⟩, .int .i64 0, .bool false] 24)) (w1.heap.size) [.string ⟨#[]⟩, .int .i64 0, .bool false] ∧ Below w.heap.size w (w1.alloc (.cells #[.string ⟨#[]⟩, .int .i64 0, .bool false] 24))) := ⟨Bk.newL w1 [.string ⟨#[]⟩, .int .i64 0, .bool false] 24, (F1.out).alloc ((F1.out).size) _⟩
 clear F1
 go_upto_region 2 with fail
 generalize (w1.alloc (.cells #[.string ⟨#[]⟩, .int .i64 0, .bool false] 24)) = w2 at *
 have l1_0 := F2.out.1.lt
 have a1_0_0 := F2.out.1.cell 0 _ rfl
 have f1_0_0 := F2.out.1.fz 0
 have a1_0_1 := F2.out.1.cell 1 _ rfl
 have f1_0_1 := F2.out.1.fz 1
 have a1_0_2 := F2.out.1.cell 2 _ rfl
 have f1_0_2 := F2.out.1.fz 2
 go_wp2_with fail
 all_goals first | (exfalso; omega) | skip
 refine (sure23 (gd.next F2.out.2)).mono ?_
 rintro o3 w3 ⟨rfl, bb⟩
 have F3 : Hid (Bk w3 (w1.heap.size) [.string ⟨#[]⟩, .int .i64 0, .bool false] ∧ Below w.heap.size w w3) := ⟨(F2.out.1).step bb, (F2.out.2).trans (bb.mono (F2.out.2).size)⟩
 clear F2
 clear bb
 go_wp2
 go_ret
 exact ⟨rfl, F3.out.2⟩
theorem hn_not {w : World} {b z n : Int} (gd : Gd w) (HQ : ∀ W, Gd W → Calls Tryz.prog 5 #[.int .u64 b, .int .i64 z, .int .i64 n] W fun e w' => e = .returned (.tuple #[.agg #[.string ⟨#[]⟩, .int .i64 0, .bool false], .bool false, .nilIface]) ∧ Below W.heap.size W w')  :
 Calls Tryz.prog 4 #[.int .u64 b, .int .i64 z, .int .i64 n] w fun x w' => x = .returned (.bool true) ∧ Below w.heap.size w w' := by
 have F0 : Hid (Below w.heap.size w w) := Below.refl _ _
 go_enter Tryz.func4, Tryz.ntmps4
 go_wp2_with fail
 all_goals first | (exfalso; omega) | skip
 refine (HQ _ (gd.next F0.out)).mono ?_
 rintro o1 w1 ⟨rfl, bb⟩
 have F1 : Hid (Below w.heap.size w w1) := (F0.out).trans (bb.mono (F0.out).size)
 clear F0
 clear bb
 have le0 := (F1.out).size
 have F2 : Hid (Bk (w1.alloc (.cells #[.string ⟨#[]⟩, .int .i64 0, .bool false] 24)) (w1.heap.size) [.string ⟨#[]⟩, .int .i64 0, .bool false] ∧ Below w.heap.size w (w1.alloc (.cells #[.string ⟨#[]⟩, .int .i64 0, .bool false] 24))) := ⟨Bk.newL w1 [.string ⟨#[]⟩, .int .i64 0, .bool false] 24, (F1.out).alloc ((F1.out).size) _⟩
 clear F1
 go_upto_region 2 with fail
 generalize (w1.alloc (.cells #[.string ⟨#[]⟩, .int .i64 0, .bool false] 24)) = w2 at *
 have l1_0 := F2.out.1.lt
 have a1_0_0 := F2.out.1.cell 0 _ rfl
 have f1_0_0 := F2.out.1.fz 0
 have a1_0_1 := F2.out.1.cell 1 _ rfl
 have f1_0_1 := F2.out.1.fz 1
 have a1_0_2 := F2.out.1.cell 2 _ rfl
 have f1_0_2 := F2.out.1.fz 2
 go_wp2_with fail
 all_goals first | (exfalso; omega) | skip
 refine (sure23 (gd.next F2.out.2)).mono ?_
 rintro o3 w3 ⟨rfl, bb⟩
 have F3 : Hid (Bk w3 (w1.heap.size) [.string ⟨#[]⟩, .int .i64 0, .bool false] ∧ Below w.heap.size w w3) := ⟨(F2.out.1).step bb, (F2.out.2).trans (bb.mono (F2.out.2).size)⟩
 clear F2
 clear bb
 go_wp2
 go_ret
 exact ⟨rfl, F3.out.2⟩
theorem hn_dn {w : World} {b z n d2 x2 : Int} {d1 x1 : ByteArray} {h1 : ByteArray} {h2 : Int} (gd : Gd w) (hn : ¬ n < (d1.size : Int)) (HQ : ∀ W, Gd W → Calls Tryz.prog 5 #[.int .u64 b, .int .i64 z, .int .i64 n] W fun e w' => e = .returned (.tuple #[.agg #[.string d1, .int .i64 d2, .bool false], .bool true, .nilIface]) ∧ Below W.heap.size W w') (HX : ∀ W, Calls Tryz.prog 10 #[.int .u64 b, .int .i64 z] W fun e w' => e = .returned (.tuple #[.agg #[.string x1, .int .i64 x2, .bool false], .nilIface]) ∧ Below W.heap.size W w') (HL : ∀ W, Calls Tryz.prog 11 #[.agg #[.string x1, .int .i64 x2, .bool false], .int .i64 n] W fun e w' => e = .returned (.tuple #[.agg #[.string d1, .int .i64 d2, .bool false], .nilIface]) ∧ Below W.heap.size W w') (HH : ∀ W, Calls Tryz.prog 12 #[.agg #[.string x1, .int .i64 x2, .bool false], .int .i64 n] W fun e w' => e = .returned (.tuple #[.agg #[.string h1, .int .i64 h2, .bool false], .nilIface]) ∧ Below W.heap.size W w') (HR : ∀ W, Calls Tryz.prog 13 #[.agg #[.string x1, .int .i64 x2, .bool false], .int .i64 n] W fun e w' => e = .returned (.tuple #[.agg #[.string d1, .int .i64 d2, .bool false], .nilIface]) ∧ Below W.heap.size W w') :
 Calls Tryz.prog 4 #[.int .u64 b, .int .i64 z, .int .i64 n] w fun x w' => x = .returned (.bool true) ∧ Below w.heap.size w w' := by
 have F0 : Hid (Below w.heap.size w w) := Below.refl _ _
 go_enter Tryz.func4, Tryz.ntmps4
 go_wp2_with fail
 all_goals first | (exfalso; omega) | skip
 refine (HQ _ (gd.next F0.out)).mono ?_
 rintro o1 w1 ⟨rfl, bb⟩
 have F1 : Hid (Below w.heap.size w w1) := (F0.out).trans (bb.mono (F0.out).size)
 clear F0
 clear bb
 have le0 := (F1.out).size
 have F2 : Hid (Bk (w1.alloc (.cells #[.string d1, .int .i64 d2, .bool false] 24)) (w1.heap.size) [.string d1, .int .i64 d2, .bool false] ∧ Below w.heap.size w (w1.alloc (.cells #[.string d1, .int .i64 d2, .bool false] 24))) := ⟨Bk.newL w1 [.string d1, .int .i64 d2, .bool false] 24, (F1.out).alloc ((F1.out).size) _⟩
 clear F1
 go_upto_region 2 with fail
 generalize (w1.alloc (.cells #[.string d1, .int .i64 d2, .bool false] 24)) = w2 at *
 have l1_0 := F2.out.1.lt
 have a1_0_0 := F2.out.1.cell 0 _ rfl
 have f1_0_0 := F2.out.1.fz 0
 have a1_0_1 := F2.out.1.cell 1 _ rfl
 have f1_0_1 := F2.out.1.fz 1
 have a1_0_2 := F2.out.1.cell 2 _ rfl
 have f1_0_2 := F2.out.1.fz 2
 go_wp2_with fail
 all_goals first | (exfalso; omega) | skip
 refine (HX _).mono ?_
 rintro o3 w3 ⟨rfl, bb⟩
 have F3 : Hid (Bk w3 (w1.heap.size) [.string d1, .int .i64 d2, .bool false] ∧ Below w.heap.size w w3) := ⟨(F2.out.1).step bb, (F2.out.2).trans (bb.mono (F2.out.2).size)⟩
 clear F2
 clear bb
 clear l1_0 a1_0_0 f1_0_0 a1_0_1 f1_0_1 a1_0_2 f1_0_2
 have lt0_1 := (F3.out.1).lt
 have le1 := (F3.out.2).size
 have F4 : Hid (Bk (w3.alloc (.cells #[.string x1, .int .i64 x2, .bool false] 24)) (w1.heap.size) [.string d1, .int .i64 d2, .bool false] ∧ Bk (w3.alloc (.cells #[.string x1, .int .i64 x2, .bool false] 24)) (w3.heap.size) [.string x1, .int .i64 x2, .bool false] ∧ Below w.heap.size w (w3.alloc (.cells #[.string x1, .int .i64 x2, .bool false] 24))) := ⟨(F3.out.1).step ((Below.refl _ _).alloc (Nat.le_refl _) _), Bk.newL w3 [.string x1, .int .i64 x2, .bool false] 24, (F3.out.2).alloc ((F3.out.2).size) _⟩
 clear F3
 go_upto_region 5 with fail
 generalize (w3.alloc (.cells #[.string x1, .int .i64 x2, .bool false] 24)) = w4 at *
 have l2_0 := F4.out.1.lt
 have a2_0_0 := F4.out.1.cell 0 _ rfl
 have f2_0_0 := F4.out.1.fz 0
 have a2_0_1 := F4.out.1.cell 1 _ rfl
 have f2_0_1 := F4.out.1.fz 1
 have a2_0_2 := F4.out.1.cell 2 _ rfl
 have f2_0_2 := F4.out.1.fz 2
 have l2_1 := F4.out.2.1.lt
 have a2_1_0 := F4.out.2.1.cell 0 _ rfl
 have f2_1_0 := F4.out.2.1.fz 0
 have a2_1_1 := F4.out.2.1.cell 1 _ rfl
 have f2_1_1 := F4.out.2.1.fz 1
 have a2_1_2 := F4.out.2.1.cell 2 _ rfl
 have f2_1_2 := F4.out.2.1.fz 2
 have ne2_0_1 : ¬ w1.heap.size = w3.heap.size := by omega
 have ne2_1_0 : ¬ w3.heap.size = w1.heap.size := by omega
 go_wp2_with fail
 all_goals first | (exfalso; omega) | skip
 refine (HL _).mono ?_
 rintro o5 w5 ⟨rfl, bb⟩
 have F5 : Hid (Bk w5 (w1.heap.size) [.string d1, .int .i64 d2, .bool false] ∧ Bk w5 (w3.heap.size) [.string x1, .int .i64 x2, .bool false] ∧ Below w.heap.size w w5) := ⟨(F4.out.1).step bb, (F4.out.2.1).step bb, (F4.out.2.2).trans (bb.mono (F4.out.2.2).size)⟩
 clear F4
 clear bb
 clear l2_0 a2_0_0 f2_0_0 a2_0_1 f2_0_1 a2_0_2 f2_0_2 l2_1 a2_1_0 f2_1_0 a2_1_1 f2_1_1 a2_1_2 f2_1_2
 have lt0_2 := (F5.out.1).lt
 have lt1_2 := (F5.out.2.1).lt
 have le2 := (F5.out.2.2).size
 have F6 : Hid (Bk (w5.alloc (.cells #[.string d1, .int .i64 d2, .bool false] 24)) (w1.heap.size) [.string d1, .int .i64 d2, .bool false] ∧ Bk (w5.alloc (.cells #[.string d1, .int .i64 d2, .bool false] 24)) (w3.heap.size) [.string x1, .int .i64 x2, .bool false] ∧ Bk (w5.alloc (.cells #[.string d1, .int .i64 d2, .bool false] 24)) (w5.heap.size) [.string d1, .int .i64 d2, .bool false] ∧ Below w.heap.size w (w5.alloc (.cells #[.string d1, .int .i64 d2, .bool false] 24))) := ⟨(F5.out.1).step ((Below.refl _ _).alloc (Nat.le_refl _) _), (F5.out.2.1).step ((Below.refl _ _).alloc (Nat.le_refl _) _), Bk.newL w5 [.string d1, .int .i64 d2, .bool false] 24, (F5.out.2.2).alloc ((F5.out.2.2).size) _⟩
 clear F5
 go_upto_region 6 with fail
 generalize (w5.alloc (.cells #[.string d1, .int .i64 d2, .bool false] 24)) = w6 at *
 have l3_0 := F6.out.1.lt
 have a3_0_0 := F6.out.1.cell 0 _ rfl
 have f3_0_0 := F6.out.1.fz 0
 have a3_0_1 := F6.out.1.cell 1 _ rfl
 have f3_0_1 := F6.out.1.fz 1
 have a3_0_2 := F6.out.1.cell 2 _ rfl
 have f3_0_2 := F6.out.1.fz 2
 have l3_1 := F6.out.2.1.lt
 have a3_1_0 := F6.out.2.1.cell 0 _ rfl
 have f3_1_0 := F6.out.2.1.fz 0
 have a3_1_1 := F6.out.2.1.cell 1 _ rfl
 have f3_1_1 := F6.out.2.1.fz 1
 have a3_1_2 := F6.out.2.1.cell 2 _ rfl
 have f3_1_2 := F6.out.2.1.fz 2
 have l3_2 := F6.out.2.2.1.lt
 have a3_2_0 := F6.out.2.2.1.cell 0 _ rfl
 have f3_2_0 := F6.out.2.2.1.fz 0
 have a3_2_1 := F6.out.2.2.1.cell 1 _ rfl
 have f3_2_1 := F6.out.2.2.1.fz 1
 have a3_2_2 := F6.out.2.2.1.cell 2 _ rfl
 have f3_2_2 := F6.out.2.2.1.fz 2
 have ne3_0_1 : ¬ w1.heap.size = w3.heap.size := by omega
 have ne3_0_2 : ¬ w1.heap.size = w5.heap.size := by omega
 have ne3_1_0 : ¬ w3.heap.size = w1.heap.size := by omega
 have ne3_1_2 : ¬ w3.heap.size = w5.heap.size := by omega
 have ne3_2_0 : ¬ w5.heap.size = w1.heap.size := by omega
 have ne3_2_1 : ¬ w5.heap.size = w3.heap.size := by omega
 go_wp2_with fail
 all_goals first | (exfalso; omega) | skip
 refine (HH _).mono ?_
 rintro o7 w7 ⟨rfl, bb⟩
 have F7 : Hid (Bk w7 (w1.heap.size) [.string d1, .int .i64 d2, .bool false] ∧ Bk w7 (w3.heap.size) [.string x1, .int .i64 x2, .bool false] ∧ Bk w7 (w5.heap.size) [.string d1, .int .i64 d2, .bool false] ∧ Below w.heap.size w w7) := ⟨(F6.out.1).step bb, (F6.out.2.1).step bb, (F6.out.2.2.1).step bb, (F6.out.2.2.2).trans (bb.mono (F6.out.2.2.2).size)⟩
 clear F6
 clear bb
 clear l3_0 a3_0_0 f3_0_0 a3_0_1 f3_0_1 a3_0_2 f3_0_2 l3_1 a3_1_0 f3_1_0 a3_1_1 f3_1_1 a3_1_2 f3_1_2 l3_2 a3_2_0 f3_2_0 a3_2_1 f3_2_1 a3_2_2 f3_2_2
 have lt0_3 := (F7.out.1).lt
 have lt1_3 := (F7.out.2.1).lt
 have lt2_3 := (F7.out.2.2.1).lt
 have le3 := (F7.out.2.2.2).size
 have F8 : Hid (Bk (w7.alloc (.cells #[.string h1, .int .i64 h2, .bool false] 24)) (w1.heap.size) [.string d1, .int .i64 d2, .bool false] ∧ Bk (w7.alloc (.cells #[.string h1, .int .i64 h2, .bool false] 24)) (w3.heap.size) [.string x1, .int .i64 x2, .bool false] ∧ Bk (w7.alloc (.cells #[.string h1, .int .i64 h2, .bool false] 24)) (w5.heap.size) [.string d1, .int .i64 d2, .bool false] ∧ Bk (w7.alloc (.cells #[.string h1, .int .i64 h2, .bool false] 24)) (w7.heap.size) [.string h1, .int .i64 h2, .bool false] ∧ Below w.heap.size w (w7.alloc (.cells #[.string h1, .int .i64 h2, .bool false] 24))) := ⟨(F7.out.1).step ((Below.refl _ _).alloc (Nat.le_refl _) _), (F7.out.2.1).step ((Below.refl _ _).alloc (Nat.le_refl _) _), (F7.out.2.2.1).step ((Below.refl _ _).alloc (Nat.le_refl _) _), Bk.newL w7 [.string h1, .int .i64 h2, .bool false] 24, (F7.out.2.2.2).alloc ((F7.out.2.2.2).size) _⟩
 clear F7
 go_upto_region 7 with fail
 generalize (w7.alloc (.cells #[.string h1, .int .i64 h2, .bool false] 24)) = w8 at *
 have l4_0 := F8.out.1.lt
 have a4_0_0 := F8.out.1.cell 0 _ rfl
 have f4_0_0 := F8.out.1.fz 0
 have a4_0_1 := F8.out.1.cell 1 _ rfl
 have f4_0_1 := F8.out.1.fz 1
 have a4_0_2 := F8.out.1.cell 2 _ rfl
 have f4_0_2 := F8.out.1.fz 2
 have l4_1 := F8.out.2.1.lt
 have a4_1_0 := F8.out.2.1.cell 0 _ rfl
 have f4_1_0 := F8.out.2.1.fz 0
 have a4_1_1 := F8.out.2.1.cell 1 _ rfl
 have f4_1_1 := F8.out.2.1.fz 1
 have a4_1_2 := F8.out.2.1.cell 2 _ rfl
 have f4_1_2 := F8.out.2.1.fz 2
 have l4_2 := F8.out.2.2.1.lt
 have a4_2_0 := F8.out.2.2.1.cell 0 _ rfl
 have f4_2_0 := F8.out.2.2.1.fz 0
 have a4_2_1 := F8.out.2.2.1.cell 1 _ rfl
 have f4_2_1 := F8.out.2.2.1.fz 1
 have a4_2_2 := F8.out.2.2.1.cell 2 _ rfl
 have f4_2_2 := F8.out.2.2.1.fz 2
 have l4_3 := F8.out.2.2.2.1.lt
 have a4_3_0 := F8.out.2.2.2.1.cell 0 _ rfl
 have f4_3_0 := F8.out.2.2.2.1.fz 0
 have a4_3_1 := F8.out.2.2.2.1.cell 1 _ rfl
 have f4_3_1 := F8.out.2.2.2.1.fz 1
 have a4_3_2 := F8.out.2.2.2.1.cell 2 _ rfl
 have f4_3_2 := F8.out.2.2.2.1.fz 2
 have ne4_0_1 : ¬ w1.heap.size = w3.heap.size := by omega
 have ne4_0_2 : ¬ w1.heap.size = w5.heap.size := by omega
 have ne4_0_3 : ¬ w1.heap.size = w7.heap.size := by omega
 have ne4_1_0 : ¬ w3.heap.size = w1.heap.size := by omega
 have ne4_1_2 : ¬ w3.heap.size = w5.heap.size := by omega
 have ne4_1_3 : ¬ w3.heap.size = w7.heap.size := by omega
 have ne4_2_0 : ¬ w5.heap.size = w1.heap.size := by omega
 have ne4_2_1 : ¬ w5.heap.size = w3.heap.size := by omega
 have ne4_2_3 : ¬ w5.heap.size = w7.heap.size := by omega
 have ne4_3_0 : ¬ w7.heap.size = w1.heap.size := by omega
 have ne4_3_1 : ¬ w7.heap.size = w3.heap.size := by omega
 have ne4_3_2 : ¬ w7.heap.size = w5.heap.size := by omega
 go_wp2_with fail
 all_goals first | (exfalso; omega) | skip
 refine (HR _).mono ?_
 rintro o9 w9 ⟨rfl, bb⟩
 have F9 : Hid (Bk w9 (w1.heap.size) [.string d1, .int .i64 d2, .bool false] ∧ Bk w9 (w3.heap.size) [.string x1, .int .i64 x2, .bool false] ∧ Bk w9 (w5.heap.size) [.string d1, .int .i64 d2, .bool false] ∧ Bk w9 (w7.heap.size) [.string h1, .int .i64 h2, .bool false] ∧ Below w.heap.size w w9) := ⟨(F8.out.1).step bb, (F8.out.2.1).step bb, (F8.out.2.2.1).step bb, (F8.out.2.2.2.1).step bb, (F8.out.2.2.2.2).trans (bb.mono (F8.out.2.2.2.2).size)⟩
 clear F8
 clear bb
 clear l4_0 a4_0_0 f4_0_0 a4_0_1 f4_0_1 a4_0_2 f4_0_2 l4_1 a4_1_0 f4_1_0 a4_1_1 f4_1_1 a4_1_2 f4_1_2 l4_2 a4_2_0 f4_2_0 a4_2_1 f4_2_1 a4_2_2 f4_2_2 l4_3 a4_3_0 f4_3_0 a4_3_1 f4_3_1 a4_3_2 f4_3_2
 have lt0_4 := (F9.out.1).lt
 have lt1_4 := (F9.out.2.1).lt
 have lt2_4 := (F9.out.2.2.1).lt
 have lt3_4 := (F9.out.2.2.2.1).lt
 have le4 := (F9.out.2.2.2.2).size
 have F10 : Hid (Bk (w9.alloc (.cells #[.string d1, .int .i64 d2, .bool false] 24)) (w1.heap.size) [.string d1, .int .i64 d2, .bool false] ∧ Bk (w9.alloc (.cells #[.string d1, .int .i64 d2, .bool false] 24)) (w3.heap.size) [.string x1, .int .i64 x2, .bool false] ∧ Bk (w9.alloc (.cells #[.string d1, .int .i64 d2, .bool false] 24)) (w5.heap.size) [.string d1, .int .i64 d2, .bool false] ∧ Bk (w9.alloc (.cells #[.string d1, .int .i64 d2, .bool false] 24)) (w7.heap.size) [.string h1, .int .i64 h2, .bool false] ∧ Bk (w9.alloc (.cells #[.string d1, .int .i64 d2, .bool false] 24)) (w9.heap.size) [.string d1, .int .i64 d2, .bool false] ∧ Below w.heap.size w (w9.alloc (.cells #[.string d1, .int .i64 d2, .bool false] 24))) := ⟨(F9.out.1).step ((Below.refl _ _).alloc (Nat.le_refl _) _), (F9.out.2.1).step ((Below.refl _ _).alloc (Nat.le_refl _) _), (F9.out.2.2.1).step ((Below.refl _ _).alloc (Nat.le_refl _) _), (F9.out.2.2.2.1).step ((Below.refl _ _).alloc (Nat.le_refl _) _), Bk.newL w9 [.string d1, .int .i64 d2, .bool false] 24, (F9.out.2.2.2.2).alloc ((F9.out.2.2.2.2).size) _⟩
 clear F9
 go_upto_region 10 with fail
 generalize (w9.alloc (.cells #[.string d1, .int .i64 d2, .bool false] 24)) = w10 at *
 have l5_0 := F10.out.1.lt
 have a5_0_0 := F10.out.1.cell 0 _ rfl
 have f5_0_0 := F10.out.1.fz 0
 have a5_0_1 := F10.out.1.cell 1 _ rfl
 have f5_0_1 := F10.out.1.fz 1
 have a5_0_2 := F10.out.1.cell 2 _ rfl
 have f5_0_2 := F10.out.1.fz 2
 have l5_1 := F10.out.2.1.lt
 have a5_1_0 := F10.out.2.1.cell 0 _ rfl
 have f5_1_0 := F10.out.2.1.fz 0
 have a5_1_1 := F10.out.2.1.cell 1 _ rfl
 have f5_1_1 := F10.out.2.1.fz 1
 have a5_1_2 := F10.out.2.1.cell 2 _ rfl
 have f5_1_2 := F10.out.2.1.fz 2
 have l5_2 := F10.out.2.2.1.lt
 have a5_2_0 := F10.out.2.2.1.cell 0 _ rfl
 have f5_2_0 := F10.out.2.2.1.fz 0
 have a5_2_1 := F10.out.2.2.1.cell 1 _ rfl
 have f5_2_1 := F10.out.2.2.1.fz 1
 have a5_2_2 := F10.out.2.2.1.cell 2 _ rfl
 have f5_2_2 := F10.out.2.2.1.fz 2
 have l5_3 := F10.out.2.2.2.1.lt
 have a5_3_0 := F10.out.2.2.2.1.cell 0 _ rfl
 have f5_3_0 := F10.out.2.2.2.1.fz 0
 have a5_3_1 := F10.out.2.2.2.1.cell 1 _ rfl
 have f5_3_1 := F10.out.2.2.2.1.fz 1
 have a5_3_2 := F10.out.2.2.2.1.cell 2 _ rfl
 have f5_3_2 := F10.out.2.2.2.1.fz 2
 have l5_4 := F10.out.2.2.2.2.1.lt
 have a5_4_0 := F10.out.2.2.2.2.1.cell 0 _ rfl
 have f5_4_0 := F10.out.2.2.2.2.1.fz 0
 have a5_4_1 := F10.out.2.2.2.2.1.cell 1 _ rfl
 have f5_4_1 := F10.out.2.2.2.2.1.fz 1
 have a5_4_2 := F10.out.2.2.2.2.1.cell 2 _ rfl
 have f5_4_2 := F10.out.2.2.2.2.1.fz 2
 have ne5_0_1 : ¬ w1.heap.size = w3.heap.size := by omega
 have ne5_0_2 : ¬ w1.heap.size = w5.heap.size := by omega
 have ne5_0_3 : ¬ w1.heap.size = w7.heap.size := by omega
 have ne5_0_4 : ¬ w1.heap.size = w9.heap.size := by omega
 have ne5_1_0 : ¬ w3.heap.size = w1.heap.size := by omega
 have ne5_1_2 : ¬ w3.heap.size = w5.heap.size := by omega
 have ne5_1_3 : ¬ w3.heap.size = w7.heap.size := by omega
 have ne5_1_4 : ¬ w3.heap.size = w9.heap.size := by omega
 have ne5_2_0 : ¬ w5.heap.size = w1.heap.size := by omega
 have ne5_2_1 : ¬ w5.heap.size = w3.heap.size := by omega
 have ne5_2_3 : ¬ w5.heap.size = w7.heap.size := by omega
 have ne5_2_4 : ¬ w5.heap.size = w9.heap.size := by omega
 have ne5_3_0 : ¬ w7.heap.size = w1.heap.size := by omega
 have ne5_3_1 : ¬ w7.heap.size = w3.heap.size := by omega
 have ne5_3_2 : ¬ w7.heap.size = w5.heap.size := by omega
 have ne5_3_4 : ¬ w7.heap.size = w9.heap.size := by omega
 have ne5_4_0 : ¬ w9.heap.size = w1.heap.size := by omega
 have ne5_4_1 : ¬ w9.heap.size = w3.heap.size := by omega
 have ne5_4_2 : ¬ w9.heap.size = w5.heap.size := by omega
 have ne5_4_3 : ¬ w9.heap.size = w7.heap.size := by omega
 go_wp2_with fail
 all_goals first | (exfalso; omega) | skip
 refine (sure23 (gd.next F10.out.2.2.2.2.2)).mono ?_
 rintro o11 w11 ⟨rfl, bb⟩
 have F11 : Hid (Bk w11 (w1.heap.size) [.string d1, .int .i64 d2, .bool false] ∧ Bk w11 (w3.heap.size) [.string x1, .int .i64 x2, .bool false] ∧ Bk w11 (w5.heap.size) [.string d1, .int .i64 d2, .bool false] ∧ Bk w11 (w7.heap.size) [.string h1, .int .i64 h2, .bool false] ∧ Bk w11 (w9.heap.size) [.string d1, .int .i64 d2, .bool false] ∧ Below w.heap.size w w11) := ⟨(F10.out.1).step bb, (F10.out.2.1).step bb, (F10.out.2.2.1).step bb, (F10.out.2.2.2.1).step bb, (F10.out.2.2.2.2.1).step bb, (F10.out.2.2.2.2.2).trans (bb.mono (F10.out.2.2.2.2.2).size)⟩
 clear F10
 clear bb
 go_wp2
 go_ret
 exact ⟨by first | rfl | simp, F11.out.2.2.2.2.2⟩
theorem hn_up1 {w : World} {b z n d2 x2 : Int} {d1 x1 : ByteArray} {l1 : ByteArray} (ne : ¬ d1.toList = l1.toList) (gd : Gd w) (hn : ¬ n < (d1.size : Int)) (HQ : ∀ W, Gd W → Calls Tryz.prog 5 #[.int .u64 b, .int .i64 z, .int .i64 n] W fun e w' => e = .returned (.tuple #[.agg #[.string d1, .int .i64 d2, .bool false], .bool true, .nilIface]) ∧ Below W.heap.size W w') (HX : ∀ W, Calls Tryz.prog 10 #[.int .u64 b, .int .i64 z] W fun e w' => e = .returned (.tuple #[.agg #[.string x1, .int .i64 x2, .bool false], .nilIface]) ∧ Below W.heap.size W w') (HL : ∀ W, Calls Tryz.prog 11 #[.agg #[.string x1, .int .i64 x2, .bool false], .int .i64 n] W fun e w' => e = .returned (.tuple #[.agg #[.string l1, .int .i64 d2, .bool false], .nilIface]) ∧ Below W.heap.size W w') (HH : ∀ W, Calls Tryz.prog 12 #[.agg #[.string x1, .int .i64 x2, .bool false], .int .i64 n] W fun e w' => e = .returned (.tuple #[.agg #[.string d1, .int .i64 d2, .bool false], .nilIface]) ∧ Below W.heap.size W w') (HR : ∀ W, Calls Tryz.prog 13 #[.agg #[.string x1, .int .i64 x2, .bool false], .int .i64 n] W fun e w' => e = .returned (.tuple #[.agg #[.string d1, .int .i64 d2, .bool false], .nilIface]) ∧ Below W.heap.size W w') :
 Calls Tryz.prog 4 #[.int .u64 b, .int .i64 z, .int .i64 n] w fun x w' => x = .returned (.bool true) ∧ Below w.heap.size w w' := by
 have F0 : Hid (Below w.heap.size w w) := Below.refl _ _
 go_enter Tryz.func4, Tryz.ntmps4
 go_wp2_with fail
 all_goals first | (exfalso; omega) | skip
 refine (HQ _ (gd.next F0.out)).mono ?_
 rintro o1 w1 ⟨rfl, bb⟩
 have F1 : Hid (Below w.heap.size w w1) := (F0.out).trans (bb.mono (F0.out).size)
 clear F0
 clear bb
 have le0 := (F1.out).size
 have F2 : Hid (Bk (w1.alloc (.cells #[.string d1, .int .i64 d2, .bool false] 24)) (w1.heap.size) [.string d1, .int .i64 d2, .bool false] ∧ Below w.heap.size w (w1.alloc (.cells #[.string d1, .int .i64 d2, .bool false] 24))) := ⟨Bk.newL w1 [.string d1, .int .i64 d2, .bool false] 24, (F1.out).alloc ((F1.out).size) _⟩
 clear F1
 go_upto_region 2 with fail
 generalize (w1.alloc (.cells #[.string d1, .int .i64 d2, .bool false] 24)) = w2 at *
 have l1_0 := F2.out.1.lt
 have a1_0_0 := F2.out.1.cell 0 _ rfl
 have f1_0_0 := F2.out.1.fz 0
 have a1_0_1 := F2.out.1.cell 1 _ rfl
 have f1_0_1 := F2.out.1.fz 1
 have a1_0_2 := F2.out.1.cell 2 _ rfl
 have f1_0_2 := F2.out.1.fz 2
 go_wp2_with fail
 all_goals first | (exfalso; omega) | skip
 refine (HX _).mono ?_
 rintro o3 w3 ⟨rfl, bb⟩
 have F3 : Hid (Bk w3 (w1.heap.size) [.string d1, .int .i64 d2, .bool false] ∧ Below w.heap.size w w3) := ⟨(F2.out.1).step bb, (F2.out.2).trans (bb.mono (F2.out.2).size)⟩
 clear F2
 clear bb
 clear l1_0 a1_0_0 f1_0_0 a1_0_1 f1_0_1 a1_0_2 f1_0_2
 have lt0_1 := (F3.out.1).lt
 have le1 := (F3.out.2).size
 have F4 : Hid (Bk (w3.alloc (.cells #[.string x1, .int .i64 x2, .bool false] 24)) (w1.heap.size) [.string d1, .int .i64 d2, .bool false] ∧ Bk (w3.alloc (.cells #[.string x1, .int .i64 x2, .bool false] 24)) (w3.heap.size) [.string x1, .int .i64 x2, .bool false] ∧ Below w.heap.size w (w3.alloc (.cells #[.string x1, .int .i64 x2, .bool false] 24))) := ⟨(F3.out.1).step ((Below.refl _ _).alloc (Nat.le_refl _) _), Bk.newL w3 [.string x1, .int .i64 x2, .bool false] 24, (F3.out.2).alloc ((F3.out.2).size) _⟩
 clear F3
 go_upto_region 5 with fail
 generalize (w3.alloc (.cells #[.string x1, .int .i64 x2, .bool false] 24)) = w4 at *
 have l2_0 := F4.out.1.lt
 have a2_0_0 := F4.out.1.cell 0 _ rfl
 have f2_0_0 := F4.out.1.fz 0
 have a2_0_1 := F4.out.1.cell 1 _ rfl
 have f2_0_1 := F4.out.1.fz 1
 have a2_0_2 := F4.out.1.cell 2 _ rfl
 have f2_0_2 := F4.out.1.fz 2
 have l2_1 := F4.out.2.1.lt
 have a2_1_0 := F4.out.2.1.cell 0 _ rfl
 have f2_1_0 := F4.out.2.1.fz 0
 have a2_1_1 := F4.out.2.1.cell 1 _ rfl
 have f2_1_1 := F4.out.2.1.fz 1
 have a2_1_2 := F4.out.2.1.cell 2 _ rfl
 have f2_1_2 := F4.out.2.1.fz 2
 have ne2_0_1 : ¬ w1.heap.size = w3.heap.size := by omega
 have ne2_1_0 : ¬ w3.heap.size = w1.heap.size := by omega
 go_wp2_with fail
 all_goals first | (exfalso; omega) | skip
 refine (HL _).mono ?_
 rintro o5 w5 ⟨rfl, bb⟩
 have F5 : Hid (Bk w5 (w1.heap.size) [.string d1, .int .i64 d2, .bool false] ∧ Bk w5 (w3.heap.size) [.string x1, .int .i64 x2, .bool false] ∧ Below w.heap.size w w5) := ⟨(F4.out.1).step bb, (F4.out.2.1).step bb, (F4.out.2.2).trans (bb.mono (F4.out.2.2).size)⟩
 clear F4
 clear bb
 clear l2_0 a2_0_0 f2_0_0 a2_0_1 f2_0_1 a2_0_2 f2_0_2 l2_1 a2_1_0 f2_1_0 a2_1_1 f2_1_1 a2_1_2 f2_1_2
 have lt0_2 := (F5.out.1).lt
 have lt1_2 := (F5.out.2.1).lt
 have le2 := (F5.out.2.2).size
 have F6 : Hid (Bk (w5.alloc (.cells #[.string l1, .int .i64 d2, .bool false] 24)) (w1.heap.size) [.string d1, .int .i64 d2, .bool false] ∧ Bk (w5.alloc (.cells #[.string l1, .int .i64 d2, .bool false] 24)) (w3.heap.size) [.string x1, .int .i64 x2, .bool false] ∧ Bk (w5.alloc (.cells #[.string l1, .int .i64 d2, .bool false] 24)) (w5.heap.size) [.string l1, .int .i64 d2, .bool false] ∧ Below w.heap.size w (w5.alloc (.cells #[.string l1, .int .i64 d2, .bool false] 24))) := ⟨(F5.out.1).step ((Below.refl _ _).alloc (Nat.le_refl _) _), (F5.out.2.1).step ((Below.refl _ _).alloc (Nat.le_refl _) _), Bk.newL w5 [.string l1, .int .i64 d2, .bool false] 24, (F5.out.2.2).alloc ((F5.out.2.2).size) _⟩
 clear F5
 go_upto_region 6 with fail
 generalize (w5.alloc (.cells #[.string l1, .int .i64 d2, .bool false] 24)) = w6 at *
 have l3_0 := F6.out.1.lt
 have a3_0_0 := F6.out.1.cell 0 _ rfl
 have f3_0_0 := F6.out.1.fz 0
 have a3_0_1 := F6.out.1.cell 1 _ rfl
 have f3_0_1 := F6.out.1.fz 1
 have a3_0_2 := F6.out.1.cell 2 _ rfl
 have f3_0_2 := F6.out.1.fz 2
 have l3_1 := F6.out.2.1.lt
 have a3_1_0 := F6.out.2.1.cell 0 _ rfl
 have f3_1_0 := F6.out.2.1.fz 0
 have a3_1_1 := F6.out.2.1.cell 1 _ rfl
 have f3_1_1 := F6.out.2.1.fz 1
 have a3_1_2 := F6.out.2.1.cell 2 _ rfl
 have f3_1_2 := F6.out.2.1.fz 2
 have l3_2 := F6.out.2.2.1.lt
 have a3_2_0 := F6.out.2.2.1.cell 0 _ rfl
 have f3_2_0 := F6.out.2.2.1.fz 0
 have a3_2_1 := F6.out.2.2.1.cell 1 _ rfl
 have f3_2_1 := F6.out.2.2.1.fz 1
 have a3_2_2 := F6.out.2.2.1.cell 2 _ rfl
 have f3_2_2 := F6.out.2.2.1.fz 2
 have ne3_0_1 : ¬ w1.heap.size = w3.heap.size := by omega
 have ne3_0_2 : ¬ w1.heap.size = w5.heap.size := by omega
 have ne3_1_0 : ¬ w3.heap.size = w1.heap.size := by omega
 have ne3_1_2 : ¬ w3.heap.size = w5.heap.size := by omega
 have ne3_2_0 : ¬ w5.heap.size = w1.heap.size := by omega
 have ne3_2_1 : ¬ w5.heap.size = w3.heap.size := by omega
 go_wp2_with fail
 all_goals first | (exfalso; omega) | skip
 refine (HH _).mono ?_
 rintro o7 w7 ⟨rfl, bb⟩
 have F7 : Hid (Bk w7 (w1.heap.size) [.string d1, .int .i64 d2, .bool false] ∧ Bk w7 (w3.heap.size) [.string x1, .int .i64 x2, .bool false] ∧ Bk w7 (w5.heap.size) [.string l1, .int .i64 d2, .bool false] ∧ Below w.heap.size w w7) := ⟨(F6.out.1).step bb, (F6.out.2.1).step bb, (F6.out.2.2.1).step bb, (F6.out.2.2.2).trans (bb.mono (F6.out.2.2.2).size)⟩
 clear F6
 clear bb
 clear l3_0 a3_0_0 f3_0_0 a3_0_1 f3_0_1 a3_0_2 f3_0_2 l3_1 a3_1_0 f3_1_0 a3_1_1 f3_1_1 a3_1_2 f3_1_2 l3_2 a3_2_0 f3_2_0 a3_2_1 f3_2_1 a3_2_2 f3_2_2
 have lt0_3 := (F7.out.1).lt
 have lt1_3 := (F7.out.2.1).lt
 have lt2_3 := (F7.out.2.2.1).lt
 have le3 := (F7.out.2.2.2).size
 have F8 : Hid (Bk (w7.alloc (.cells #[.string d1, .int .i64 d2, .bool false] 24)) (w1.heap.size) [.string d1, .int .i64 d2, .bool false] ∧ Bk (w7.alloc (.cells #[.string d1, .int .i64 d2, .bool false] 24)) (w3.heap.size) [.string x1, .int .i64 x2, .bool false] ∧ Bk (w7.alloc (.cells #[.string d1, .int .i64 d2, .bool false] 24)) (w5.heap.size) [.string l1, .int .i64 d2, .bool false] ∧ Bk (w7.alloc (.cells #[.string d1, .int .i64 d2, .bool false] 24)) (w7.heap.size) [.string d1, .int .i64 d2, .bool false] ∧ Below w.heap.size w (w7.alloc (.cells #[.string d1, .int .i64 d2, .bool false] 24))) := ⟨(F7.out.1).step ((Below.refl _ _).alloc (Nat.le_refl _) _), (F7.out.2.1).step ((Below.refl _ _).alloc (Nat.le_refl _) _), (F7.out.2.2.1).step ((Below.refl _ _).alloc (Nat.le_refl _) _), Bk.newL w7 [.string d1, .int .i64 d2, .bool false] 24, (F7.out.2.2.2).alloc ((F7.out.2.2.2).size) _⟩
 clear F7
 go_upto_region 7 with fail
 generalize (w7.alloc (.cells #[.string d1, .int .i64 d2, .bool false] 24)) = w8 at *
 have l4_0 := F8.out.1.lt
 have a4_0_0 := F8.out.1.cell 0 _ rfl
 have f4_0_0 := F8.out.1.fz 0
 have a4_0_1 := F8.out.1.cell 1 _ rfl
 have f4_0_1 := F8.out.1.fz 1
 have a4_0_2 := F8.out.1.cell 2 _ rfl
 have f4_0_2 := F8.out.1.fz 2
 have l4_1 := F8.out.2.1.lt
 have a4_1_0 := F8.out.2.1.cell 0 _ rfl
 have f4_1_0 := F8.out.2.1.fz 0
 have a4_1_1 := F8.out.2.1.cell 1 _ rfl
 have f4_1_1 := F8.out.2.1.fz 1
 have a4_1_2 := F8.out.2.1.cell 2 _ rfl
 have f4_1_2 := F8.out.2.1.fz 2
 have l4_2 := F8.out.2.2.1.lt
 have a4_2_0 := F8.out.2.2.1.cell 0 _ rfl
 have f4_2_0 := F8.out.2.2.1.fz 0
 have a4_2_1 := F8.out.2.2.1.cell 1 _ rfl
 have f4_2_1 := F8.out.2.2.1.fz 1
 have a4_2_2 := F8.out.2.2.1.cell 2 _ rfl
 have f4_2_2 := F8.out.2.2.1.fz 2
 have l4_3 := F8.out.2.2.2.1.lt
 have a4_3_0 := F8.out.2.2.2.1.cell 0 _ rfl
 have f4_3_0 := F8.out.2.2.2.1.fz 0
 have a4_3_1 := F8.out.2.2.2.1.cell 1 _ rfl
 have f4_3_1 := F8.out.2.2.2.1.fz 1
 have a4_3_2 := F8.out.2.2.2.1.cell 2 _ rfl
 have f4_3_2 := F8.out.2.2.2.1.fz 2
 have ne4_0_1 : ¬ w1.heap.size = w3.heap.size := by omega
 have ne4_0_2 : ¬ w1.heap.size = w5.heap.size := by omega
 have ne4_0_3 : ¬ w1.heap.size = w7.heap.size := by omega
 have ne4_1_0 : ¬ w3.heap.size = w1.heap.size := by omega
 have ne4_1_2 : ¬ w3.heap.size = w5.heap.size := by omega
 have ne4_1_3 : ¬ w3.heap.size = w7.heap.size := by omega
 have ne4_2_0 : ¬ w5.heap.size = w1.heap.size := by omega
 have ne4_2_1 : ¬ w5.heap.size = w3.heap.size := by omega
 have ne4_2_3 : ¬ w5.heap.size = w7.heap.size := by omega
 have ne4_3_0 : ¬ w7.heap.size = w1.heap.size := by omega
 have ne4_3_1 : ¬ w7.heap.size = w3.heap.size := by omega
 have ne4_3_2 : ¬ w7.heap.size = w5.heap.size := by omega
 go_wp2_with fail
 all_goals first | (exfalso; omega) | skip
 refine (HR _).mono ?_
 rintro o9 w9 ⟨rfl, bb⟩
 have F9 : Hid (Bk w9 (w1.heap.size) [.string d1, .int .i64 d2, .bool false] ∧ Bk w9 (w3.heap.size) [.string x1, .int .i64 x2, .bool false] ∧ Bk w9 (w5.heap.size) [.string l1, .int .i64 d2, .bool false] ∧ Bk w9 (w7.heap.size) [.string d1, .int .i64 d2, .bool false] ∧ Below w.heap.size w w9) := ⟨(F8.out.1).step bb, (F8.out.2.1).step bb, (F8.out.2.2.1).step bb, (F8.out.2.2.2.1).step bb, (F8.out.2.2.2.2).trans (bb.mono (F8.out.2.2.2.2).size)⟩
 clear F8
 clear bb
 clear l4_0 a4_0_0 f4_0_0 a4_0_1 f4_0_1 a4_0_2 f4_0_2 l4_1 a4_1_0 f4_1_0 a4_1_1 f4_1_1 a4_1_2 f4_1_2 l4_2 a4_2_0 f4_2_0 a4_2_1 f4_2_1 a4_2_2 f4_2_2 l4_3 a4_3_0 f4_3_0 a4_3_1 f4_3_1 a4_3_2 f4_3_2
 have lt0_4 := (F9.out.1).lt
 have lt1_4 := (F9.out.2.1).lt
 have lt2_4 := (F9.out.2.2.1).lt
 have lt3_4 := (F9.out.2.2.2.1).lt
 have le4 := (F9.out.2.2.2.2).size
 have F10 : Hid (Bk (w9.alloc (.cells #[.string d1, .int .i64 d2, .bool false] 24)) (w1.heap.size) [.string d1, .int .i64 d2, .bool false] ∧ Bk (w9.alloc (.cells #[.string d1, .int .i64 d2, .bool false] 24)) (w3.heap.size) [.string x1, .int .i64 x2, .bool false] ∧ Bk (w9.alloc (.cells #[.string d1, .int .i64 d2, .bool false] 24)) (w5.heap.size) [.string l1, .int .i64 d2, .bool false] ∧ Bk (w9.alloc (.cells #[.string d1, .int .i64 d2, .bool false] 24)) (w7.heap.size) [.string d1, .int .i64 d2, .bool false] ∧ Bk (w9.alloc (.cells #[.string d1, .int .i64 d2, .bool false] 24)) (w9.heap.size) [.string d1, .int .i64 d2, .bool false] ∧ Below w.heap.size w (w9.alloc (.cells #[.string d1, .int .i64 d2, .bool false] 24))) := ⟨(F9.out.1).step ((Below.refl _ _).alloc (Nat.le_refl _) _), (F9.out.2.1).step ((Below.refl _ _).alloc (Nat.le_refl _) _), (F9.out.2.2.1).step ((Below.refl _ _).alloc (Nat.le_refl _) _), (F9.out.2.2.2.1).step ((Below.refl _ _).alloc (Nat.le_refl _) _), Bk.newL w9 [.string d1, .int .i64 d2, .bool false] 24, (F9.out.2.2.2.2).alloc ((F9.out.2.2.2.2).size) _⟩
 clear F9
 go_upto_region 10 with fail
 generalize (w9.alloc (.cells #[.string d1, .int .i64 d2, .bool false] 24)) = w10 at *
 have l5_0 := F10.out.1.lt
 have a5_0_0 := F10.out.1.cell 0 _ rfl
 have f5_0_0 := F10.out.1.fz 0
 have a5_0_1 := F10.out.1.cell 1 _ rfl
 have f5_0_1 := F10.out.1.fz 1
 have a5_0_2 := F10.out.1.cell 2 _ rfl
 have f5_0_2 := F10.out.1.fz 2
 have l5_1 := F10.out.2.1.lt
 have a5_1_0 := F10.out.2.1.cell 0 _ rfl
 have f5_1_0 := F10.out.2.1.fz 0
 have a5_1_1 := F10.out.2.1.cell 1 _ rfl
 have f5_1_1 := F10.out.2.1.fz 1
 have a5_1_2 := F10.out.2.1.cell 2 _ rfl
 have f5_1_2 := F10.out.2.1.fz 2
 have l5_2 := F10.out.2.2.1.lt
 have a5_2_0 := F10.out.2.2.1.cell 0 _ rfl
 have f5_2_0 := F10.out.2.2.1.fz 0
 have a5_2_1 := F10.out.2.2.1.cell 1 _ rfl
 have f5_2_1 := F10.out.2.2.1.fz 1
 have a5_2_2 := F10.out.2.2.1.cell 2 _ rfl
 have f5_2_2 := F10.out.2.2.1.fz 2
 have l5_3 := F10.out.2.2.2.1.lt
 have a5_3_0 := F10.out.2.2.2.1.cell 0 _ rfl
 have f5_3_0 := F10.out.2.2.2.1.fz 0
 have a5_3_1 := F10.out.2.2.2.1.cell 1 _ rfl
 have f5_3_1 := F10.out.2.2.2.1.fz 1
 have a5_3_2 := F10.out.2.2.2.1.cell 2 _ rfl
 have f5_3_2 := F10.out.2.2.2.1.fz 2
 have l5_4 := F10.out.2.2.2.2.1.lt
 have a5_4_0 := F10.out.2.2.2.2.1.cell 0 _ rfl
 have f5_4_0 := F10.out.2.2.2.2.1.fz 0
 have a5_4_1 := F10.out.2.2.2.2.1.cell 1 _ rfl
 have f5_4_1 := F10.out.2.2.2.2.1.fz 1
 have a5_4_2 := F10.out.2.2.2.2.1.cell 2 _ rfl
 have f5_4_2 := F10.out.2.2.2.2.1.fz 2
 have ne5_0_1 : ¬ w1.heap.size = w3.heap.size := by omega
 have ne5_0_2 : ¬ w1.heap.size = w5.heap.size := by omega
 have ne5_0_3 : ¬ w1.heap.size = w7.heap.size := by omega
 have ne5_0_4 : ¬ w1.heap.size = w9.heap.size := by omega
 have ne5_1_0 : ¬ w3.heap.size = w1.heap.size := by omega
 have ne5_1_2 : ¬ w3.heap.size = w5.heap.size := by omega
 have ne5_1_3 : ¬ w3.heap.size = w7.heap.size := by omega
 have ne5_1_4 : ¬ w3.heap.size = w9.heap.size := by omega
 have ne5_2_0 : ¬ w5.heap.size = w1.heap.size := by omega
 have ne5_2_1 : ¬ w5.heap.size = w3.heap.size := by omega
 have ne5_2_3 : ¬ w5.heap.size = w7.heap.size := by omega
 have ne5_2_4 : ¬ w5.heap.size = w9.heap.size := by omega
 have ne5_3_0 : ¬ w7.heap.size = w1.heap.size := by omega
 have ne5_3_1 : ¬ w7.heap.size = w3.heap.size := by omega
 have ne5_3_2 : ¬ w7.heap.size = w5.heap.size := by omega
 have ne5_3_4 : ¬ w7.heap.size = w9.heap.size := by omega
 have ne5_4_0 : ¬ w9.heap.size = w1.heap.size := by omega
 have ne5_4_1 : ¬ w9.heap.size = w3.heap.size := by omega
 have ne5_4_2 : ¬ w9.heap.size = w5.heap.size := by omega
 have ne5_4_3 : ¬ w9.heap.size = w7.heap.size := by omega
 go_wp2_with fail
 all_goals first | (exfalso; omega) | skip
 refine (sure23 (gd.next F10.out.2.2.2.2.2)).mono ?_
 rintro o11 w11 ⟨rfl, bb⟩
 have F11 : Hid (Bk w11 (w1.heap.size) [.string d1, .int .i64 d2, .bool false] ∧ Bk w11 (w3.heap.size) [.string x1, .int .i64 x2, .bool false] ∧ Bk w11 (w5.heap.size) [.string l1, .int .i64 d2, .bool false] ∧ Bk w11 (w7.heap.size) [.string d1, .int .i64 d2, .bool false] ∧ Bk w11 (w9.heap.size) [.string d1, .int .i64 d2, .bool false] ∧ Below w.heap.size w w11) := ⟨(F10.out.1).step bb, (F10.out.2.1).step bb, (F10.out.2.2.1).step bb, (F10.out.2.2.2.1).step bb, (F10.out.2.2.2.2.1).step bb, (F10.out.2.2.2.2.2).trans (bb.mono (F10.out.2.2.2.2.2).size)⟩
 clear F10
 clear bb
 go_wp2
 go_ret
 exact ⟨by first | rfl | simp, F11.out.2.2.2.2.2⟩
theorem hn_up0 {w : World} {b z n d2 x2 : Int} {d1 x1 : ByteArray} {l1 : ByteArray} (ne : d1.toList = l1.toList) (gd : Gd w) (hn : ¬ n < (d1.size : Int)) (HQ : ∀ W, Gd W → Calls Tryz.prog 5 #[.int .u64 b, .int .i64 z, .int .i64 n] W fun e w' => e = .returned (.tuple #[.agg #[.string d1, .int .i64 d2, .bool false], .bool true, .nilIface]) ∧ Below W.heap.size W w') (HX : ∀ W, Calls Tryz.prog 10 #[.int .u64 b, .int .i64 z] W fun e w' => e = .returned (.tuple #[.agg #[.string x1, .int .i64 x2, .bool false], .nilIface]) ∧ Below W.heap.size W w') (HL : ∀ W, Calls Tryz.prog 11 #[.agg #[.string x1, .int .i64 x2, .bool false], .int .i64 n] W fun e w' => e = .returned (.tuple #[.agg #[.string l1, .int .i64 d2, .bool false], .nilIface]) ∧ Below W.heap.size W w') (HH : ∀ W, Calls Tryz.prog 12 #[.agg #[.string x1, .int .i64 x2, .bool false], .int .i64 n] W fun e w' => e = .returned (.tuple #[.agg #[.string d1, .int .i64 d2, .bool false], .nilIface]) ∧ Below W.heap.size W w') (HR : ∀ W, Calls Tryz.prog 13 #[.agg #[.string x1, .int .i64 x2, .bool false], .int .i64 n] W fun e w' => e = .returned (.tuple #[.agg #[.string d1, .int .i64 d2, .bool false], .nilIface]) ∧ Below W.heap.size W w') :
 Calls Tryz.prog 4 #[.int .u64 b, .int .i64 z, .int .i64 n] w fun x w' => x = .returned (.bool true) ∧ Below w.heap.size w w' := by
 have F0 : Hid (Below w.heap.size w w) := Below.refl _ _
 go_enter Tryz.func4, Tryz.ntmps4
 go_wp2_with fail
 all_goals first | (exfalso; omega) | skip
 refine (HQ _ (gd.next F0.out)).mono ?_
 rintro o1 w1 ⟨rfl, bb⟩
 have F1 : Hid (Below w.heap.size w w1) := (F0.out).trans (bb.mono (F0.out).size)
 clear F0
 clear bb
 have le0 := (F1.out).size
 have F2 : Hid (Bk (w1.alloc (.cells #[.string d1, .int .i64 d2, .bool false] 24)) (w1.heap.size) [.string d1, .int .i64 d2, .bool false] ∧ Below w.heap.size w (w1.alloc (.cells #[.string d1, .int .i64 d2, .bool false] 24))) := ⟨Bk.newL w1 [.string d1, .int .i64 d2, .bool false] 24, (F1.out).alloc ((F1.out).size) _⟩
 clear F1
 go_upto_region 2 with fail
 generalize (w1.alloc (.cells #[.string d1, .int .i64 d2, .bool false] 24)) = w2 at *
 have l1_0 := F2.out.1.lt
 have a1_0_0 := F2.out.1.cell 0 _ rfl
 have f1_0_0 := F2.out.1.fz 0
 have a1_0_1 := F2.out.1.cell 1 _ rfl
 have f1_0_1 := F2.out.1.fz 1
 have a1_0_2 := F2.out.1.cell 2 _ rfl
 have f1_0_2 := F2.out.1.fz 2
 go_wp2_with fail
 all_goals first | (exfalso; omega) | skip
 refine (HX _).mono ?_
 rintro o3 w3 ⟨rfl, bb⟩
 have F3 : Hid (Bk w3 (w1.heap.size) [.string d1, .int .i64 d2, .bool false] ∧ Below w.heap.size w w3) := ⟨(F2.out.1).step bb, (F2.out.2).trans (bb.mono (F2.out.2).size)⟩
 clear F2
 clear bb
 clear l1_0 a1_0_0 f1_0_0 a1_0_1 f1_0_1 a1_0_2 f1_0_2
 have lt0_1 := (F3.out.1).lt
 have le1 := (F3.out.2).size
 have F4 : Hid (Bk (w3.alloc (.cells #[.string x1, .int .i64 x2, .bool false] 24)) (w1.heap.size) [.string d1, .int .i64 d2, .bool false] ∧ Bk (w3.alloc (.cells #[.string x1, .int .i64 x2, .bool false] 24)) (w3.heap.size) [.string x1, .int .i64 x2, .bool false] ∧ Below w.heap.size w (w3.alloc (.cells #[.string x1, .int .i64 x2, .bool false] 24))) := ⟨(F3.out.1).step ((Below.refl _ _).alloc (Nat.le_refl _) _), Bk.newL w3 [.string x1, .int .i64 x2, .bool false] 24, (F3.out.2).alloc ((F3.out.2).size) _⟩
 clear F3
 go_upto_region 5 with fail
 generalize (w3.alloc (.cells #[.string x1, .int .i64 x2, .bool false] 24)) = w4 at *
 have l2_0 := F4.out.1.lt
 have a2_0_0 := F4.out.1.cell 0 _ rfl
 have f2_0_0 := F4.out.1.fz 0
 have a2_0_1 := F4.out.1.cell 1 _ rfl
 have f2_0_1 := F4.out.1.fz 1
 have a2_0_2 := F4.out.1.cell 2 _ rfl
 have f2_0_2 := F4.out.1.fz 2
 have l2_1 := F4.out.2.1.lt
 have a2_1_0 := F4.out.2.1.cell 0 _ rfl
 have f2_1_0 := F4.out.2.1.fz 0
 have a2_1_1 := F4.out.2.1.cell 1 _ rfl
 have f2_1_1 := F4.out.2.1.fz 1
 have a2_1_2 := F4.out.2.1.cell 2 _ rfl
 have f2_1_2 := F4.out.2.1.fz 2
 have ne2_0_1 : ¬ w1.heap.size = w3.heap.size := by omega
 have ne2_1_0 : ¬ w3.heap.size = w1.heap.size := by omega
 go_wp2_with fail
 all_goals first | (exfalso; omega) | skip
 refine (HL _).mono ?_
 rintro o5 w5 ⟨rfl, bb⟩
 have F5 : Hid (Bk w5 (w1.heap.size) [.string d1, .int .i64 d2, .bool false] ∧ Bk w5 (w3.heap.size) [.string x1, .int .i64 x2, .bool false] ∧ Below w.heap.size w w5) := ⟨(F4.out.1).step bb, (F4.out.2.1).step bb, (F4.out.2.2).trans (bb.mono (F4.out.2.2).size)⟩
 clear F4
 clear bb
 clear l2_0 a2_0_0 f2_0_0 a2_0_1 f2_0_1 a2_0_2 f2_0_2 l2_1 a2_1_0 f2_1_0 a2_1_1 f2_1_1 a2_1_2 f2_1_2
 have lt0_2 := (F5.out.1).lt
 have lt1_2 := (F5.out.2.1).lt
 have le2 := (F5.out.2.2).size
 have F6 : Hid (Bk (w5.alloc (.cells #[.string l1, .int .i64 d2, .bool false] 24)) (w1.heap.size) [.string d1, .int .i64 d2, .bool false] ∧ Bk (w5.alloc (.cells #[.string l1, .int .i64 d2, .bool false] 24)) (w3.heap.size) [.string x1, .int .i64 x2, .bool false] ∧ Bk (w5.alloc (.cells #[.string l1, .int .i64 d2, .bool false] 24)) (w5.heap.size) [.string l1, .int .i64 d2, .bool false] ∧ Below w.heap.size w (w5.alloc (.cells #[.string l1, .int .i64 d2, .bool false] 24))) := ⟨(F5.out.1).step ((Below.refl _ _).alloc (Nat.le_refl _) _), (F5.out.2.1).step ((Below.refl _ _).alloc (Nat.le_refl _) _), Bk.newL w5 [.string l1, .int .i64 d2, .bool false] 24, (F5.out.2.2).alloc ((F5.out.2.2).size) _⟩
 clear F5
 go_upto_region 6 with fail
 generalize (w5.alloc (.cells #[.string l1, .int .i64 d2, .bool false] 24)) = w6 at *
 have l3_0 := F6.out.1.lt
 have a3_0_0 := F6.out.1.cell 0 _ rfl
 have f3_0_0 := F6.out.1.fz 0
 have a3_0_1 := F6.out.1.cell 1 _ rfl
 have f3_0_1 := F6.out.1.fz 1
 have a3_0_2 := F6.out.1.cell 2 _ rfl
 have f3_0_2 := F6.out.1.fz 2
 have l3_1 := F6.out.2.1.lt
 have a3_1_0 := F6.out.2.1.cell 0 _ rfl
 have f3_1_0 := F6.out.2.1.fz 0
 have a3_1_1 := F6.out.2.1.cell 1 _ rfl
 have f3_1_1 := F6.out.2.1.fz 1
 have a3_1_2 := F6.out.2.1.cell 2 _ rfl
 have f3_1_2 := F6.out.2.1.fz 2
 have l3_2 := F6.out.2.2.1.lt
 have a3_2_0 := F6.out.2.2.1.cell 0 _ rfl
 have f3_2_0 := F6.out.2.2.1.fz 0
 have a3_2_1 := F6.out.2.2.1.cell 1 _ rfl
 have f3_2_1 := F6.out.2.2.1.fz 1
 have a3_2_2 := F6.out.2.2.1.cell 2 _ rfl
 have f3_2_2 := F6.out.2.2.1.fz 2
 have ne3_0_1 : ¬ w1.heap.size = w3.heap.size := by omega
 have ne3_0_2 : ¬ w1.heap.size = w5.heap.size := by omega
 have ne3_1_0 : ¬ w3.heap.size = w1.heap.size := by omega
 have ne3_1_2 : ¬ w3.heap.size = w5.heap.size := by omega
 have ne3_2_0 : ¬ w5.heap.size = w1.heap.size := by omega
 have ne3_2_1 : ¬ w5.heap.size = w3.heap.size := by omega
 go_wp2_with fail
 all_goals first | (exfalso; omega) | skip
 refine (HH _).mono ?_
 rintro o7 w7 ⟨rfl, bb⟩
 have F7 : Hid (Bk w7 (w1.heap.size) [.string d1, .int .i64 d2, .bool false] ∧ Bk w7 (w3.heap.size) [.string x1, .int .i64 x2, .bool false] ∧ Bk w7 (w5.heap.size) [.string l1, .int .i64 d2, .bool false] ∧ Below w.heap.size w w7) := ⟨(F6.out.1).step bb, (F6.out.2.1).step bb, (F6.out.2.2.1).step bb, (F6.out.2.2.2).trans (bb.mono (F6.out.2.2.2).size)⟩
 clear F6
 clear bb
 clear l3_0 a3_0_0 f3_0_0 a3_0_1 f3_0_1 a3_0_2 f3_0_2 l3_1 a3_1_0 f3_1_0 a3_1_1 f3_1_1 a3_1_2 f3_1_2 l3_2 a3_2_0 f3_2_0 a3_2_1 f3_2_1 a3_2_2 f3_2_2
 have lt0_3 := (F7.out.1).lt
 have lt1_3 := (F7.out.2.1).lt
 have lt2_3 := (F7.out.2.2.1).lt
 have le3 := (F7.out.2.2.2).size
 have F8 : Hid (Bk (w7.alloc (.cells #[.string d1, .int .i64 d2, .bool false] 24)) (w1.heap.size) [.string d1, .int .i64 d2, .bool false] ∧ Bk (w7.alloc (.cells #[.string d1, .int .i64 d2, .bool false] 24)) (w3.heap.size) [.string x1, .int .i64 x2, .bool false] ∧ Bk (w7.alloc (.cells #[.string d1, .int .i64 d2, .bool false] 24)) (w5.heap.size) [.string l1, .int .i64 d2, .bool false] ∧ Bk (w7.alloc (.cells #[.string d1, .int .i64 d2, .bool false] 24)) (w7.heap.size) [.string d1, .int .i64 d2, .bool false] ∧ Below w.heap.size w (w7.alloc (.cells #[.string d1, .int .i64 d2, .bool false] 24))) := ⟨(F7.out.1).step ((Below.refl _ _).alloc (Nat.le_refl _) _), (F7.out.2.1).step ((Below.refl _ _).alloc (Nat.le_refl _) _), (F7.out.2.2.1).step ((Below.refl _ _).alloc (Nat.le_refl _) _), Bk.newL w7 [.string d1, .int .i64 d2, .bool false] 24, (F7.out.2.2.2).alloc ((F7.out.2.2.2).size) _⟩
 clear F7
 go_upto_region 7 with fail
 generalize (w7.alloc (.cells #[.string d1, .int .i64 d2, .bool false] 24)) = w8 at *
 have l4_0 := F8.out.1.lt
 have a4_0_0 := F8.out.1.cell 0 _ rfl
 have f4_0_0 := F8.out.1.fz 0
 have a4_0_1 := F8.out.1.cell 1 _ rfl
 have f4_0_1 := F8.out.1.fz 1
 have a4_0_2 := F8.out.1.cell 2 _ rfl
 have f4_0_2 := F8.out.1.fz 2
 have l4_1 := F8.out.2.1.lt
 have a4_1_0 := F8.out.2.1.cell 0 _ rfl
 have f4_1_0 := F8.out.2.1.fz 0
 have a4_1_1 := F8.out.2.1.cell 1 _ rfl
 have f4_1_1 := F8.out.2.1.fz 1
 have a4_1_2 := F8.out.2.1.cell 2 _ rfl
 have f4_1_2 := F8.out.2.1.fz 2
 have l4_2 := F8.out.2.2.1.lt
 have a4_2_0 := F8.out.2.2.1.cell 0 _ rfl
 have f4_2_0 := F8.out.2.2.1.fz 0
 have a4_2_1 := F8.out.2.2.1.cell 1 _ rfl
 have f4_2_1 := F8.out.2.2.1.fz 1
 have a4_2_2 := F8.out.2.2.1.cell 2 _ rfl
 have f4_2_2 := F8.out.2.2.1.fz 2
 have l4_3 := F8.out.2.2.2.1.lt
 have a4_3_0 := F8.out.2.2.2.1.cell 0 _ rfl
 have f4_3_0 := F8.out.2.2.2.1.fz 0
 have a4_3_1 := F8.out.2.2.2.1.cell 1 _ rfl
 have f4_3_1 := F8.out.2.2.2.1.fz 1
 have a4_3_2 := F8.out.2.2.2.1.cell 2 _ rfl
 have f4_3_2 := F8.out.2.2.2.1.fz 2
 have ne4_0_1 : ¬ w1.heap.size = w3.heap.size := by omega
 have ne4_0_2 : ¬ w1.heap.size = w5.heap.size := by omega
 have ne4_0_3 : ¬ w1.heap.size = w7.heap.size := by omega
 have ne4_1_0 : ¬ w3.heap.size = w1.heap.size := by omega
 have ne4_1_2 : ¬ w3.heap.size = w5.heap.size := by omega
 have ne4_1_3 : ¬ w3.heap.size = w7.heap.size := by omega
 have ne4_2_0 : ¬ w5.heap.size = w1.heap.size := by omega
 have ne4_2_1 : ¬ w5.heap.size = w3.heap.size := by omega
 have ne4_2_3 : ¬ w5.heap.size = w7.heap.size := by omega
 have ne4_3_0 : ¬ w7.heap.size = w1.heap.size := by omega
 have ne4_3_1 : ¬ w7.heap.size = w3.heap.size := by omega
 have ne4_3_2 : ¬ w7.heap.size = w5.heap.size := by omega
 go_wp2_with fail
 all_goals first | (exfalso; omega) | skip
 refine (HR _).mono ?_
 rintro o9 w9 ⟨rfl, bb⟩
 have F9 : Hid (Bk w9 (w1.heap.size) [.string d1, .int .i64 d2, .bool false] ∧ Bk w9 (w3.heap.size) [.string x1, .int .i64 x2, .bool false] ∧ Bk w9 (w5.heap.size) [.string l1, .int .i64 d2, .bool false] ∧ Bk w9 (w7.heap.size) [.string d1, .int .i64 d2, .bool false] ∧ Below w.heap.size w w9) := ⟨(F8.out.1).step bb, (F8.out.2.1).step bb, (F8.out.2.2.1).step bb, (F8.out.2.2.2.1).step bb, (F8.out.2.2.2.2).trans (bb.mono (F8.out.2.2.2.2).size)⟩
 clear F8
 clear bb
 clear l4_0 a4_0_0 f4_0_0 a4_0_1 f4_0_1 a4_0_2 f4_0_2 l4_1 a4_1_0 f4_1_0 a4_1_1 f4_1_1 a4_1_2 f4_1_2 l4_2 a4_2_0 f4_2_0 a4_2_1 f4_2_1 a4_2_2 f4_2_2 l4_3 a4_3_0 f4_3_0 a4_3_1 f4_3_1 a4_3_2 f4_3_2
 have lt0_4 := (F9.out.1).lt
 have lt1_4 := (F9.out.2.1).lt
 have lt2_4 := (F9.out.2.2.1).lt
 have lt3_4 := (F9.out.2.2.2.1).lt
 have le4 := (F9.out.2.2.2.2).size
 have F10 : Hid (Bk (w9.alloc (.cells #[.string d1, .int .i64 d2, .bool false] 24)) (w1.heap.size) [.string d1, .int .i64 d2, .bool false] ∧ Bk (w9.alloc (.cells #[.string d1, .int .i64 d2, .bool false] 24)) (w3.heap.size) [.string x1, .int .i64 x2, .bool false] ∧ Bk (w9.alloc (.cells #[.string d1, .int .i64 d2, .bool false] 24)) (w5.heap.size) [.string l1, .int .i64 d2, .bool false] ∧ Bk (w9.alloc (.cells #[.string d1, .int .i64 d2, .bool false] 24)) (w7.heap.size) [.string d1, .int .i64 d2, .bool false] ∧ Bk (w9.alloc (.cells #[.string d1, .int .i64 d2, .bool false] 24)) (w9.heap.size) [.string d1, .int .i64 d2, .bool false] ∧ Below w.heap.size w (w9.alloc (.cells #[.string d1, .int .i64 d2, .bool false] 24))) := ⟨(F9.out.1).step ((Below.refl _ _).alloc (Nat.le_refl _) _), (F9.out.2.1).step ((Below.refl _ _).alloc (Nat.le_refl _) _), (F9.out.2.2.1).step ((Below.refl _ _).alloc (Nat.le_refl _) _), (F9.out.2.2.2.1).step ((Below.refl _ _).alloc (Nat.le_refl _) _), Bk.newL w9 [.string d1, .int .i64 d2, .bool false] 24, (F9.out.2.2.2.2).alloc ((F9.out.2.2.2.2).size) _⟩
 clear F9
 go_upto_region 10 with fail
 generalize (w9.alloc (.cells #[.string d1, .int .i64 d2, .bool false] 24)) = w10 at *
 have l5_0 := F10.out.1.lt
 have a5_0_0 := F10.out.1.cell 0 _ rfl
 have f5_0_0 := F10.out.1.fz 0
 have a5_0_1 := F10.out.1.cell 1 _ rfl
 have f5_0_1 := F10.out.1.fz 1
 have a5_0_2 := F10.out.1.cell 2 _ rfl
 have f5_0_2 := F10.out.1.fz 2
 have l5_1 := F10.out.2.1.lt
 have a5_1_0 := F10.out.2.1.cell 0 _ rfl
 have f5_1_0 := F10.out.2.1.fz 0
 have a5_1_1 := F10.out.2.1.cell 1 _ rfl
 have f5_1_1 := F10.out.2.1.fz 1
 have a5_1_2 := F10.out.2.1.cell 2 _ rfl
 have f5_1_2 := F10.out.2.1.fz 2
 have l5_2 := F10.out.2.2.1.lt
 have a5_2_0 := F10.out.2.2.1.cell 0 _ rfl
 have f5_2_0 := F10.out.2.2.1.fz 0
 have a5_2_1 := F10.out.2.2.1.cell 1 _ rfl
 have f5_2_1 := F10.out.2.2.1.fz 1
 have a5_2_2 := F10.out.2.2.1.cell 2 _ rfl
 have f5_2_2 := F10.out.2.2.1.fz 2
 have l5_3 := F10.out.2.2.2.1.lt
 have a5_3_0 := F10.out.2.2.2.1.cell 0 _ rfl
 have f5_3_0 := F10.out.2.2.2.1.fz 0
 have a5_3_1 := F10.out.2.2.2.1.cell 1 _ rfl
 have f5_3_1 := F10.out.2.2.2.1.fz 1
 have a5_3_2 := F10.out.2.2.2.1.cell 2 _ rfl
 have f5_3_2 := F10.out.2.2.2.1.fz 2
 have l5_4 := F10.out.2.2.2.2.1.lt
 have a5_4_0 := F10.out.2.2.2.2.1.cell 0 _ rfl
 have f5_4_0 := F10.out.2.2.2.2.1.fz 0
 have a5_4_1 := F10.out.2.2.2.2.1.cell 1 _ rfl
 have f5_4_1 := F10.out.2.2.2.2.1.fz 1
 have a5_4_2 := F10.out.2.2.2.2.1.cell 2 _ rfl
 have f5_4_2 := F10.out.2.2.2.2.1.fz 2
 have ne5_0_1 : ¬ w1.heap.size = w3.heap.size := by omega
 have ne5_0_2 : ¬ w1.heap.size = w5.heap.size := by omega
 have ne5_0_3 : ¬ w1.heap.size = w7.heap.size := by omega
 have ne5_0_4 : ¬ w1.heap.size = w9.heap.size := by omega
 have ne5_1_0 : ¬ w3.heap.size = w1.heap.size := by omega
 have ne5_1_2 : ¬ w3.heap.size = w5.heap.size := by omega
 have ne5_1_3 : ¬ w3.heap.size = w7.heap.size := by omega
 have ne5_1_4 : ¬ w3.heap.size = w9.heap.size := by omega
 have ne5_2_0 : ¬ w5.heap.size = w1.heap.size := by omega
 have ne5_2_1 : ¬ w5.heap.size = w3.heap.size := by omega
 have ne5_2_3 : ¬ w5.heap.size = w7.heap.size := by omega
 have ne5_2_4 : ¬ w5.heap.size = w9.heap.size := by omega
 have ne5_3_0 : ¬ w7.heap.size = w1.heap.size := by omega
 have ne5_3_1 : ¬ w7.heap.size = w3.heap.size := by omega
 have ne5_3_2 : ¬ w7.heap.size = w5.heap.size := by omega
 have ne5_3_4 : ¬ w7.heap.size = w9.heap.size := by omega
 have ne5_4_0 : ¬ w9.heap.size = w1.heap.size := by omega
 have ne5_4_1 : ¬ w9.heap.size = w3.heap.size := by omega
 have ne5_4_2 : ¬ w9.heap.size = w5.heap.size := by omega
 have ne5_4_3 : ¬ w9.heap.size = w7.heap.size := by omega
 go_wp2_with fail
 all_goals first | (exfalso; omega) | skip
 refine (sure23 (gd.next F10.out.2.2.2.2.2)).mono ?_
 rintro o11 w11 ⟨rfl, bb⟩
 have F11 : Hid (Bk w11 (w1.heap.size) [.string d1, .int .i64 d2, .bool false] ∧ Bk w11 (w3.heap.size) [.string x1, .int .i64 x2, .bool false] ∧ Bk w11 (w5.heap.size) [.string l1, .int .i64 d2, .bool false] ∧ Bk w11 (w7.heap.size) [.string d1, .int .i64 d2, .bool false] ∧ Bk w11 (w9.heap.size) [.string d1, .int .i64 d2, .bool false] ∧ Below w.heap.size w w11) := ⟨(F10.out.1).step bb, (F10.out.2.1).step bb, (F10.out.2.2.1).step bb, (F10.out.2.2.2.1).step bb, (F10.out.2.2.2.2.1).step bb, (F10.out.2.2.2.2.2).trans (bb.mono (F10.out.2.2.2.2.2).size)⟩
 clear F10
 clear bb
 go_wp2
 go_ret
 exact ⟨by first | rfl | simp, F11.out.2.2.2.2.2⟩
theorem hn_up2 {w : World} {b z n d2 x2 : Int} {d1 x1 : ByteArray} {l1 : ByteArray} {l2 : Int} (nf : ¬ d2 = l2) (gd : Gd w) (hn : ¬ n < (d1.size : Int)) (HQ : ∀ W, Gd W → Calls Tryz.prog 5 #[.int .u64 b, .int .i64 z, .int .i64 n] W fun e w' => e = .returned (.tuple #[.agg #[.string d1, .int .i64 d2, .bool false], .bool true, .nilIface]) ∧ Below W.heap.size W w') (HX : ∀ W, Calls Tryz.prog 10 #[.int .u64 b, .int .i64 z] W fun e w' => e = .returned (.tuple #[.agg #[.string x1, .int .i64 x2, .bool false], .nilIface]) ∧ Below W.heap.size W w') (HL : ∀ W, Calls Tryz.prog 11 #[.agg #[.string x1, .int .i64 x2, .bool false], .int .i64 n] W fun e w' => e = .returned (.tuple #[.agg #[.string l1, .int .i64 l2, .bool false], .nilIface]) ∧ Below W.heap.size W w') (HH : ∀ W, Calls Tryz.prog 12 #[.agg #[.string x1, .int .i64 x2, .bool false], .int .i64 n] W fun e w' => e = .returned (.tuple #[.agg #[.string d1, .int .i64 d2, .bool false], .nilIface]) ∧ Below W.heap.size W w') (HR : ∀ W, Calls Tryz.prog 13 #[.agg #[.string x1, .int .i64 x2, .bool false], .int .i64 n] W fun e w' => e = .returned (.tuple #[.agg #[.string d1, .int .i64 d2, .bool false], .nilIface]) ∧ Below W.heap.size W w') :
 Calls Tryz.prog 4 #[.int .u64 b, .int .i64 z, .int .i64 n] w fun x w' => x = .returned (.bool true) ∧ Below w.heap.size w w' := by
 have F0 : Hid (Below w.heap.size w w) := Below.refl _ _
 go_enter Tryz.func4, Tryz.ntmps4
 go_wp2_with fail
 all_goals first | (exfalso; omega) | skip
 refine (HQ _ (gd.next F0.out)).mono ?_
 rintro o1 w1 ⟨rfl, bb⟩
 have F1 : Hid (Below w.heap.size w w1) := (F0.out).trans (bb.mono (F0.out).size)
 clear F0
 clear bb
 have le0 := (F1.out).size
 have F2 : Hid (Bk (w1.alloc (.cells #[.string d1, .int .i64 d2, .bool false] 24)) (w1.heap.size) [.string d1, .int .i64 d2, .bool false] ∧ Below w.heap.size w (w1.alloc (.cells #[.string d1, .int .i64 d2, .bool false] 24))) := ⟨Bk.newL w1 [.string d1, .int .i64 d2, .bool false] 24, (F1.out).alloc ((F1.out).size) _⟩
 clear F1
 go_upto_region 2 with fail
 generalize (w1.alloc (.cells #[.string d1, .int .i64 d2, .bool false] 24)) = w2 at *
 have l1_0 := F2.out.1.lt
 have a1_0_0 := F2.out.1.cell 0 _ rfl
 have f1_0_0 := F2.out.1.fz 0
 have a1_0_1 := F2.out.1.cell 1 _ rfl
 have f1_0_1 := F2.out.1.fz 1
 have a1_0_2 := F2.out.1.cell 2 _ rfl
 have f1_0_2 := F2.out.1.fz 2
 go_wp2_with fail
 all_goals first | (exfalso; omega) | skip
 refine (HX _).mono ?_
 rintro o3 w3 ⟨rfl, bb⟩
 have F3 : Hid (Bk w3 (w1.heap.size) [.string d1, .int .i64 d2, .bool false] ∧ Below w.heap.size w w3) := ⟨(F2.out.1).step bb, (F2.out.2).trans (bb.mono (F2.out.2).size)⟩
 clear F2
 clear bb
 clear l1_0 a1_0_0 f1_0_0 a1_0_1 f1_0_1 a1_0_2 f1_0_2
 have lt0_1 := (F3.out.1).lt
 have le1 := (F3.out.2).size
 have F4 : Hid (Bk (w3.alloc (.cells #[.string x1, .int .i64 x2, .bool false] 24)) (w1.heap.size) [.string d1, .int .i64 d2, .bool false] ∧ Bk (w3.alloc (.cells #[.string x1, .int .i64 x2, .bool false] 24)) (w3.heap.size) [.string x1, .int .i64 x2, .bool false] ∧ Below w.heap.size w (w3.alloc (.cells #[.string x1, .int .i64 x2, .bool false] 24))) := ⟨(F3.out.1).step ((Below.refl _ _).alloc (Nat.le_refl _) _), Bk.newL w3 [.string x1, .int .i64 x2, .bool false] 24, (F3.out.2).alloc ((F3.out.2).size) _⟩
 clear F3
 go_upto_region 5 with fail
 generalize (w3.alloc (.cells #[.string x1, .int .i64 x2, .bool false] 24)) = w4 at *
 have l2_0 := F4.out.1.lt
 have a2_0_0 := F4.out.1.cell 0 _ rfl
 have f2_0_0 := F4.out.1.fz 0
 have a2_0_1 := F4.out.1.cell 1 _ rfl
 have f2_0_1 := F4.out.1.fz 1
 have a2_0_2 := F4.out.1.cell 2 _ rfl
 have f2_0_2 := F4.out.1.fz 2
 have l2_1 := F4.out.2.1.lt
 have a2_1_0 := F4.out.2.1.cell 0 _ rfl
 have f2_1_0 := F4.out.2.1.fz 0
 have a2_1_1 := F4.out.2.1.cell 1 _ rfl
 have f2_1_1 := F4.out.2.1.fz 1
 have a2_1_2 := F4.out.2.1.cell 2 _ rfl
 have f2_1_2 := F4.out.2.1.fz 2
 have ne2_0_1 : ¬ w1.heap.size = w3.heap.size := by omega
 have ne2_1_0 : ¬ w3.heap.size = w1.heap.size := by omega
 go_wp2_with fail
 all_goals first | (exfalso; omega) | skip
 refine (HL _).mono ?_
 rintro o5 w5 ⟨rfl, bb⟩
 have F5 : Hid (Bk w5 (w1.heap.size) [.string d1, .int .i64 d2, .bool false] ∧ Bk w5 (w3.heap.size) [.string x1, .int .i64 x2, .bool false] ∧ Below w.heap.size w w5) := ⟨(F4.out.1).step bb, (F4.out.2.1).step bb, (F4.out.2.2).trans (bb.mono (F4.out.2.2).size)⟩
 clear F4
 clear bb
 clear l2_0 a2_0_0 f2_0_0 a2_0_1 f2_0_1 a2_0_2 f2_0_2 l2_1 a2_1_0 f2_1_0 a2_1_1 f2_1_1 a2_1_2 f2_1_2
 have lt0_2 := (F5.out.1).lt
 have lt1_2 := (F5.out.2.1).lt
 have le2 := (F5.out.2.2).size
 have F6 : Hid (Bk (w5.alloc (.cells #[.string l1, .int .i64 l2, .bool false] 24)) (w1.heap.size) [.string d1, .int .i64 d2, .bool false] ∧ Bk (w5.alloc (.cells #[.string l1, .int .i64 l2, .bool false] 24)) (w3.heap.size) [.string x1, .int .i64 x2, .bool false] ∧ Bk (w5.alloc (.cells #[.string l1, .int .i64 l2, .bool false] 24)) (w5.heap.size) [.string l1, .int .i64 l2, .bool false] ∧ Below w.heap.size w (w5.alloc (.cells #[.string l1, .int .i64 l2, .bool false] 24))) := ⟨(F5.out.1).step ((Below.refl _ _).alloc (Nat.le_refl _) _), (F5.out.2.1).step ((Below.refl _ _).alloc (Nat.le_refl _) _), Bk.newL w5 [.string l1, .int .i64 l2, .bool false] 24, (F5.out.2.2).alloc ((F5.out.2.2).size) _⟩
 clear F5
 go_upto_region 6 with fail
 generalize (w5.alloc (.cells #[.string l1, .int .i64 l2, .bool false] 24)) = w6 at *
 have l3_0 := F6.out.1.lt
 have a3_0_0 := F6.out.1.cell 0 _ rfl
 have f3_0_0 := F6.out.1.fz 0
 have a3_0_1 := F6.out.1.cell 1 _ rfl
 have f3_0_1 := F6.out.1.fz 1
 have a3_0_2 := F6.out.1.cell 2 _ rfl
 have f3_0_2 := F6.out.1.fz 2
 have l3_1 := F6.out.2.1.lt
 have a3_1_0 := F6.out.2.1.cell 0 _ rfl
 have f3_1_0 := F6.out.2.1.fz 0
 have a3_1_1 := F6.out.2.1.cell 1 _ rfl
 have f3_1_1 := F6.out.2.1.fz 1
 have a3_1_2 := F6.out.2.1.cell 2 _ rfl
 have f3_1_2 := F6.out.2.1.fz 2
 have l3_2 := F6.out.2.2.1.lt
 have a3_2_0 := F6.out.2.2.1.cell 0 _ rfl
 have f3_2_0 := F6.out.2.2.1.fz 0
 have a3_2_1 := F6.out.2.2.1.cell 1 _ rfl
 have f3_2_1 := F6.out.2.2.1.fz 1
 have a3_2_2 := F6.out.2.2.1.cell 2 _ rfl
 have f3_2_2 := F6.out.2.2.1.fz 2
 have ne3_0_1 : ¬ w1.heap.size = w3.heap.size := by omega
 have ne3_0_2 : ¬ w1.heap.size = w5.heap.size := by omega
 have ne3_1_0 : ¬ w3.heap.size = w1.heap.size := by omega
 have ne3_1_2 : ¬ w3.heap.size = w5.heap.size := by omega
 have ne3_2_0 : ¬ w5.heap.size = w1.heap.size := by omega
 have ne3_2_1 : ¬ w5.heap.size = w3.heap.size := by omega
 go_wp2_with fail
 all_goals first | (exfalso; omega) | skip
 refine (HH _).mono ?_
 rintro o7 w7 ⟨rfl, bb⟩
 have F7 : Hid (Bk w7 (w1.heap.size) [.string d1, .int .i64 d2, .bool false] ∧ Bk w7 (w3.heap.size) [.string x1, .int .i64 x2, .bool false] ∧ Bk w7 (w5.heap.size) [.string l1, .int .i64 l2, .bool false] ∧ Below w.heap.size w w7) := ⟨(F6.out.1).step bb, (F6.out.2.1).step bb, (F6.out.2.2.1).step bb, (F6.out.2.2.2).trans (bb.mono (F6.out.2.2.2).size)⟩
 clear F6
 clear bb
 clear l3_0 a3_0_0 f3_0_0 a3_0_1 f3_0_1 a3_0_2 f3_0_2 l3_1 a3_1_0 f3_1_0 a3_1_1 f3_1_1 a3_1_2 f3_1_2 l3_2 a3_2_0 f3_2_0 a3_2_1 f3_2_1 a3_2_2 f3_2_2
 have lt0_3 := (F7.out.1).lt
 have lt1_3 := (F7.out.2.1).lt
 have lt2_3 := (F7.out.2.2.1).lt
 have le3 := (F7.out.2.2.2).size
 have F8 : Hid (Bk (w7.alloc (.cells #[.string d1, .int .i64 d2, .bool false] 24)) (w1.heap.size) [.string d1, .int .i64 d2, .bool false] ∧ Bk (w7.alloc (.cells #[.string d1, .int .i64 d2, .bool false] 24)) (w3.heap.size) [.string x1, .int .i64 x2, .bool false] ∧ Bk (w7.alloc (.cells #[.string d1, .int .i64 d2, .bool false] 24)) (w5.heap.size) [.string l1, .int .i64 l2, .bool false] ∧ Bk (w7.alloc (.cells #[.string d1, .int .i64 d2, .bool false] 24)) (w7.heap.size) [.string d1, .int .i64 d2, .bool false] ∧ Below w.heap.size w (w7.alloc (.cells #[.string d1, .int .i64 d2, .bool false] 24))) := ⟨(F7.out.1).step ((Below.refl _ _).alloc (Nat.le_refl _) _), (F7.out.2.1).step ((Below.refl _ _).alloc (Nat.le_refl _) _), (F7.out.2.2.1).step ((Below.refl _ _).alloc (Nat.le_refl _) _), Bk.newL w7 [.string d1, .int .i64 d2, .bool false] 24, (F7.out.2.2.2).alloc ((F7.out.2.2.2).size) _⟩
 clear F7
 go_upto_region 7 with fail
 generalize (w7.alloc (.cells #[.string d1, .int .i64 d2, .bool false] 24)) = w8 at *
 have l4_0 := F8.out.1.lt
 have a4_0_0 := F8.out.1.cell 0 _ rfl
 have f4_0_0 := F8.out.1.fz 0
 have a4_0_1 := F8.out.1.cell 1 _ rfl
 have f4_0_1 := F8.out.1.fz 1
 have a4_0_2 := F8.out.1.cell 2 _ rfl
 have f4_0_2 := F8.out.1.fz 2
 have l4_1 := F8.out.2.1.lt
 have a4_1_0 := F8.out.2.1.cell 0 _ rfl
 have f4_1_0 := F8.out.2.1.fz 0
 have a4_1_1 := F8.out.2.1.cell 1 _ rfl
 have f4_1_1 := F8.out.2.1.fz 1
 have a4_1_2 := F8.out.2.1.cell 2 _ rfl
 have f4_1_2 := F8.out.2.1.fz 2
 have l4_2 := F8.out.2.2.1.lt
 have a4_2_0 := F8.out.2.2.1.cell 0 _ rfl
 have f4_2_0 := F8.out.2.2.1.fz 0
 have a4_2_1 := F8.out.2.2.1.cell 1 _ rfl
 have f4_2_1 := F8.out.2.2.1.fz 1
 have a4_2_2 := F8.out.2.2.1.cell 2 _ rfl
 have f4_2_2 := F8.out.2.2.1.fz 2
 have l4_3 := F8.out.2.2.2.1.lt
 have a4_3_0 := F8.out.2.2.2.1.cell 0 _ rfl
 have f4_3_0 := F8.out.2.2.2.1.fz 0
 have a4_3_1 := F8.out.2.2.2.1.cell 1 _ rfl
 have f4_3_1 := F8.out.2.2.2.1.fz 1
 have a4_3_2 := F8.out.2.2.2.1.cell 2 _ rfl
 have f4_3_2 := F8.out.2.2.2.1.fz 2
 have ne4_0_1 : ¬ w1.heap.size = w3.heap.size := by omega
 have ne4_0_2 : ¬ w1.heap.size = w5.heap.size := by omega
 have ne4_0_3 : ¬ w1.heap.size = w7.heap.size := by omega
 have ne4_1_0 : ¬ w3.heap.size = w1.heap.size := by omega
 have ne4_1_2 : ¬ w3.heap.size = w5.heap.size := by omega
 have ne4_1_3 : ¬ w3.heap.size = w7.heap.size := by omega
 have ne4_2_0 : ¬ w5.heap.size = w1.heap.size := by omega
 have ne4_2_1 : ¬ w5.heap.size = w3.heap.size := by omega
 have ne4_2_3 : ¬ w5.heap.size = w7.heap.size := by omega
 have ne4_3_0 : ¬ w7.heap.size = w1.heap.size := by omega
 have ne4_3_1 : ¬ w7.heap.size = w3.heap.size := by omega
 have ne4_3_2 : ¬ w7.heap.size = w5.heap.size := by omega
 go_wp2_with fail
 all_goals first | (exfalso; omega) | skip
 refine (HR _).mono ?_
 rintro o9 w9 ⟨rfl, bb⟩
 have F9 : Hid (Bk w9 (w1.heap.size) [.string d1, .int .i64 d2, .bool false] ∧ Bk w9 (w3.heap.size) [.string x1, .int .i64 x2, .bool false] ∧ Bk w9 (w5.heap.size) [.string l1, .int .i64 l2, .bool false] ∧ Bk w9 (w7.heap.size) [.string d1, .int .i64 d2, .bool false] ∧ Below w.heap.size w w9) := ⟨(F8.out.1).step bb, (F8.out.2.1).step bb, (F8.out.2.2.1).step bb, (F8.out.2.2.2.1).step bb, (F8.out.2.2.2.2).trans (bb.mono (F8.out.2.2.2.2).size)⟩
 clear F8
 clear bb
 clear l4_0 a4_0_0 f4_0_0 a4_0_1 f4_0_1 a4_0_2 f4_0_2 l4_1 a4_1_0 f4_1_0 a4_1_1 f4_1_1 a4_1_2 f4_1_2 l4_2 a4_2_0 f4_2_0 a4_2_1 f4_2_1 a4_2_2 f4_2_2 l4_3 a4_3_0 f4_3_0 a4_3_1 f4_3_1 a4_3_2 f4_3_2
 have lt0_4 := (F9.out.1).lt
 have lt1_4 := (F9.out.2.1).lt
 have lt2_4 := (F9.out.2.2.1).lt
 have lt3_4 := (F9.out.2.2.2.1).lt
 have le4 := (F9.out.2.2.2.2).size
 have F10 : Hid (Bk (w9.alloc (.cells #[.string d1, .int .i64 d2, .bool false] 24)) (w1.heap.size) [.string d1, .int .i64 d2, .bool false] ∧ Bk (w9.alloc (.cells #[.string d1, .int .i64 d2, .bool false] 24)) (w3.heap.size) [.string x1, .int .i64 x2, .bool false] ∧ Bk (w9.alloc (.cells #[.string d1, .int .i64 d2, .bool false] 24)) (w5.heap.size) [.string l1, .int .i64 l2, .bool false] ∧ Bk (w9.alloc (.cells #[.string d1, .int .i64 d2, .bool false] 24)) (w7.heap.size) [.string d1, .int .i64 d2, .bool false] ∧ Bk (w9.alloc (.cells #[.string d1, .int .i64 d2, .bool false] 24)) (w9.heap.size) [.string d1, .int .i64 d2, .bool false] ∧ Below w.heap.size w (w9.alloc (.cells #[.string d1, .int .i64 d2, .bool false] 24))) := ⟨(F9.out.1).step ((Below.refl _ _).alloc (Nat.le_refl _) _), (F9.out.2.1).step ((Below.refl _ _).alloc (Nat.le_refl _) _), (F9.out.2.2.1).step ((Below.refl _ _).alloc (Nat.le_refl _) _), (F9.out.2.2.2.1).step ((Below.refl _ _).alloc (Nat.le_refl _) _), Bk.newL w9 [.string d1, .int .i64 d2, .bool false] 24, (F9.out.2.2.2.2).alloc ((F9.out.2.2.2.2).size) _⟩
 clear F9
 go_upto_region 10 with fail
 generalize (w9.alloc (.cells #[.string d1, .int .i64 d2, .bool false] 24)) = w10 at *
 have l5_0 := F10.out.1.lt
 have a5_0_0 := F10.out.1.cell 0 _ rfl
 have f5_0_0 := F10.out.1.fz 0
 have a5_0_1 := F10.out.1.cell 1 _ rfl
 have f5_0_1 := F10.out.1.fz 1
 have a5_0_2 := F10.out.1.cell 2 _ rfl
 have f5_0_2 := F10.out.1.fz 2
 have l5_1 := F10.out.2.1.lt
 have a5_1_0 := F10.out.2.1.cell 0 _ rfl
 have f5_1_0 := F10.out.2.1.fz 0
 have a5_1_1 := F10.out.2.1.cell 1 _ rfl
 have f5_1_1 := F10.out.2.1.fz 1
 have a5_1_2 := F10.out.2.1.cell 2 _ rfl
 have f5_1_2 := F10.out.2.1.fz 2
 have l5_2 := F10.out.2.2.1.lt
 have a5_2_0 := F10.out.2.2.1.cell 0 _ rfl
 have f5_2_0 := F10.out.2.2.1.fz 0
 have a5_2_1 := F10.out.2.2.1.cell 1 _ rfl
 have f5_2_1 := F10.out.2.2.1.fz 1
 have a5_2_2 := F10.out.2.2.1.cell 2 _ rfl
 have f5_2_2 := F10.out.2.2.1.fz 2
 have l5_3 := F10.out.2.2.2.1.lt
 have a5_3_0 := F10.out.2.2.2.1.cell 0 _ rfl
 have f5_3_0 := F10.out.2.2.2.1.fz 0
 have a5_3_1 := F10.out.2.2.2.1.cell 1 _ rfl
 have f5_3_1 := F10.out.2.2.2.1.fz 1
 have a5_3_2 := F10.out.2.2.2.1.cell 2 _ rfl
 have f5_3_2 := F10.out.2.2.2.1.fz 2
 have l5_4 := F10.out.2.2.2.2.1.lt
 have a5_4_0 := F10.out.2.2.2.2.1.cell 0 _ rfl
 have f5_4_0 := F10.out.2.2.2.2.1.fz 0
 have a5_4_1 := F10.out.2.2.2.2.1.cell 1 _ rfl
 have f5_4_1 := F10.out.2.2.2.2.1.fz 1
 have a5_4_2 := F10.out.2.2.2.2.1.cell 2 _ rfl
 have f5_4_2 := F10.out.2.2.2.2.1.fz 2
 have ne5_0_1 : ¬ w1.heap.size = w3.heap.size := by omega
 have ne5_0_2 : ¬ w1.heap.size = w5.heap.size := by omega
 have ne5_0_3 : ¬ w1.heap.size = w7.heap.size := by omega
 have ne5_0_4 : ¬ w1.heap.size = w9.heap.size := by omega
 have ne5_1_0 : ¬ w3.heap.size = w1.heap.size := by omega
 have ne5_1_2 : ¬ w3.heap.size = w5.heap.size := by omega
 have ne5_1_3 : ¬ w3.heap.size = w7.heap.size := by omega
 have ne5_1_4 : ¬ w3.heap.size = w9.heap.size := by omega
 have ne5_2_0 : ¬ w5.heap.size = w1.heap.size := by omega
 have ne5_2_1 : ¬ w5.heap.size = w3.heap.size := by omega
 have ne5_2_3 : ¬ w5.heap.size = w7.heap.size := by omega
 have ne5_2_4 : ¬ w5.heap.size = w9.heap.size := by omega
 have ne5_3_0 : ¬ w7.heap.size = w1.heap.size := by omega
 have ne5_3_1 : ¬ w7.heap.size = w3.heap.size := by omega
 have ne5_3_2 : ¬ w7.heap.size = w5.heap.size := by omega
 have ne5_3_4 : ¬ w7.heap.size = w9.heap.size := by omega
 have ne5_4_0 : ¬ w9.heap.size = w1.heap.size := by omega
 have ne5_4_1 : ¬ w9.heap.size = w3.heap.size := by omega
 have ne5_4_2 : ¬ w9.heap.size = w5.heap.size := by omega
 have ne5_4_3 : ¬ w9.heap.size = w7.heap.size := by omega
 go_wp2_with fail
 all_goals first | (exfalso; omega) | skip
 refine (sure23 (gd.next F10.out.2.2.2.2.2)).mono ?_
 rintro o11 w11 ⟨rfl, bb⟩
 have F11 : Hid (Bk w11 (w1.heap.size) [.string d1, .int .i64 d2, .bool false] ∧ Bk w11 (w3.heap.size) [.string x1, .int .i64 x2, .bool false] ∧ Bk w11 (w5.heap.size) [.string l1, .int .i64 l2, .bool false] ∧ Bk w11 (w7.heap.size) [.string d1, .int .i64 d2, .bool false] ∧ Bk w11 (w9.heap.size) [.string d1, .int .i64 d2, .bool false] ∧ Below w.heap.size w w11) := ⟨(F10.out.1).step bb, (F10.out.2.1).step bb, (F10.out.2.2.1).step bb, (F10.out.2.2.2.1).step bb, (F10.out.2.2.2.2.1).step bb, (F10.out.2.2.2.2.2).trans (bb.mono (F10.out.2.2.2.2.2).size)⟩
 clear F10
 clear bb
 go_wp2
 go_ret
 exact ⟨by first | rfl | simp, F11.out.2.2.2.2.2⟩
theorem law_hasty_digits (b : Nat) (hb : b < 18446744073709551616) (z n : Int) (w : World) (gd : Gd w) (er : ErrT w) :
 Calls Tryz.prog 3 #[.int .u64 (b : Int), .int .i64 z, .int .i64 n] w fun x w' => x = .returned (.bool true) ∧ Below w.heap.size w w' := by
 rcases kinds b z hb with ⟨k, h⟩ | ⟨f, T, L, S, I, h⟩
 · have n0 := h.not0
   have q : (k != 0) = true := by rw [bne, n0]; rfl
   exact hl_err gd er q (fun W _ => hd_bad h W) (fun W => rd23_err q (fun W => rchk_bad23 h W) W)
 · by_cases m0 : mg S b = 0
   · exact hl_err gd er rfl (fun W _ => hd_zero h m0 W) (fun W => rd23_err rfl (fun W => rchk_zero23 h m0 W) W)
   · have CK := fun W => rchk_is23 h m0 W
     by_cases hn : n < 1 ∨ 18 < n
     · refine hl_err gd er rfl (fun W _ => hd_out h m0 hn W) (fun W => ?_)
       rcases hn with c | c
       · exact rd23_lo c CK W
       · exact rd23_hi c CK W
     · obtain ⟨N, rfl⟩ : ∃ N : Nat, n = (N : Int) := ⟨n.toNat, by omega⟩
       obtain ⟨u, o, G, u0, o1, R⟩ := fl_rounds h m0
       obtain ⟨v, k, s1, s2, p2, D, few, du, w3⟩ := R N (by omega)
       have RO := fun W => du_rround23 (G.vn u0) o1 (by omega) (by omega) du W
       have RV : ∀ W, Calls Tryz.prog 19 #[dcV u o false, .int .i64 (N : Int)] W fun e w' => e = .returned (.tuple #[dcV v k false, .int .i64 0]) ∧ Below W.heap.size W w' := by
        intro W
        have q := RO W
        rcases w3 with ⟨c, rfl, rfl⟩ | ⟨c, rfl, rfl⟩
        · rw [if_pos c] at q; exact q
        · rw [if_neg c] at q; exact q
       have DOC := fun W => rd23_ok (by omega) (by omega) CK (fun W => rex_is h G W) RV W
       rcases hd_all h m0 G (n := N) (by omega) (by omega) with ⟨v', k', D', H⟩ | ⟨H, nw⟩
       · obtain ⟨rfl, rfl⟩ := Dx.uniq D' D
         exact hl_sure gd H DOC
       · exact hl_not gd H DOC (fun W => whole_not23 h m0 nw W)
theorem law_hasty_near (b : Nat) (hb : b < 18446744073709551616) (z n : Int) (w : World) (gd : Gd w) :
 Calls Tryz.prog 4 #[.int .u64 (b : Int), .int .i64 z, .int .i64 n] w fun x w' => x = .returned (.bool true) ∧ Below w.heap.size w w' := by
 rcases kinds b z hb with ⟨k, h⟩ | ⟨f, T, L, S, I, h⟩
 · exact hn_err gd (fun W _ => hd_bad h W)
 · by_cases m0 : mg S b = 0
   · exact hn_err gd (fun W _ => hd_zero h m0 W)
   · by_cases hn : n < 1 ∨ 18 < n
     · exact hn_err gd (fun W _ => hd_out h m0 hn W)
     · obtain ⟨N, rfl⟩ : ∃ N : Nat, n = (N : Int) := ⟨n.toNat, by omega⟩
       obtain ⟨u, o, G, u0, o1, R⟩ := fl_rounds h m0
       obtain ⟨v, k, s1, s2, p2, D, few, du, w3⟩ := R N (by omega)
       have g := G.vn u0
       rcases hd_all h m0 G (n := N) (by omega) (by omega) with ⟨v', k', D', H⟩ | ⟨H, nw⟩
       · obtain ⟨rfl, rfl⟩ := Dx.uniq D' D
         have EX := fun W => ex_is h G W
         have DN := fun W => du_dn g (by omega) du W
         have UP := fun W => du_up g o1 (by omega) du W
         have RO := fun W => du_round g o1 (by omega) du W
         have fw : ¬ (N : Int) < (v'.size : Int) := by omega
         rcases w3 with ⟨c, rfl, rfl⟩ | ⟨c, rfl, rfl⟩
         · rw [if_pos c] at RO
           by_cases e2 : k' = o
           · subst e2
             by_cases e1 : v'.toList = s1.toList
             · exact hn_up0 e1 gd fw H EX DN UP RO
             · exact hn_up1 e1 gd fw H EX DN UP RO
           · exact hn_up2 e2 gd fw H EX DN UP RO
         · rw [if_neg c] at RO
           exact hn_dn gd fw H EX DN UP RO
       · exact hn_not gd H
end Go.Proofs.YtjagnfddmlkalaaGreatDoor
