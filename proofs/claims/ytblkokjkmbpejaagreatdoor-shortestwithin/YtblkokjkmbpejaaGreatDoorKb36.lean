/-
  Holds: VBsK IvO SoM LawSoA LawSoB.
-/
import Derived.Test.YtblkokjkmbpejaaGreatDoorRows
import Derived.Laws.Externs
import Derived.WalkKit
import Derived.WalkSpells
import Derived.WalkLawsBesides
import Derived.Lib.Mul64
import Derived.Stop.Asserts
import Derived.RowKitTokens
import Derived.Lib.Strings
import Derived.Lib.BufferWrite
import Derived.Deep.OwnRows
import Derived.Deep.RegionHeld3
import Derived.BigQuiet
import Derived.Lib.ConvBytes
import Derived.Laws.CopyOwn
import Derived.Lib.TrailingZeros
import Derived.Lib.ItoaNum
import Derived.Deep.LoopGhost
import Derived.Deep.AppendLies
import Derived.Deep.DeepCutAuto
import Derived.Test.YtblkokjkmbpejaaGreatDoorShelf
import Derived.Test.YtblkokjkmbpejaaGreatDoorKb33
import Derived.Test.YtblkokjkmbpejaaGreatDoorKb34
import Derived.Test.YtblkokjkmbpejaaGreatDoorKb35
set_option maxRecDepth 100000
set_option maxHeartbeats 4000000
namespace Go.Proofs.YtblkokjkmbpejaaGreatDoor
open Go.RowKit
theorem num_nil (w : World) : Calls Tryz.prog 12 #[.nilIface] w fun e w' => e = .returned (.int .i64 0) ∧ w' = w := by
 go_enter Tryz.func12, Tryz.ntmps12
 go_wp2
 go_ret
 exact ⟨rfl, rfl⟩
theorem taNN (v : Value) (w : World) : (Instr.typeAssert (.iface 69 v) 26 69 true).run Tryz.prog w = .ok (.tuple #[v, .bool true]) w := by kernel_rfl
theorem num_errno (k : Int) (w : World) : Calls Tryz.prog 12 #[.iface 69 (.int .i64 k)] w fun e w' => e = .returned (.int .i64 k) ∧ w' = w := by
 have ta := fun W => taNN (.int .i64 k) W
 go_enter Tryz.func12, Tryz.ntmps12
 go_wp2
 go_ret
 exact ⟨rfl, rfl⟩
theorem rck_no {b : Nat} {z : Int} (h : Sn z) (w : World) : Calls Tryz.prog 65 #[.int .u64 (b : Int), .int .i64 z] w fun e w' => e = .returned (.int .i64 5) ∧ Below w.heap.size w w' := toB' (fun W => rcheck_no h _ W) w
theorem rck_any {z : Int} {f T : Nat} {L : Int} {S I b : Nat} (h : Sf z f T L S I) (hb : b < 2 * S) (w : World) :
 Calls Tryz.prog 65 #[.int .u64 (b : Int), .int .i64 z] w fun e w' => e = .returned (.int .i64 0) ∧ Below w.heap.size w w' := by
 rcases h with ⟨rfl, rfl, rfl, rfl, rfl, rfl⟩ | ⟨rfl, rfl, rfl, rfl, rfl, rfl⟩
 · exact toB' (fun W => rcheck_32 (by omega) W) w
 · exact toB' (fun W => rcheck_64 _ W) w
theorem rof_any {z : Int} {f T : Nat} {L : Int} {S I b : Nat} (h : Sf z f T L S I) (hb : b < 2 * S) (w : World) :
    Calls Tryz.prog 66 #[.int .u64 (b : Int), .int .i64 z] w fun e w' => e = .returned (.int .i64 (cl I (mg S b))) ∧ Below w.heap.size w w' := by
  rcases h with ⟨rfl, rfl, rfl, rfl, rfl, rfl⟩ | ⟨rfl, rfl, rfl, rfl, rfl, rfl⟩
  · exact toB' (fun W => rof_32 (by omega) W) w
  · exact toB' (fun W => rof_64 (by omega) W) w
theorem rpa_any {z : Int} {f T : Nat} {L : Int} {S I b : Nat} (h : Sf z f T L S I) (hb : b < 2 * S) (w : World) :
 Calls Tryz.prog 37 #[.int .u64 (b : Int), .int .i64 z] w fun e w' => e = .returned (.tuple #[.int .u64 ((mt f (mg S b) : Nat) : Int), .int .i64 (xp f L (mg S b))]) ∧ Below w.heap.size w w' := by
 rcases h with ⟨rfl, rfl, rfl, rfl, rfl, rfl⟩ | ⟨rfl, rfl, rfl, rfl, rfl, rfl⟩
 · exact toB' (fun W => rparts_32 (by omega) W) w
 · exact toB' (fun W => rparts_64 (by omega) W) w
theorem rmg_any {z : Int} {f T : Nat} {L : Int} {S I b : Nat} (h : Sf z f T L S I) (hb : b < 2 * S) (w : World) :
 Calls Tryz.prog 21 #[.int .u64 (b : Int), .int .i64 z] w fun e w' => e = .returned (.int .u64 ((mg S b : Nat) : Int)) ∧ Below w.heap.size w w' := by
 rcases h with ⟨rfl, rfl, rfl, rfl, rfl, rfl⟩ | ⟨rfl, rfl, rfl, rfl, rfl, rfl⟩
 · exact toB' (fun W => rmag_32 (by omega) W) w
 · exact toB' (fun W => rmag_64 (by omega) W) w
theorem chk_bad {b : Nat} {z n : Int} (h : Bad b z n) (w : World) :
 Calls Tryz.prog 36 #[.int .u64 (b : Int), .int .i64 z] w fun e w' => e = .returned (.int .i64 n) ∧ Below w.heap.size w w' := by
 rcases h with ⟨h, rfl⟩ | ⟨rfl, h, rfl⟩ | ⟨f, T, L, S, I, h, hb, hi, rfl⟩
 · exact chk_err rfl (fun W => rck_no h W) w
 · exact chk_err rfl (fun W => toB' (fun W => rcheck_big h W) W) w
 · have i1 := h.fs.2.2.2.2.2.1
   refine chk_not ?_ (fun W => rck_any h hb W) (fun W => rof_any h hb W) w
   rcases cl_cases I (mg S b) with q | q | q | q <;> omega
theorem chk_is {z : Int} {f T : Nat} {L : Int} {S I b : Nat} (h : Fn z f T L S I b) (w : World) : Calls Tryz.prog 36 #[.int .u64 (b : Int), .int .i64 z] w fun e w' => e = .returned (.int .i64 0) ∧ Below w.heap.size w w' := by
 refine chk_ok ?_ (fun W => rck_any h.sf h.lt W) (fun W => rof_any h.sf h.lt W) w
 have := h.fin
 rcases cl_cases I (mg S b) with q | q | q | q <;> omega
theorem rex_is {z : Int} {f T : Nat} {L : Int} {S I b : Nat} (h : Fn z f T L S I b) {s : ByteArray} {p : Int} (D : Dx s p (vlF f L (mg S b))) (w : World) :
 Calls Tryz.prog 18 #[.int .u64 (b : Int), .int .i64 z] w fun e w' => e = .returned (.tuple #[dcV s p false, .int .i64 0]) ∧ Below w.heap.size w w' := by
 have fs := h.sf.fs.1
 have x := xp_in fs h.m
 have m := mt_lt fs (mg S b)
 refine rex_ok (by omega) (fun W => chk_is h W) (fun W => rpa_any h.sf h.lt W) (fun W v hv => rdec_any (by omega) (by omega) (by omega) ?_ D hv) w
 by_cases m0 : mg S b = 0
 · right
   rw [m0, (xp_one fs.one L).2.1]
   rcases fs with ⟨_, _, rfl⟩ | ⟨_, _, rfl⟩ <;> omega
 · exact Or.inl (mt_some m0)
theorem mg_even {z : Int} {f T : Nat} {L : Int} {S I b : Nat} (h : Fn z f T L S I b) : decide (mg S b % 2 = 0) = decide (b % 2 = 0) := by
 have e := h.sf.fs.2.2.2.2.1
 obtain ⟨k, rfl⟩ : ∃ k, S = 2 * k := ⟨S / 2, by omega⟩
 unfold mg
 rw [Nat.mod_mul_right_mod]
theorem rbd_is {z : Int} {f T : Nat} {L : Int} {S I b : Nat} (h : Fn z f T L S I b) {s t : ByteArray} {p q : Int} (D : Dx s p (loF f L (mg S b))) (E : Dx t q (hiF f L (mg S b))) (w : World) :
 Calls Tryz.prog 47 #[.int .u64 (b : Int), .int .i64 z] w fun e w' => e = .returned (.tuple #[dcV s p false, dcV t q false, .bool (decide (b % 2 = 0)), .int .i64 0]) ∧ Below w.heap.size w w' := by
 have fs := h.sf.fs.1
 have x := xp_in fs h.m
 have m := mt_lt fs (mg S b)
 have HD : ∀ W v, Big.D.NatV W v (2 * mt f (mg S b) + 1) → Calls Tryz.prog 38 #[v, .int .i64 (xp f L (mg S b) - 1)] W fun e w' => e = .returned (dcV t q false) ∧ Below W.heap.size W w' :=
  fun W v hv => rdec_any (by omega) (by omega) (by omega) (by omega) E hv
 have MG := fun W => rmg_any h.sf h.lt W
 rw [← mg_even h]
 by_cases m0 : mg S b = 0
 · rw [m0] at D
   obtain ⟨rfl, rfl⟩ := Dx.uniq D dx_nought
   rw [show ((mg S b : Nat) : Int) = 0 by rw [m0]; rfl] at MG
   rw [show decide (mg S b % 2 = 0) = true by rw [m0]; rfl]
   exact rbd_zero (by omega) (by omega) (by omega) (fun W => chk_is h W) (fun W => rpa_any h.sf h.lt W) HD MG w
 · obtain ⟨_, _, s2, hS, _, _, hIS⟩ := h.sf.fs
   have fin := h.fin
   obtain ⟨k, e⟩ : ∃ k, mg S b = k + 1 := ⟨mg S b - 1, by omega⟩
   have hm := h.m
   rw [e] at hm D x MG m0 HD ⊢
   have x2 := xp_in fs (m := k) (by omega)
   have m2 := mt_lt fs k
   have mo := xp_mono f L k
   have P2 := fun W => rpa_any (b := k) h.sf (by omega) W
   have gk : mg S k = k := Nat.mod_eq_of_lt (by omega)
   rw [gk] at P2
   have e1 : ((k + 1 : Nat) : Int) - 1 = (k : Int) := by omega
   have P1 := fun W => rpa_any h.sf h.lt W
   rw [e] at P1
   exact rbd_ok (m2 := mt f k) (M := k + 1) (D := (xp f L (k + 1) - xp f L k).toNat) (E2 := xp f L k) (by rw [← e]; omega) (by omega) (by omega) (by omega) (by omega) (by omega) (by omega) (by omega) (by omega) (by omega) (fun W => chk_is h W) P1 HD MG (fun W => by rw [e1]; exact P2 W)
    (fun W v hv => by rw [low_doc] at hv; exact rdec_any (by omega) (by omega) (by omega) (by omega) D hv) w
theorem rrm_bad {b : Nat} {z n : Int} (h : Bad b z n) (w : World) : Calls Tryz.prog 30 #[.int .u64 (b : Int), .int .i64 z] w fun e w' => e = .returned (.tuple #[.agg #[.string ⟨#[]⟩, .int .i64 0, .bool false, .string ⟨#[]⟩, .int .i64 0, .bool false, .string ⟨#[]⟩, .int .i64 0, .bool false, .bool false], .int .i64 n]) ∧ Below w.heap.size w w' :=
 rrm_err h.not0 (fun W => rex_err h.not0 (fun W => chk_bad h W) W) w
theorem rrm_is {z : Int} {f T : Nat} {L : Int} {S I b : Nat} (h : Fn z f T L S I b) {u s t : ByteArray} {o p q : Int} (G : Dx u o (vlF f L (mg S b))) (D : Dx s p (loF f L (mg S b))) (E : Dx t q (hiF f L (mg S b))) (w : World) :
 Calls Tryz.prog 30 #[.int .u64 (b : Int), .int .i64 z] w fun e w' => e = .returned (.tuple #[.agg #[.string u, .int .i64 o, .bool false, .string s, .int .i64 p, .bool false, .string t, .int .i64 q, .bool false, .bool (decide (b % 2 = 0))], .int .i64 0]) ∧ Below w.heap.size w w' :=
 rrm_ok (fun W => rex_is h G W) (fun W => rbd_is h D E W) w
theorem Fl.rwithin {z : Int} {f T : Nat} {L : Int} {S I b : Nat} {u : ByteArray} {o : Int} {s : ByteArray} {p : Int} {t : ByteArray} {q : Int} {A : Nat} {d1 d2 : Nat → Dp} (h : Fl z f T L S I b u o s p t q A d1 d2) (c : Bool) {n : Nat} (n0 : 1 ≤ n) (n1 : n ≤ 17) (w : World) :
    Calls Tryz.prog 31 #[.agg #[.string u, .int .i64 o, .bool false, .string s, .int .i64 p, .bool false, .string t, .int .i64 q, .bool false, .bool c], .int .i64 (n : Int)] w fun x w' => x = .returned (ansV (fD c s p t q u d1 d2 n)) ∧ Below w.heap.size w w' := by
  have g := h.g.vn h.pos
  obtain ⟨c1, du, c3, c4⟩ := h.c n n0 n1
  have R := fun W => rrd_is g h.o1 n0 du W
  have z1 : 0 < (d1 n).1.size := by
    rcases du.way with ⟨_, e, _⟩ | ⟨_, m, _, mz, m1, _, _, e, _⟩
    · rw [e]; exact h.pos
    · rw [e, pre_size (by omega)]; exact mz
  have H1 := fun W => rin20_is (u := u) (o := o) (c := c) h.d.vd h.e.vd c3.vd W
  have H2 := fun W => rin20_is (u := u) (o := o) (c := c) h.d.vd h.e.vd c4.vd W
  have e1 : hdB c s p t q ((d1 n).1, o) = hdB c s p t q (d1 n) := by rw [← c1]
  rw [e1] at H1
  rw [h.doc c n0 n1]
  have H2' : hdB c s p t q ((d2 n).1, (d2 n).2) = hdB c s p t q (d2 n) := rfl
  rw [H2'] at H2
  have da : dcV (d1 n).1 o false = dcV (d1 n).1 (d1 n).2 false := by rw [c1]
  cases x : hdB c s p t q (d1 n) with
  | true =>
    rw [x] at H1
    cases y : hdB c s p t q (d2 n) with
    | true =>
      rw [y] at H2
      have N := fun W => rne_is g h.o1 n0 (by omega) du W
      have e : (if n < u.size ∧ upB u false n = true then dcV (d2 n).1 (d2 n).2 false else dcV (d1 n).1 o false) = dcV (rC u d1 d2 n).1 (rC u d1 d2 n).2 false := by
        unfold rC
        by_cases q : n < u.size ∧ upB u false n = true
        · rw [if_pos q, if_pos q]
        · rw [if_neg q, if_neg q]; exact da
      rw [e] at N
      exact rwi_tt z1 R H1 H2 N w
    | false =>
      rw [y] at H2
      have r := rwi_tf z1 R H1 H2 w
      show Calls _ _ _ _ fun x w' => x = .returned (.tuple #[dcV (d1 n).1 (d1 n).2 false, .bool true]) ∧ _
      rw [← da]
      exact r
  | false =>
    rw [x] at H1
    cases y : hdB c s p t q (d2 n) with
    | true =>
      rw [y] at H2
      exact rwi_ft z1 R H1 H2 w
    | false =>
      rw [y] at H2
      exact rwi_ff z1 R H1 H2 w
theorem Fl.rwithinOf {z : Int} {f T : Nat} {L : Int} {S I b : Nat} {u : ByteArray} {o : Int} {s : ByteArray} {p : Int} {t : ByteArray} {q : Int} {A : Nat} {d1 d2 : Nat → Dp} (h : Fl z f T L S I b u o s p t q A d1 d2) {n : Nat} (n0 : 1 ≤ n) (n1 : n ≤ 17) (w : World) :
    Calls Tryz.prog 15 #[.int .u64 (b : Int), .int .i64 z, .int .i64 (n : Int)] w fun x w' => x = .returned (match fD (decide (b % 2 = 0)) s p t q u d1 d2 n with | some d => .tuple #[dcV d.1 d.2 false, .bool true, .int .i64 0] | none => .tuple #[dcV ⟨#[]⟩ 0 false, .bool false, .int .i64 0]) ∧ Below w.heap.size w w' := by
  have H := fun W => h.rwithin (decide (b % 2 = 0)) n0 n1 W
  have SP := fun W => rrm_is h.fn h.g h.d h.e W
  cases k : fD (decide (b % 2 = 0)) s p t q u d1 d2 n with
  | some d =>
    rw [k] at H
    exact rwn_ok (by omega) (by omega) h.pos SP H w
  | none =>
    rw [k] at H
    exact rwn_ok (by omega) (by omega) h.pos SP H w
theorem fn_rwithin_none {z : Int} {f T : Nat} {L : Int} {S I b : Nat} (h : Fn z f T L S I b) {n : Int} (hn : n < 1 ∨ 17 < n ∨ mg S b = 0) (w : World) : Calls Tryz.prog 15 #[.int .u64 (b : Int), .int .i64 z, .int .i64 n] w fun x w' => x = .returned (.tuple #[dcV ⟨#[]⟩ 0 false, .bool false, .int .i64 1]) ∧ Below w.heap.size w w' := by
 obtain ⟨⟨s, p, D⟩, ⟨t, q, E⟩, u, o, G⟩ := Fn.has h
 have SP := fun W => rrm_is h G D E W
 by_cases c1 : n < 1
 · exact rwn_low c1 SP w
 · by_cases c2 : 17 < n
   · exact rwn_high c1 c2 SP w
   · have m0 : mg S b = 0 := by omega
     rw [m0, vl_zero] at G
     obtain ⟨rfl, rfl⟩ := Dx.uniq G dx_nought
     exact rwn_zero c1 c2 SP w
theorem numB_nil (w : World) : Calls Tryz.prog 12 #[.nilIface] w fun e w' => e = .returned (.int .i64 0) ∧ Below w.heap.size w w' := toB' (fun W => num_nil W) w
theorem numB_errno (k : Int) (w : World) : Calls Tryz.prog 12 #[.iface 69 (.int .i64 k)] w fun e w' => e = .returned (.int .i64 k) ∧ Below w.heap.size w w' := toB' (fun W => num_errno k W) w
theorem within_walk {b z m : Int} {d1 : ByteArray} {d2 n1 : Int} {k : Bool} {E1 : Value} (HD : ∀ W, Calls Tryz.prog 14 #[.int .u64 b, .int .i64 z, .int .i64 m] W fun e w' => e = .returned (.tuple #[.agg #[.string d1, .int .i64 d2, .bool false], .bool k, E1]) ∧ Below W.heap.size W w') (HR : ∀ W, Calls Tryz.prog 15 #[.int .u64 b, .int .i64 z, .int .i64 m] W fun e w' => e = .returned (.tuple #[.agg #[.string d1, .int .i64 d2, .bool false], .bool k, .int .i64 n1]) ∧ Below W.heap.size W w') (N1 : ∀ W, Calls Tryz.prog 12 #[E1] W fun e w' => e = .returned (.int .i64 n1) ∧ Below W.heap.size W w') (w : World) :
 Calls Tryz.prog 4 #[.int .u64 b, .int .i64 z, .int .i64 m] w fun x w' => x = .returned (.bool true) ∧ Below w.heap.size w w' := by
 have F0 : Hid (Below w.heap.size w w) := Below.refl _ _
 go_enter Tryz.func4, Tryz.ntmps4
 go_wp2_with fail
 all_goals first | (exfalso; omega) | skip
 refine (HD _).mono ?_
 rintro o1 w1 ⟨rfl, bb⟩
 have F1 : Hid (Below w.heap.size w w1) := (F0.out).trans (bb.mono (F0.out).size)
 clear F0
 clear bb
 have le0 := (F1.out).size
 have F2 : Hid (Bk (w1.alloc (.cells #[.string d1, .int .i64 d2, .bool false] 24)) (w1.heap.size) [.string d1, .int .i64 d2, .bool false] ∧ Below w.heap.size w (w1.alloc (.cells #[.string d1, .int .i64 d2, .bool false] 24))) := ⟨Bk.new3 w1 (.string d1) (.int .i64 d2) (.bool false) 24, (F1.out).alloc ((F1.out).size) _⟩
 clear F1
 go_upto_region 2 with fail
 generalize (w1.alloc (.cells #[.string d1, .int .i64 d2, .bool false] 24)) = w2 at *
 have l1_0 := F2.out.1.lt
 have a1_0_0 := F2.out.1.cell 0 _ rfl
 have f1_0_0 := F2.out.1.fz 0
 have a1_0_1 := F2.out.1.cell 1 _ rfl
 have f1_0_1 := F2.out.1.fz 1
 have a1_0_2 := F2.out.1.cell 2 _ rfl
 have f1_0_2 := F2.out.1.fz 2
 go_wp2_with fail
 all_goals first | (exfalso; omega) | skip
 refine (HR _).mono ?_
 rintro o3 w3 ⟨rfl, bb⟩
 have F3 : Hid (Bk w3 (w1.heap.size) [.string d1, .int .i64 d2, .bool false] ∧ Below w.heap.size w w3) := ⟨(F2.out.1).step bb, (F2.out.2).trans (bb.mono (F2.out.2).size)⟩
 clear F2
 clear bb
 clear l1_0 a1_0_0 f1_0_0 a1_0_1 f1_0_1 a1_0_2 f1_0_2
 have lt0_1 := (F3.out.1).lt
 have le1 := (F3.out.2).size
 have F4 : Hid (Bk (w3.alloc (.cells #[.string d1, .int .i64 d2, .bool false] 24)) (w1.heap.size) [.string d1, .int .i64 d2, .bool false] ∧ Bk (w3.alloc (.cells #[.string d1, .int .i64 d2, .bool false] 24)) (w3.heap.size) [.string d1, .int .i64 d2, .bool false] ∧ Below w.heap.size w (w3.alloc (.cells #[.string d1, .int .i64 d2, .bool false] 24))) := ⟨(F3.out.1).step ((Below.refl _ _).alloc (Nat.le_refl _) _), Bk.new3 w3 (.string d1) (.int .i64 d2) (.bool false) 24, (F3.out.2).alloc ((F3.out.2).size) _⟩
 clear F3
 go_upto_region 3 with fail
 generalize (w3.alloc (.cells #[.string d1, .int .i64 d2, .bool false] 24)) = w4 at *
 have l2_0 := F4.out.1.lt
 have a2_0_0 := F4.out.1.cell 0 _ rfl
 have f2_0_0 := F4.out.1.fz 0
 have a2_0_1 := F4.out.1.cell 1 _ rfl
 have f2_0_1 := F4.out.1.fz 1
 have a2_0_2 := F4.out.1.cell 2 _ rfl
 have f2_0_2 := F4.out.1.fz 2
 have l2_1 := F4.out.2.1.lt
 have a2_1_0 := F4.out.2.1.cell 0 _ rfl
 have f2_1_0 := F4.out.2.1.fz 0
 have a2_1_1 := F4.out.2.1.cell 1 _ rfl
 have f2_1_1 := F4.out.2.1.fz 1
 have a2_1_2 := F4.out.2.1.cell 2 _ rfl
 have f2_1_2 := F4.out.2.1.fz 2
 have ne2_0_1 : ¬ w1.heap.size = w3.heap.size := by omega
 have ne2_1_0 : ¬ w3.heap.size = w1.heap.size := by omega
 skip
 go_wp2_with fail
 all_goals first | (exfalso; omega) | skip
 refine (N1 _).mono ?_
 rintro o5 w5 ⟨rfl, bb⟩
 have F5 : Hid (Bk w5 (w1.heap.size) [.string d1, .int .i64 d2, .bool false] ∧ Bk w5 (w3.heap.size) [.string d1, .int .i64 d2, .bool false] ∧ Below w.heap.size w w5) := ⟨(F4.out.1).step bb, (F4.out.2.1).step bb, (F4.out.2.2).trans (bb.mono (F4.out.2.2).size)⟩
 clear F4
 clear bb
 clear l2_0 a2_0_0 f2_0_0 a2_0_1 f2_0_1 a2_0_2 f2_0_2 l2_1 a2_1_0 f2_1_0 a2_1_1 f2_1_1 a2_1_2 f2_1_2
 have l3_0 := F5.out.1.lt
 have a3_0_0 := F5.out.1.cell 0 _ rfl
 have f3_0_0 := F5.out.1.fz 0
 have a3_0_1 := F5.out.1.cell 1 _ rfl
 have f3_0_1 := F5.out.1.fz 1
 have a3_0_2 := F5.out.1.cell 2 _ rfl
 have f3_0_2 := F5.out.1.fz 2
 have l3_1 := F5.out.2.1.lt
 have a3_1_0 := F5.out.2.1.cell 0 _ rfl
 have f3_1_0 := F5.out.2.1.fz 0
 have a3_1_1 := F5.out.2.1.cell 1 _ rfl
 have f3_1_1 := F5.out.2.1.fz 1
 have a3_1_2 := F5.out.2.1.cell 2 _ rfl
 have f3_1_2 := F5.out.2.1.fz 2
 have ne3_0_1 : ¬ w1.heap.size = w3.heap.size := by omega
 have ne3_1_0 : ¬ w3.heap.size = w1.heap.size := by omega
 go_wp2_with fail
 all_goals first | (exfalso; omega) | skip
 refine (works20 _).mono ?_
 rintro o6 w6 ⟨rfl, bb⟩
 have F6 : Hid (Bk w6 (w1.heap.size) [.string d1, .int .i64 d2, .bool false] ∧ Bk w6 (w3.heap.size) [.string d1, .int .i64 d2, .bool false] ∧ Below w.heap.size w w6) := ⟨(F5.out.1).step bb, (F5.out.2.1).step bb, (F5.out.2.2).trans (bb.mono (F5.out.2.2).size)⟩
 clear F5
 clear bb
 go_wp2
 go_ret
 exact ⟨rfl, F6.out.2.2⟩
theorem law_within (b : Nat) (hb : b < 18446744073709551616) (z m : Int) (w : World) :
    Calls Tryz.prog 4 #[.int .u64 (b : Int), .int .i64 z, .int .i64 m] w fun x w' => x = .returned (.bool true) ∧ Below w.heap.size w w' := by
  rcases kinds b z hb with ⟨n, h⟩ | ⟨f, T, L, S, I, h⟩
  · exact within_walk (fun W => swi_err (fun W => ssp_bad h W) W) (fun W => rwn_err h.not0 (fun W => rrm_bad h W) W) (fun W => numB_errno n W) w
  · by_cases hm : m < 1 ∨ 17 < m ∨ mg S b = 0
    · exact within_walk (fun W => fn_within_none h hm W) (fun W => fn_rwithin_none h hm W) (fun W => numB_errno 1 W) w
    · obtain ⟨u, o, s, p, t, q, A, d1, d2, k⟩ := fl_ex h (by omega)
      obtain ⟨n, rfl⟩ : ∃ n : Nat, m = (n : Int) := ⟨m.toNat, by omega⟩
      have H1 := fun W => k.within (n := n) (by omega) (by omega) W
      have H2 := fun W => k.rwithinOf (n := n) (by omega) (by omega) W
      cases e : fD (decide (b % 2 = 0)) s p t q u d1 d2 n with
      | some d =>
        rw [e] at H1 H2
        exact within_walk H1 H2 (fun W => numB_nil W) w
      | none =>
        rw [e] at H1 H2
        exact within_walk H1 H2 (fun W => numB_nil W) w
end Go.Proofs.YtblkokjkmbpejaaGreatDoor
