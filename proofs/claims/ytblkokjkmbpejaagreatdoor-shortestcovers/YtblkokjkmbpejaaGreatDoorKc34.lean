/-
  Holds: VEwA VEwF VEwN VCrA SoB SoS.
-/
import Derived.Laws.BitsAllLaws
import Derived.Test.YtblkokjkmbpejaaGreatDoorChecked
import Derived.Lib.ItoaNum
import Derived.Laws.Externs
import Derived.WalkKit
import Derived.WalkSpells
import Derived.WalkLawsBesides
import Derived.Lib.Mul64
import Derived.Lib.TrailingZeros
import Derived.Deep.OwnRows
import Derived.Laws.CopyOwn
import Derived.BigQuiet
import Derived.Deep.RegionHeld3
import Derived.Deep.LoopGhost
import Derived.Deep.AppendLies
import Derived.Deep.DeepCutAuto
import Derived.Stop.Asserts
import Derived.RowKitTokens
import Derived.Lib.Strings
import Derived.Lib.BufferWrite
import Derived.Lib.ConvBytes
import Derived.Test.YtblkokjkmbpejaaGreatDoorRows
import Derived.Test.YtblkokjkmbpejaaGreatDoorKc26
import Derived.Test.YtblkokjkmbpejaaGreatDoorKc33
set_option maxRecDepth 100000
set_option maxHeartbeats 4000000
namespace Go.Proofs.YtblkokjkmbpejaaGreatDoor
open Go.RowKit
theorem ten_ne (k : Nat) : 10 ^ k ≠ 0 := Nat.ne_of_gt (Nat.pow_pos (by decide))
theorem nearest14 {z : Int} {g n f T : Nat} {L : Int} (hz : Fz z g n f T L) {s : ByteArray} {p : Int} {c : Bool} (h : VN s p c) (w : World) : Calls Tryz.prog 41 #[dcV s p c, .int .i64 z] w fun e w' => e = .returned (.tuple #[.int .u64 (((rdA f T L (frN s (nrP p)) (frD s (nrP p)) 0 c).1 : Nat) : Int), .int .i64 (if (rdA f T L (frN s (nrP p)) (frD s (nrP p)) 0 c).2 then 4 else 0)]) ∧ Below w.heap.size w w' := by
  have T0 := fun W => rsize_z hz W
  have T1 := fun W => rvald_yes (.inr h) W
  have T2 := fun W => near14 h.pos p c W
  have hl : s.size ≤ 801 := Nat.le_trans h.len (by decide)
  have T3 := fun W => frac14 hl h.dg c (nrP_in p).1 (nrP_in p).2 W
  have T4 : ∀ {W : World} {v1 v2 : Value}, Big.NatV W v1 (frN s (nrP p)) → Big.NatV W v2 (frD s (nrP p)) → _ := fun {W v1 v2} a b => rfrac_ok hz (e := 0) c a b (frN_fits hl h.dg (nrP_in p).2) (frD_fits hl (nrP_in p).1) (Nat.ne_of_gt (Nat.mul_pos h.val (Nat.pow_pos (by decide)))) (ten_ne _) (by decide) (by decide)
  have hE := empty_false h.pos
  generalize hA : rdA f T L (frN s (nrP p)) (frD s (nrP p)) 0 c = A at *
  generalize frN s (nrP p) = X at *
  generalize frD s (nrP p) = Y at *
  generalize nrP p = p' at *
  obtain ⟨b, over⟩ := A
  clear h hz hl hA
  unfold dcV at *
  go_enter Tryz.func41, Tryz.ntmps41
  go_wp2_with fail
  refine (T0 _).mono ?_
  rintro e w1 ⟨rfl, h1⟩
  have D1 : Hid (DcB w1 w.heap.size (.string s) (.int .i64 p) (.bool c)) := by rw [h1]; exact DcB.new w _ _ _ _
  have B1 : Hid (Below w.heap.size w w1) := by rw [h1]; exact (Below.refl _ _).alloc (Nat.le_refl _) _
  clear h1 T0
  obtain ⟨_, a0, a1, a2, _, _, _⟩ := D1.out
  go_wp2_with fail
  refine (T1 _).mono ?_
  rintro e w2 ⟨rfl, h2⟩
  have D2 : Hid (DcB w2 w.heap.size (.string s) (.int .i64 p) (.bool c)) := D1.out.step h2
  have B2 : Hid (Below w.heap.size w w2) := B1.out.trans (h2.mono B1.out.size)
  clear h2 T1 D1 B1 a0 a1 a2
  obtain ⟨_, a0, a1, a2, _, _, _⟩ := D2.out
  go_wp2_with fail
  refine (T2 _).mono ?_
  rintro e w3 ⟨rfl, h3⟩
  have D3 : Hid (DcB w3 w.heap.size (.string s) (.int .i64 p) (.bool c)) := D2.out.step h3
  have B3 : Hid (Below w.heap.size w w3) := B2.out.trans (h3.mono B2.out.size)
  clear h3 T2 D2 B2 a0 a1 a2
  go_wp2_with fail
  refine (T3 _).mono ?_
  rintro e w4 ⟨v1, v2, rfl, n1, n2, h4⟩
  have D4 : Hid (DcB w4 w.heap.size (.string s) (.int .i64 p) (.bool c)) := D3.out.step h4
  have B4 : Hid (Below w.heap.size w w4) := B3.out.trans (h4.mono B3.out.size)
  have T5 := T4 n1 n2
  clear h4 T3 D3 B3 n1 n2 T4
  obtain ⟨_, a0, a1, a2, _, _, _⟩ := D4.out
  go_wp2_with fail
  refine T5.mono ?_
  rintro e w5 ⟨rfl, h5⟩
  have B5 : Hid (Below w.heap.size w w5) := B4.out.trans (h5.mono B4.out.size)
  clear h5 T5 D4 B4 a0 a1 a2
  cases over with
  | true =>
    go_wp2
    exact bodyPost_ret (v := .tuple #[.int .u64 (b : Int), .int .i64 4]) (by simp [results, Tryz.results41, go_sem]) rfl ⟨rfl, B5.out⟩
  | false =>
    go_wp2
    exact bodyPost_ret (v := .tuple #[.int .u64 (b : Int), .int .i64 0]) (by simp [results, Tryz.results41, go_sem]) rfl ⟨rfl, B5.out⟩
theorem nearest_none {z : Int} {g n f T : Nat} {L : Int} (hz : Fz z g n f T L) (w : World) : Calls Tryz.prog 41 #[dcV ⟨#[]⟩ 0 false, .int .i64 z] w fun e w' => e = .returned (.tuple #[.int .u64 0, .int .i64 0]) ∧ Below w.heap.size w w' := by
 have T0 := fun W => rsize_z hz W
 have T1 := fun W => rvald_yes (s := ⟨#[]⟩) (p := 0) (c := false) (.inl ⟨rfl, rfl, rfl⟩) W
 clear hz
 unfold dcV at *
 go_enter Tryz.func41, Tryz.ntmps41
 go_wp2_with fail
 refine (T0 _).mono ?_
 rintro e w1 ⟨rfl, h1⟩
 have D1 : Hid (DcB w1 w.heap.size (.string ⟨#[]⟩) (.int .i64 0) (.bool false)) := by rw [h1]; exact DcB.new w _ _ _ _
 have B1 : Hid (Below w.heap.size w w1) := by rw [h1]; exact (Below.refl _ _).alloc (Nat.le_refl _) _
 clear h1 T0
 obtain ⟨_, a0, a1, a2, _, _, _⟩ := D1.out
 go_wp2_with fail
 refine (T1 _).mono ?_
 rintro e w2 ⟨rfl, h2⟩
 have D2 : Hid (DcB w2 w.heap.size (.string ⟨#[]⟩) (.int .i64 0) (.bool false)) := D1.out.step h2
 have B2 : Hid (Below w.heap.size w w2) := B1.out.trans (h2.mono B1.out.size)
 clear h2 T1 D1 B1 a0 a1 a2
 obtain ⟨_, a0, a1, a2, _, _, _⟩ := D2.out
 go_wp2
 exact bodyPost_ret (v := .tuple #[.int .u64 0, .int .i64 0]) (by simp [results, Tryz.results41, go_sem]) rfl ⟨rfl, B2.out⟩
theorem rmag_z {s : Int} {g n f T : Nat} {L : Int} (h : Fz s g n f T L) {b : Nat} (hb : b < 2 * g) (w : World) : Calls Tryz.prog 21 #[.int .u64 (b : Int), .int .i64 s] w fun e w' => e = .returned (.int .u64 ((mg g b : Nat) : Int)) ∧ w' = w := by
 rcases h with ⟨rfl, rfl, rfl, rfl, rfl, rfl⟩ | ⟨rfl, rfl, rfl, rfl, rfl, rfl⟩
 · exact rmag_32 hb w
 · exact rmag_64 hb w
theorem ba_none16 {s : ByteArray} (h : s.size = 0) : s = ⟨#[]⟩ := by
 apply ByteArray.ext
 exact Array.eq_empty_of_size_eq_zero h
theorem nearest16_of {s : Int} {t : ByteArray} {p : Int} {c : Bool} {x k : Int} {w : World}
 (NR : ∀ W, Calls Tryz.prog 41 #[dcV t p c, .int .i64 s] W fun e w' => e = .returned (.tuple #[.int .u64 x, .int .i64 k]) ∧ Below W.heap.size W w') :
 Calls Tryz.prog 20 #[dcV t p c, .int .i64 s] w fun e w' => e = .returned (.tuple #[.int .u64 x, .int .i64 k]) ∧ Below w.heap.size w w' := by
 unfold dcV at *
 have B0 : Hid (Below w.heap.size w (w.alloc (.cells #[.string t, .int .i64 p, .bool c] 24))) := (Below.refl _ _).alloc (Nat.le_refl _) _
 go_enter Tryz.func20, Tryz.ntmps20
 go_wp2_with fail
 refine (NR _).mono ?_
 rintro o w1 ⟨rfl, b1⟩
 have B1 : Hid (Below w.heap.size w w1) := B0.out.trans (b1.mono B0.out.size)
 clear b1 B0 NR
 go_wp2
 go_ret2
 exact ⟨rfl, B1.out⟩
def nrX (f T : Nat) (L : Int) (s : ByteArray) (p : Int) (c : Bool) : Nat × Bool := if s.size = 0 then (0, false) else rdA f T L (frN s (nrP p)) (frD s (nrP p)) 0 c
theorem nearest16 {z : Int} {g n f T : Nat} {L : Int} (hz : Fz z g n f T L) {s : ByteArray} {p : Int} {c : Bool} (h : VD s p c) (w : World) : Calls Tryz.prog 20 #[dcV s p c, .int .i64 z] w fun e w' => e = .returned (.tuple #[.int .u64 (((nrX f T L s p c).1 : Nat) : Int), .int .i64 (if (nrX f T L s p c).2 then 4 else 0)]) ∧ Below w.heap.size w w' := by
 rcases h with ⟨h, rfl, rfl⟩ | h
 · obtain rfl := ba_none16 h
   exact nearest16_of fun W => nearest_none hz W
 · have e : nrX f T L s p c = rdA f T L (frN s (nrP p)) (frD s (nrP p)) 0 c := by unfold nrX; rw [if_neg (by have := h.pos; omega)]
   rw [e]
   exact nearest16_of fun W => nearest14 hz h W
theorem dvA_pv (s : ByteArray) : ∀ n, dvA s 0 n = pv s n
  | 0 => rfl
  | n + 1 => by
    show dvA s 0 n * 10 + (dgt s (0 + n) - 48) = 10 * pv s n + (dgt s n - 48)
    rw [dvA_pv s n, Nat.zero_add]
    omega
theorem dx_frac {s : ByteArray} {p : Int} {X : Nat} (h : Dx s p X) : frN s p * 10 ^ R0 = X * frD s p := by
 have lo := h.lo
 unfold frN frD
 rw [dvA_pv, ← h.vl, Nat.mul_assoc, Nat.mul_assoc, ← Nat.pow_add, ← Nat.pow_add]
 congr 2
 omega
theorem frD_pos (s : ByteArray) (p : Int) : 0 < frD s p := Nat.pow_pos (by decide)
theorem frN_ne {s : ByteArray} {p : Int} {X : Nat} (h : Dx s p X) (X0 : 0 < X) : frN s p ≠ 0 := by
 intro z
 have q := dx_frac h
 rw [z, Nat.zero_mul] at q
 have := Nat.mul_pos X0 (frD_pos s p)
 omega
theorem nr_in {f T : Nat} {L : Int} (hF : Fs f T L) {m : Nat} (hm : m < T * 2 ^ f) {s : ByteArray} {p : Int} {X : Nat} (h : Dx s p X) (X0 : 0 < X) (h1 : -500 ≤ p) (h2 : p ≤ 500) (i : InI f L m X) : nrX f T L s p false = (m, false) := by
 have s0 := h.pos.2 X0
 unfold nrX nrP
 rw [if_neg (by omega), if_neg (by omega), if_neg (by omega)]
 exact rdA_in hF hm (frN_ne h X0) (frD_pos s p) (dx_frac h) i
theorem low_word : pwT 776 ≤ pw2 26 * 5 ^ R0 := by decide +kernel
theorem high_word : pw2 1024 < pwT 310 := by decide +kernel
theorem two_five (n : Nat) : pw2 n * 5 ^ n = pwT n := by
 show 2 ^ n * 5 ^ n = 10 ^ n
 rw [← Nat.mul_pow]
theorem pw2_add (a b : Nat) : pw2 (a + b) = pw2 a * pw2 b := Nat.pow_add 2 a b
theorem low_aux {m k a b x : Nat} (h : x ≤ a * b) (m0 : 0 < m) (ha : a ≤ k) : x ≤ m * k * b :=
 Nat.le_trans h (Nat.mul_le_mul_right b (Nat.le_trans ha (Nat.le_mul_of_pos_left k m0)))
theorem high_aux {m k M K b c t P Q : Nat} (hm : m ≤ M) (hk : k ≤ K) (e1 : M * K = c * t) (e2 : t * b = Q) (hc : c < P) (q0 : 0 < Q) : m * k * b < P * Q := by
 have a : m * k * b ≤ M * K * b := Nat.mul_le_mul_right b (Nat.mul_le_mul hm hk)
 have e : M * K * b = c * Q := by rw [e1, Nat.mul_assoc, e2]
 exact Nat.lt_of_le_of_lt a (by rw [e]; exact Nat.mul_lt_mul_of_pos_right hc q0)
theorem fv_low {m : Nat} {e : Int} (m0 : 0 < m) (h1 : -1074 ≤ e) : pwT 776 ≤ fv m e := by
 unfold fv
 exact low_aux low_word m0 (pw2_mono (show 26 ≤ (e + (R0 : Int)).toNat by unfold R0; omega))
theorem fv_high {m : Nat} {e : Int} (hm : m < 2 ^ 53) (h2 : e ≤ 971) : fv m e < pwT 310 * pwT R0 := by
 unfold fv
 refine high_aux (M := pw2 53) (Nat.le_of_lt hm) (pw2_mono (show (e + (R0 : Int)).toNat ≤ 971 + R0 by omega)) (c := pw2 1024) (t := pw2 R0) ?_ (two_five R0) high_word (Nat.pow_pos (by decide))
 rw [← pw2_add, ← pw2_add]
 congr 1
theorem Fl.near_pt {z : Int} {f T : Nat} {L : Int} {S I b : Nat} {u : ByteArray} {o : Int} {s : ByteArray} {p : Int} {t : ByteArray} {q : Int} {A : Nat} {d1 d2 : Nat → Dp} (h : Fl z f T L S I b u o s p t q A d1 d2) : -400 ≤ o ∧ o ≤ 400 ∧ 777 ≤ A := by
 obtain ⟨_, a, c⟩ := h.g.some h.pos
 have fs := h.fn.sf.fs.1
 have x := xp_in fs h.fn.m
 have m := mt_lt fs (mg S b)
 have l1 := fv_low (mt_some (f := f) h.m0) x.1
 have l2 := fv_high m x.2
 have hA := h.hA
 rw [hA] at a c
 rw [show ((A : Int) - 1).toNat = A - 1 by omega] at a
 rw [show ((A : Int)).toNat = A by omega] at c
 have y1 : pwT 776 < pwT A := Nat.lt_of_le_of_lt l1 c
 rw [← pwT_add] at l2
 have y2 : pwT (A - 1) < pwT (310 + R0) := Nat.lt_of_le_of_lt a l2
 have z1 := pwT_lt y1
 have z2 := pwT_lt y2
 have r : R0 = 1100 := rfl
 omega
theorem Fl.few {z : Int} {f T : Nat} {L : Int} {S I b : Nat} {u : ByteArray} {o : Int} {s : ByteArray} {p : Int} {t : ByteArray} {q : Int} {A : Nat} {d1 d2 : Nat → Dp} (h : Fl z f T L S I b u o s p t q A d1 d2) {n : Nat} (n0 : 1 ≤ n) (n1 : n ≤ 17) {d : Dp} (hd : d = d1 n ∨ d = d2 n) : d.1.size ≤ n ∧ o ≤ d.2 ∧ d.2 ≤ o + 1 := by
 obtain ⟨c1, du, _, _⟩ := h.c n n0 n1
 rcases du.way with ⟨w, e1, e2, e3⟩ | ⟨w, m, k, mz, m1, _, _, e1, k1, _, K⟩
 · rcases hd with rfl | rfl
   · rw [e1, c1]; exact ⟨w, by omega, by omega⟩
   · rw [e2, e3]; exact ⟨w, by omega, by omega⟩
 · rcases hd with rfl | rfl
   · rw [e1, c1, pre_size (by omega)]; exact ⟨by omega, by omega, by omega⟩
   · rcases K with ⟨_, e2, e3⟩ | ⟨k0, _, e2, e3⟩
     · rw [e2, e3]
       exact ⟨n0, by omega, by omega⟩
     · rw [e2, e3, upS_size k0 (by omega)]; exact ⟨by omega, by omega, by omega⟩
theorem Fl.size {z : Int} {f T : Nat} {L : Int} {S I b : Nat} {u : ByteArray} {o : Int} {s : ByteArray} {p : Int} {t : ByteArray} {q : Int} {A : Nat} {d1 d2 : Nat → Dp} (h : Fl z f T L S I b u o s p t q A d1 d2) {c : Bool} {N : Nat} (n0 : 1 ≤ N) (n1 : N ≤ 17) {d : Dp} (hd : fD c s p t q u d1 d2 N = some d) (hn : ∀ m, 1 ≤ m → m < N → fD c s p t q u d1 d2 m = none) : d.1.size = N := by
 rcases h.pick c n0 n1 with ⟨a, _⟩ | ⟨d', Z, a, _, D, hb, w⟩
 · rw [a] at hd; cases hd
 · rw [a] at hd
   obtain rfl := Option.some.inj hd
   obtain ⟨l1, l2, _⟩ := h.few n0 n1 w
   rcases Nat.eq_or_lt_of_le l1 with e | e
   · exact e
   · exfalso
     have Z0 : 0 < Z := by
      rcases Nat.eq_zero_or_pos Z with k | k
      · have x := h.hd (c := c) D
        rw [hb, k] at x
        have y := hitB_iff.1 x.symm
        have r := h.rm
        rcases w with w | w
        · obtain ⟨_, du, _, _⟩ := h.c N n0 n1
          rcases du.way with ⟨_, e1, _⟩ | ⟨_, m, _, mz, m1, _, _, e1, _⟩
          · have := D.pos.1 (by rw [w, e1]; exact h.pos); omega
          · have := D.pos.1 (by rw [w, e1, pre_size (by omega)]; exact mz); omega
        · obtain ⟨_, du, _, c4⟩ := h.c N n0 n1
          rw [w] at D
          have e1 := D.vl.symm.trans c4.vl
          have := up_ge (X := vlF f L (mg S b)) (ten_pos (A - N))
          have := r.below
          omega
      · exact k
     have d0 := D.pos.2 Z0
     have lo := D.lo
     have hA := h.hA
     have g : Z % 10 ^ (A - d'.1.size) = 0 := by
      have vl := D.vl
      rw [← vl, show (d'.2 + (R0 : Int) - (d'.1.size : Int)).toNat = ((d'.2 + (R0 : Int) - (d'.1.size : Int)).toNat - (A - d'.1.size)) + (A - d'.1.size) by omega, Nat.pow_add, ← Nat.mul_assoc, Nat.mul_mod_left]
     have x := h.hd (c := c) D
     have hb' : hdB c s p t q (d'.1, d'.2) = true := hb
     rw [hb'] at x
     have y := any_of h.rm (ten_pos (A - d'.1.size)) x.symm g
     have k := hn d'.1.size (by omega) e
     rw [h.none_iff c (by omega) (by omega), y] at k
     cases k
theorem Fl.back {z : Int} {f T : Nat} {L : Int} {S I b : Nat} {u : ByteArray} {o : Int} {s : ByteArray} {p : Int} {t : ByteArray} {q : Int} {A : Nat} {d1 d2 : Nat → Dp} (h : Fl z f T L S I b u o s p t q A d1 d2) {n : Nat} (n0 : 1 ≤ n) (n1 : n ≤ 17) {d : Dp} (hd : fD (decide (b % 2 = 0)) s p t q u d1 d2 n = some d) : VD d.1 d.2 false ∧ nrX f T L d.1 d.2 false = (mg S b, false) := by
 rcases h.pick (decide (b % 2 = 0)) n0 n1 with ⟨a, _⟩ | ⟨d', Z, a, _, D, hb, w⟩
 · rw [a] at hd; cases hd
 · rw [a] at hd
   obtain rfl := Option.some.inj hd
   refine ⟨D.vd, ?_⟩
   obtain ⟨_, l2, l3⟩ := h.few n0 n1 w
   obtain ⟨b1, b2, _⟩ := h.near_pt
   have x := h.hd (c := decide (b % 2 = 0)) D
   have hb' : hdB (decide (b % 2 = 0)) s p t q (d'.1, d'.2) = true := hb
   rw [hb'] at x
   have y := hitB_iff.1 x.symm
   have ev : mg S b % 2 = b % 2 := by
    have e := h.fn.sf.fs.2.2.2.2.1
    obtain ⟨k, rfl⟩ : ∃ k, S = 2 * k := ⟨S / 2, by omega⟩
    unfold mg
    rw [Nat.mod_mul_right_mod]
   have Z0 : 0 < Z := by
    have d0 : 0 < d'.1.size := by
     obtain ⟨_, du, _, _⟩ := h.c n n0 n1
     rcases du.way with ⟨_, e1, e2, _⟩ | ⟨_, m, k, mz, m1, _, _, e1, k1, _, K⟩
     · rcases w with rfl | rfl
       · rw [e1]; exact h.pos
       · rw [e2]; exact h.pos
     · rcases w with rfl | rfl
       · rw [e1, pre_size (by omega)]; exact mz
       · rcases K with ⟨_, e2, _⟩ | ⟨k0, _, e2, _⟩
         · rw [e2]; decide
         · rw [e2, upS_size k0 (by omega)]; exact k0
    exact D.pos.1 d0
   have i : InI f L (mg S b) Z := by
    unfold InI
    rcases y with ⟨e, y1, y2⟩ | ⟨_, y1, y2⟩
    · exact Or.inr ⟨by have := of_decide_eq_true e; omega, y1, y2⟩
    · exact Or.inl ⟨y1, y2⟩
   exact nr_in h.fn.sf.fs.1 h.fn.m D Z0 (by omega) (by omega) i
theorem Sf.fz {z : Int} {f T : Nat} {L : Int} {S I : Nat} (h : Sf z f T L S I) : Fz z S I f T L := by
 rcases h with ⟨rfl, rfl, rfl, rfl, rfl, rfl⟩ | ⟨rfl, rfl, rfl, rfl, rfl, rfl⟩
 · exact Or.inl ⟨rfl, rfl, rfl, rfl, rfl, rfl⟩
 · exact Or.inr ⟨rfl, rfl, rfl, rfl, rfl, rfl⟩
theorem Fl.near16 {z : Int} {f T : Nat} {L : Int} {S I b : Nat} {u : ByteArray} {o : Int} {s : ByteArray} {p : Int} {t : ByteArray} {q : Int} {A : Nat} {d1 d2 : Nat → Dp} (h : Fl z f T L S I b u o s p t q A d1 d2) {n : Nat} (n0 : 1 ≤ n) (n1 : n ≤ 17) {d : Dp} (hd : fD (decide (b % 2 = 0)) s p t q u d1 d2 n = some d) (w : World) :
 Calls Tryz.prog 20 #[dcV d.1 d.2 false, .int .i64 z] w fun e w' => e = .returned (.tuple #[.int .u64 ((mg S b : Nat) : Int), .int .i64 0]) ∧ Below w.heap.size w w' := by
 obtain ⟨vd, e⟩ := h.back n0 n1 hd
 have r := nearest16 h.fn.sf.fz vd w
 rw [e] at r
 exact r
theorem fn_mag {z : Int} {f T : Nat} {L : Int} {S I b : Nat} (h : Fn z f T L S I b) (w : World) : Calls Tryz.prog 21 #[.int .u64 (b : Int), .int .i64 z] w fun e w' => e = .returned (.int .u64 ((mg S b : Nat) : Int)) ∧ Below w.heap.size w w' := toB' (fun W => rmag_z h.sf.fz h.lt W) w
end Go.Proofs.YtblkokjkmbpejaaGreatDoor
