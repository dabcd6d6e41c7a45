/-
  The law BitsBack: for all bits and every size: what the calls answer comes back.
-/
import Derived.Test.YtdejfjlcknfbbaaDoorBtBk
namespace Go.Proofs.YtdejfjlcknfbbaaDoor
open Go.RowKit

theorem mg_sgd {g x : Nat} (c : Bool) (h : x < g) : mg g (sgd g c x) = x := by
  unfold mg sgd
  cases c
  · exact Nat.mod_eq_of_lt h
  · show (x + g) % g = x
    rw [Nat.add_mod_right, Nat.mod_eq_of_lt h]
theorem ng_sgd {g x : Nat} (c : Bool) (h : x < g) : ng g (sgd g c x) = c := by
  unfold ng sgd
  cases c
  · exact decide_eq_false (by show ¬ g ≤ x; omega)
  · exact decide_eq_true (by show g ≤ x + g; omega)
theorem sgd_lt {g x : Nat} (c : Bool) (h : x < g) : sgd g c x < 2 * g := by
  unfold sgd
  cases c
  · show x < 2 * g; omega
  · show x + g < 2 * g; omega
/-- The next bits: their magnitude, their sign. -/
theorem mg_succ {g b n : Nat} (h : b < 2 * g) (hn : n < g) (hx : mg g b < n) : mg g (b + 1) = mg g b + 1 ∧ ng g (b + 1) = ng g b ∧ b + 1 < 2 * g := by
  unfold mg ng at *
  by_cases c : g ≤ b
  · have e : b % g = b - g := by rw [Nat.mod_eq_sub_mod c, Nat.mod_eq_of_lt (by omega)]
    rw [e] at hx
    have e2 : (b + 1) % g = b + 1 - g := by rw [Nat.mod_eq_sub_mod (by omega), Nat.mod_eq_of_lt (by omega)]
    refine ⟨by omega, ?_, by omega⟩
    rw [decide_eq_true c, decide_eq_true (by omega)]
  · have e : b % g = b := Nat.mod_eq_of_lt (by omega)
    rw [e] at hx
    have e2 : (b + 1) % g = b + 1 := Nat.mod_eq_of_lt (by omega)
    refine ⟨by omega, ?_, by omega⟩
    rw [decide_eq_false c, decide_eq_false (by omega)]
theorem cmp_succ {g b n : Nat} (h : b < 2 * g) (hn : n < g) (hx : mg g b < n) : cmpI (rk g b) (rk g (b + 1)) = if ng g b then 1 else -1 := by
  obtain ⟨e1, e2, _⟩ := mg_succ h hn hx
  unfold rk
  rw [e1, e2]
  cases ng g b
  · show cmpI (mg g b : Int) ((mg g b + 1 : Nat) : Int) = -1
    unfold cmpI
    rw [if_pos (by omega)]
  · show cmpI (-(mg g b : Int)) (-((mg g b + 1 : Nat) : Int)) = 1
    unfold cmpI
    rw [if_neg (by omega), if_pos (by omega)]
theorem cl_succ {n x : Nat} (hx : x < n) : (cl n (x + 1) == 4) = false ∧ (cl n (x + 1) == 1) = false := by
  rcases cl_cases n (x + 1) with ⟨p, q⟩ | ⟨_, _, q⟩ | ⟨_, _, q⟩ | ⟨p, q⟩
  · omega
  · rw [q]; decide
  · rw [q]; decide
  · omega
/-- Widened and narrowed. -/
theorem nr_wd {b : Nat} (h : b < 4294967296) (h4 : cl 2139095040 (mg 2147483648 b) ≠ 4) : nrV (wdV b) = (b, true) ∧ wdV b < 18446744073709551616 := by
  have hs := sgd_mg (g := 2147483648) (b := b) (by omega)
  unfold wdV
  rcases cl_cases 2139095040 (mg 2147483648 b) with ⟨p, q⟩ | ⟨p0, p1, q⟩ | ⟨p0, p1, q⟩ | ⟨_, q⟩
  · rw [q, if_pos rfl]
    refine ⟨?_, sgd_lt (g := 9223372036854775808) _ (by decide)⟩
    unfold nrV
    rw [mg_sgd _ (by decide), ng_sgd _ (by decide), cl_zero, if_pos rfl]
    rw [p] at hs
    rw [hs]
  · rw [q, if_neg (by decide), if_neg (by decide), if_neg (by decide)]
    obtain ⟨m0, m1, m2, m3⟩ := fine_32x p0 p1
    obtain ⟨y, hy, y1, y2, y3, y4⟩ := wide_some m0 m1 m2 m3
    have y5 : y < 9223372036854775808 := by omega
    rw [hy]
    show nrV (sgd 9223372036854775808 (ng 2147483648 b) y) = (b, true) ∧ sgd 9223372036854775808 (ng 2147483648 b) y < 18446744073709551616
    refine ⟨?_, sgd_lt (g := 9223372036854775808) _ y5⟩
    unfold nrV
    rw [mg_sgd _ y5, ng_sgd _ y5, cl_fine y4 (by omega), if_neg (by decide), if_neg (by decide), if_neg (by decide), y1, y2, nw_back p0 (by omega), hs]
  · rw [q, if_neg (by decide), if_pos rfl]
    refine ⟨?_, sgd_lt (g := 9223372036854775808) _ (by decide)⟩
    unfold nrV
    rw [mg_sgd _ (by decide), ng_sgd _ (by decide), cl_inf (by decide), if_neg (by decide), if_pos rfl]
    rw [p1] at hs
    rw [hs]
  · exact absurd q h4

theorem bback_32 {b : Nat} (h : b < 4294967296) (w : World) (hT : Tab w) : Calls Tryd.prog 8 #[.int .u64 (b : Int), .int .i64 32] w fun e w' => e = .returned (.bool true) ∧ Below w.heap.size w w' := by
  have U := fun W => unp_32 h W
  have hs := sgd_mg (g := 2147483648) (b := b) (by omega)
  rcases cl_cases 2139095040 (mg 2147483648 b) with ⟨p, q⟩ | ⟨p0, p1, q⟩ | ⟨p0, p1, q⟩ | ⟨_, q⟩
  · obtain ⟨a1, a2, a3⟩ := up_plain (f := 23) (L := (-149)) q (by decide) (by decide)
    rw [a1, a2, a3, q] at U
    rw [p] at hs
    have P := fun W (g : Tab W) => pk_of_32 (k := 1) (m := ((0 : Nat) : Int)) (p := 0) (c := ng 2147483648 b) W g (fun W' _ => pack_zero_32 _ _ _ W')
    rw [hs] at P
    have h4 : cl 2139095040 (mg 2147483648 b) ≠ 4 := by rw [q]; decide
    obtain ⟨e, l⟩ := nr_wd h h4
    have W1 := (widen_both_ok h).1
    have N1 := (narrow_both l).1
    rw [e] at N1
    have hx : mg 2147483648 b < 2139095040 := by omega
    obtain ⟨e1, e2, e3⟩ := mg_succ (g := 2147483648) (n := 2139095040) (by omega) (by decide) hx
    obtain ⟨k4, k1⟩ := cl_succ (n := 2139095040) hx
    rw [← e1] at k4 k1
    have hb1 : b + 1 < 4294967296 := by omega
    have C1 := fun W => cls_32 h W
    have C2 := fun W => cls_32 hb1 W
    have X1 := fun W => next_ok (b := (b : Int)) (s := 32) (c := cl 2139095040 (mg 2147483648 b)) (by rw [q]; decide) (by rw [q]; decide) (by omega) (by omega) C1 W
    have Y1 := fun W => prev_ok (b := ((b + 1 : Nat) : Int)) (s := 32) k4 k1 (by omega) (by omega) C2 W
    have Z1 := fun W => compare_ok_32 h hb1 (by rw [q]; decide) k4 W
    rw [cmp_succ (g := 2147483648) (n := 2139095040) (by omega) (by decide) hx] at Z1
    rw [show ((b + 1 : Nat) : Int) - 1 = (b : Int) by omega, show ((b + 1 : Nat) : Int) = (b : Int) + 1 by omega] at Y1
    rw [show ((b + 1 : Nat) : Int) = (b : Int) + 1 by omega] at Z1
    exact bback_step_32 (by decide) U P X1 Y1 Z1 W1 N1 w hT
  · obtain ⟨a1, a2, a3⟩ := up_fine (f := 23) (L := (-149)) q
    rw [a1, a2, a3, q] at U
    obtain ⟨g1, g2, _⟩ := parts_good 23 (-149) (mg 2147483648 b)
    have m53 : mt 23 (mg 2147483648 b) < 16777216 := g1
    have pp := pk_parts (f := 23) (t := 255) (L := (-149)) p0 (by omega)
    have P := fun W (g : Tab W) => pk_of_32 (k := 2) (m := (mt 23 (mg 2147483648 b) : Int)) (p := xp 23 (-149) (mg 2147483648 b)) (c := ng 2147483648 b) W g (fun W' g' => pack_some_32 _ (by omega) (mt_pos p0) (by omega) pp W' g')
    rw [hs] at P
    have h4 : cl 2139095040 (mg 2147483648 b) ≠ 4 := by rw [q]; decide
    obtain ⟨e, l⟩ := nr_wd h h4
    have W1 := (widen_both_ok h).1
    have N1 := (narrow_both l).1
    rw [e] at N1
    have hx : mg 2147483648 b < 2139095040 := by omega
    obtain ⟨e1, e2, e3⟩ := mg_succ (g := 2147483648) (n := 2139095040) (by omega) (by decide) hx
    obtain ⟨k4, k1⟩ := cl_succ (n := 2139095040) hx
    rw [← e1] at k4 k1
    have hb1 : b + 1 < 4294967296 := by omega
    have C1 := fun W => cls_32 h W
    have C2 := fun W => cls_32 hb1 W
    have X1 := fun W => next_ok (b := (b : Int)) (s := 32) (c := cl 2139095040 (mg 2147483648 b)) (by rw [q]; decide) (by rw [q]; decide) (by omega) (by omega) C1 W
    have Y1 := fun W => prev_ok (b := ((b + 1 : Nat) : Int)) (s := 32) k4 k1 (by omega) (by omega) C2 W
    have Z1 := fun W => compare_ok_32 h hb1 (by rw [q]; decide) k4 W
    rw [cmp_succ (g := 2147483648) (n := 2139095040) (by omega) (by decide) hx] at Z1
    rw [show ((b + 1 : Nat) : Int) - 1 = (b : Int) by omega, show ((b + 1 : Nat) : Int) = (b : Int) + 1 by omega] at Y1
    rw [show ((b + 1 : Nat) : Int) = (b : Int) + 1 by omega] at Z1
    exact bback_step_32 (by decide) U P X1 Y1 Z1 W1 N1 w hT
  · obtain ⟨a1, a2, a3⟩ := up_plain (f := 23) (L := (-149)) q (by decide) (by decide)
    rw [a1, a2, a3, q] at U
    rw [p1] at hs
    have P := fun W (g : Tab W) => pk_of_32 (k := 3) (m := ((0 : Nat) : Int)) (p := 0) (c := ng 2147483648 b) W g (fun W' _ => pack_inf_32 _ _ _ W')
    rw [hs] at P
    have h4 : cl 2139095040 (mg 2147483648 b) ≠ 4 := by rw [q]; decide
    obtain ⟨e, l⟩ := nr_wd h h4
    have W1 := (widen_both_ok h).1
    have N1 := (narrow_both l).1
    rw [e] at N1
    have C1 := fun W => cls_32 h W
    rw [q] at C1
    exact bback_inf_32 U P (fun W => next_end C1 W) W1 N1 w hT
  · obtain ⟨a1, a2, a3⟩ := up_nan (f := 23) (L := (-149)) q
    rw [a1, a2, a3, q] at U
    exact bback_nan_32 U (fun W g => pk_of_32 W g (fun W' _ => pack_nan_32 _ _ _ W')) w hT
theorem bback_64 {b : Nat} (h : b < 18446744073709551616) (w : World) (hT : Tab w) : Calls Tryd.prog 8 #[.int .u64 (b : Int), .int .i64 64] w fun e w' => e = .returned (.bool true) ∧ Below w.heap.size w w' := by
  have U := fun W => unp_64 h W
  have hs := sgd_mg (g := 9223372036854775808) (b := b) (by omega)
  rcases cl_cases 9218868437227405312 (mg 9223372036854775808 b) with ⟨p, q⟩ | ⟨p0, p1, q⟩ | ⟨p0, p1, q⟩ | ⟨_, q⟩
  · obtain ⟨a1, a2, a3⟩ := up_plain (f := 52) (L := (-1074)) q (by decide) (by decide)
    rw [a1, a2, a3, q] at U
    rw [p] at hs
    have P := fun W (g : Tab W) => pk_of_64 (k := 1) (m := ((0 : Nat) : Int)) (p := 0) (c := ng 9223372036854775808 b) W g (fun W' _ => pack_zero_64 _ _ _ W')
    rw [hs] at P
    have hx : mg 9223372036854775808 b < 9218868437227405312 := by omega
    obtain ⟨e1, e2, e3⟩ := mg_succ (g := 9223372036854775808) (n := 9218868437227405312) (by omega) (by decide) hx
    obtain ⟨k4, k1⟩ := cl_succ (n := 9218868437227405312) hx
    rw [← e1] at k4 k1
    have hb1 : b + 1 < 18446744073709551616 := by omega
    have C1 := fun W => cls_64 h W
    have C2 := fun W => cls_64 hb1 W
    have X1 := fun W => next_ok (b := (b : Int)) (s := 64) (c := cl 9218868437227405312 (mg 9223372036854775808 b)) (by rw [q]; decide) (by rw [q]; decide) (by omega) (by omega) C1 W
    have Y1 := fun W => prev_ok (b := ((b + 1 : Nat) : Int)) (s := 64) k4 k1 (by omega) (by omega) C2 W
    have Z1 := fun W => compare_ok_64 h hb1 (by rw [q]; decide) k4 W
    rw [cmp_succ (g := 9223372036854775808) (n := 9218868437227405312) (by omega) (by decide) hx] at Z1
    rw [show ((b + 1 : Nat) : Int) - 1 = (b : Int) by omega, show ((b + 1 : Nat) : Int) = (b : Int) + 1 by omega] at Y1
    rw [show ((b + 1 : Nat) : Int) = (b : Int) + 1 by omega] at Z1
    exact bback_step_64 (by decide) U P X1 Y1 Z1 w hT
  · obtain ⟨a1, a2, a3⟩ := up_fine (f := 52) (L := (-1074)) q
    rw [a1, a2, a3, q] at U
    obtain ⟨g1, g2, _⟩ := parts_good 52 (-1074) (mg 9223372036854775808 b)
    have m53 : mt 52 (mg 9223372036854775808 b) < 9007199254740992 := g1
    have pp := pk_parts (f := 52) (t := 2047) (L := (-1074)) p0 (by omega)
    have P := fun W (g : Tab W) => pk_of_64 (k := 2) (m := (mt 52 (mg 9223372036854775808 b) : Int)) (p := xp 52 (-1074) (mg 9223372036854775808 b)) (c := ng 9223372036854775808 b) W g (fun W' g' => pack_some_64 _ (by omega) (mt_pos p0) (by omega) pp W' g')
    rw [hs] at P
    have hx : mg 9223372036854775808 b < 9218868437227405312 := by omega
    obtain ⟨e1, e2, e3⟩ := mg_succ (g := 9223372036854775808) (n := 9218868437227405312) (by omega) (by decide) hx
    obtain ⟨k4, k1⟩ := cl_succ (n := 9218868437227405312) hx
    rw [← e1] at k4 k1
    have hb1 : b + 1 < 18446744073709551616 := by omega
    have C1 := fun W => cls_64 h W
    have C2 := fun W => cls_64 hb1 W
    have X1 := fun W => next_ok (b := (b : Int)) (s := 64) (c := cl 9218868437227405312 (mg 9223372036854775808 b)) (by rw [q]; decide) (by rw [q]; decide) (by omega) (by omega) C1 W
    have Y1 := fun W => prev_ok (b := ((b + 1 : Nat) : Int)) (s := 64) k4 k1 (by omega) (by omega) C2 W
    have Z1 := fun W => compare_ok_64 h hb1 (by rw [q]; decide) k4 W
    rw [cmp_succ (g := 9223372036854775808) (n := 9218868437227405312) (by omega) (by decide) hx] at Z1
    rw [show ((b + 1 : Nat) : Int) - 1 = (b : Int) by omega, show ((b + 1 : Nat) : Int) = (b : Int) + 1 by omega] at Y1
    rw [show ((b + 1 : Nat) : Int) = (b : Int) + 1 by omega] at Z1
    exact bback_step_64 (by decide) U P X1 Y1 Z1 w hT
  · obtain ⟨a1, a2, a3⟩ := up_plain (f := 52) (L := (-1074)) q (by decide) (by decide)
    rw [a1, a2, a3, q] at U
    rw [p1] at hs
    have P := fun W (g : Tab W) => pk_of_64 (k := 3) (m := ((0 : Nat) : Int)) (p := 0) (c := ng 9223372036854775808 b) W g (fun W' _ => pack_inf_64 _ _ _ W')
    rw [hs] at P
    have C1 := fun W => cls_64 h W
    rw [q] at C1
    exact bback_inf_64 U P (fun W => next_end C1 W) w hT
  · obtain ⟨a1, a2, a3⟩ := up_nan (f := 52) (L := (-1074)) q
    rw [a1, a2, a3, q] at U
    exact bback_nan_64 U (fun W g => pk_of_64 W g (fun W' _ => pack_nan_64 _ _ _ W')) w hT
theorem law_bback (b : Nat) (hb : b < 18446744073709551616) (s : Int) (w : World) (hT : Tab w) :
    Calls Tryd.prog 8 #[.int .u64 (b : Int), .int .i64 s] w fun e w' => e = .returned (.bool true) ∧ Below w.heap.size w w' := by
  by_cases h1 : s = 32
  · subst h1
    by_cases h : b < 4294967296
    · exact bback_32 h w hT
    · exact bback_big (by omega) w
  · by_cases h2 : s = 64
    · subst h2
      exact bback_64 hb w hT
    · exact bback_no ⟨h1, h2⟩ _ w
end Go.Proofs.YtdejfjlcknfbbaaDoor
