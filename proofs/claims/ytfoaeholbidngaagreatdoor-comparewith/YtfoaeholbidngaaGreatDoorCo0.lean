/-
  What the document's answers of layer 16 stand on besides: Value, Half, Of, Check, Mag and the class.
-/
import Derived.Test.YtfoaeholbidngaaGreatDoorEwF
import Derived.Test.YtfoaeholbidngaaGreatDoorEwN
import Derived.Laws.BitsAllLaws
import Derived.Lib.ItoaNum
import Derived.Laws.Externs
import Derived.WalkKit
import Derived.WalkSpells
import Derived.WalkLawsBesides
import Derived.Lib.Mul64
import Derived.Laws.Bits64b
import Derived.OwnWalk
import Derived.Lib.TrailingZeros
import Derived.Deep.OwnRows
import Derived.Laws.CopyOwn
import Derived.BigQuiet
import Derived.Deep.QuietTactic
import Derived.RegionTactic
import Derived.ChangeAlike
import Derived.BigRegion
import Derived.Deep.RegionHeld3
import Derived.Lib.SliceRun
import Derived.Deep.LoopGhost
import Derived.WalkMore
import Derived.Deep.RegionWith
import Derived.Deep.AppendLies
import Derived.Deep.DeepCutAuto
import Derived.LaidEql
import Derived.Stop.Asserts
import Derived.RowKitTokens
import Derived.Lib.Strings
import Derived.Lib.BufferWrite
import Derived.Lib.UnsafeStr
import Derived.Laws.MakeOwn
import Derived.Lib.ConvBytes
import Derived.Laws.AppendOwn
import Ieee.Arith
import Derived.Laws.FloatArith
namespace Go.Proofs.YtfoaeholbidngaaGreatDoor
open Go.RowKit

set_option maxRecDepth 100000 in
set_option maxHeartbeats 1000000 in
theorem rcheck_no {s : Int} (h : Sn s) (b : Int) (w : World) : Calls Tryz.prog 61 #[.int .u64 b, .int .i64 s] w fun e w' => e = .returned (.int .i64 5) ∧ w' = w := by
  have H := fun W => rsize_no h W
  go_enter Tryz.func61, Tryz.ntmps61
  go_wp2_with fail
  refine (H _).mono ?_
  rintro e w ⟨rfl, rfl⟩
  go_wp2
  go_ret
  exact ⟨rfl, rfl⟩
set_option maxRecDepth 100000 in
set_option maxHeartbeats 1000000 in
theorem rcheck_big {b : Nat} (h : 4294967296 ≤ b) (w : World) : Calls Tryz.prog 61 #[.int .u64 (b : Int), .int .i64 32] w fun e w' => e = .returned (.int .i64 1) ∧ w' = w := by
  have H := fun W => rsize_32 W
  have q : ((b : Int) / 4294967296 != 0) = true := by simp; omega
  go_enter Tryz.func61, Tryz.ntmps61
  go_wp2_with fail
  refine (H _).mono ?_
  rintro e w ⟨rfl, rfl⟩
  go_wp2
  go_ret
  exact ⟨rfl, rfl⟩
set_option maxRecDepth 100000 in
set_option maxHeartbeats 1000000 in
theorem rvalue_walk {s b : Int} {x0 : Bool} {x1 : Int} {x2 : Nat} {x3 : Int} {w : World} (h2 : x2 < 18446744073709551616) (h0 : -1100 ≤ x3) (h1 : x3 ≤ 1000) (H : ∀ W, Calls Tryz.prog 63 #[.int .u64 b, .int .i64 s] W fun e w' => e = .returned (.tuple #[.agg #[.bool x0, .int .i64 x1, .int .u64 (x2 : Int), .int .i64 x3], .int .i64 0]) ∧ Below W.heap.size W w') : Calls Tryz.prog 34 #[.int .u64 b, .int .i64 s] w fun e w' => ∃ (v1 v2 : Value) (N D : Nat), e = .returned (.tuple #[.bool x0, v1, v2, .int .i64 0]) ∧ NatV w' v1 N ∧ NatV w' v2 D ∧ Frc N D x2 x3 ∧ Below w.heap.size w w' := by
  have HR := fun W => rexact_ok h2 h0 h1 W
  clear h2 h0 h1
  go_enter Tryz.func34, Tryz.ntmps34
  go_wp2_with fail
  refine (H _).mono ?_
  rintro e w1 ⟨rfl, hb⟩
  have B2 : Hid (Below w.heap.size w (w1.alloc (.cells #[.bool x0, .int .i64 x1, .int .u64 (x2 : Int), .int .i64 x3] 90))) := hb.alloc hb.size _
  have X2 : Hid (FlB (w1.alloc (.cells #[.bool x0, .int .i64 x1, .int .u64 (x2 : Int), .int .i64 x3] 90)) w1.heap.size _ _ _ _) := FlB.new w1 _ _ _ _ _
  have T := HR (w1.alloc (.cells #[.bool x0, .int .i64 x1, .int .u64 (x2 : Int), .int .i64 x3] 90))
  clear hb H HR
  go_wp2_with fail
  refine T.mono ?_
  rintro x w3 ⟨v1, v2, N, D, rfl, n1, n2, hf, f1, f2, hb⟩
  have N3 : Hid (Big.NatV w3 v2 D ∧ Fits 100 D ∧ Frc N D x2 x3 ∧ Below w.heap.size w w3) := ⟨n2, f2, hf, B2.out.trans (hb.mono B2.out.size)⟩
  have K3 : Hid (FlB w3 w1.heap.size _ _ _ _) := X2.out.step hb
  have T1 := words_nat n1 f1
  clear hb n1 n2 hf f1 f2 T B2 X2
  go_wp2_with fail
  refine T1.mono ?_
  rintro x w4 ⟨v3, rfl, n3, hb⟩
  have N4 : Hid (NatV w4 v3 N ∧ Frc N D x2 x3 ∧ Below w.heap.size w w4) := ⟨n3, N3.out.2.2.1, N3.out.2.2.2.trans (hb.mono N3.out.2.2.2.size)⟩
  have K4 : Hid (FlB w4 w1.heap.size _ _ _ _) := K3.out.step hb
  have T2 := words_nat (N3.out.1.below hb) N3.out.2.1
  clear hb n3 T1 N3 K3
  go_wp2_with fail
  refine T2.mono ?_
  rintro x w5 ⟨v4, rfl, n4, hb⟩
  have N5 : Hid (NatV w5 v3 N ∧ NatV w5 v4 D ∧ Frc N D x2 x3 ∧ Below w.heap.size w w5) := ⟨N4.out.1.below hb, n4, N4.out.2.1, N4.out.2.2.trans (hb.mono N4.out.2.2.size)⟩
  have K5 : Hid (FlB w5 w1.heap.size _ _ _ _) := K4.out.step hb
  clear hb n4 T2 N4 K4
  obtain ⟨_, a0, _, _, _, _, _, _, _⟩ := K5.out
  go_wp2
  exact bodyPost_ret (v := .tuple #[.bool x0, v3, v4, .int .i64 0]) (by simp [results, Tryz.results34, go_sem]) rfl ⟨v3, v4, N, D, rfl, N5.out.1, N5.out.2.1, N5.out.2.2.1, N5.out.2.2.2⟩
theorem fz_parts {s : Int} {g n f T : Nat} {L : Int} (hz : Fz s g n f T L) : n = T * 2 ^ f ∧ n < g ∧ 2 * g ≤ 18446744073709551616 ∧ 0 < g := by
  rcases hz with ⟨_, rfl, rfl, rfl, rfl, _⟩ | ⟨_, rfl, rfl, rfl, rfl, _⟩ <;> decide
theorem parts_lim {s : Int} {g n f T : Nat} {L : Int} (hz : Fz s g n f T L) {m : Nat} (hm : m < n) : mt f m < 9007199254740992 ∧ -1074 ≤ xp f L m ∧ xp f L m ≤ 971 := by
  have e23 : (2 : Nat) ^ 23 = 8388608 := by decide
  have e52 : (2 : Nat) ^ 52 = 4503599627370496 := by decide
  unfold mt xp
  rcases hz with ⟨_, _, rfl, rfl, _, rfl⟩ | ⟨_, _, rfl, rfl, _, rfl⟩
  · rw [e23]
    split <;> omega
  · rw [e52]
    split <;> omega
/-- Half of a finite float: the fraction in least terms. -/
theorem half14 {s : Int} {g n f T : Nat} {L : Int} (hz : Fz s g n f T L) {b : Nat} (hm : b < n) (W : World) : Calls Tryz.prog 38 #[.int .u64 (b : Int), .int .i64 s] W fun x w' => ∃ (v1 v2 : Value) (N D : Nat), x = .returned (.tuple #[v1, v2, .int .i64 0]) ∧ NatV w' v1 N ∧ NatV w' v2 D ∧ Frc N D (hM f b) (hX f L b) ∧ Below W.heap.size W w' := by
  obtain ⟨_, ng', hg, g0⟩ := fz_parts hz
  have e1 : mg g b = b := Nat.mod_eq_of_lt (by omega)
  have e2 : ng g b = false := by unfold ng; rw [decide_eq_false_iff_not]; omega
  have H := fun W => rfin_yes hz (b := b) (by omega) (by rw [e1]; exact hm) W
  rw [e1, e2] at H
  obtain ⟨p1, p2, p3⟩ := parts_lim hz hm
  rcases cl_cases n b with ⟨q, k⟩ | ⟨_, _, k⟩ | ⟨_, q, k⟩ | ⟨q, k⟩
  · rw [k] at H
    unfold uM uE at H
    rw [k, if_neg (by decide), if_neg (by decide), show ((0 : Nat) : Int) = 0 from rfl] at H
    have R := rhalf_zero (w := W) hz H
    have e3 : hM f b = 1 ∧ hX f L b = L - 1 := by unfold hM hX; rw [q, mt_nought, xp_nought]; exact ⟨rfl, rfl⟩
    rw [e3.1, e3.2]
    exact R
  · rw [k] at H
    unfold uM uE at H
    rw [k, if_pos rfl, if_pos rfl] at H
    exact rhalf_fine (w := W) hz (by decide) (by omega) (by omega) (by omega) H
  · omega
  · omega
/-- Half of an infinity: the error. -/
theorem half_inf {s : Int} {g n f T : Nat} {L : Int} (hz : Fz s g n f T L) (W : World) : Calls Tryz.prog 38 #[.int .u64 (n : Int), .int .i64 s] W fun x w' => x = .returned (.tuple #[.slice none 0 0, .slice none 0 0, .int .i64 1]) ∧ Below W.heap.size W w' := by
  obtain ⟨_, ng', hg, g0⟩ := fz_parts hz
  have e1 : mg g n = n := Nat.mod_eq_of_lt (by omega)
  obtain ⟨x0, x1, x2, x3, H⟩ := rfin_inf hz (b := n) (by omega) (by rw [e1]; omega)
  exact rhalf_err (by decide) H
theorem of_nat {w : World} {v : Value} {X : Nat} (h : NatV w v X) : (∃ ao n c, v = .slice ao n c) ∧ Fits 256 X ∧ Calls Tryz.prog 36 #[v] w fun e w' => ∃ v', e = .returned v' ∧ Big.NatV w' v' X ∧ Below w.heap.size w w' := by
  obtain ⟨ao, n, c, b, o, f, rfl, S, t, rfl, l⟩ := h
  refine ⟨⟨_, _, _, rfl⟩, ?_, rof_any S (by omega)⟩
  exact (Fits.word (V_lt S.ws n)).up (by omega)
/-- A number against a place, by whole numbers alone. -/
theorem frc_cmp {n d N D m : Nat} {x : Int} (h : Frc N D m x) (D0 : 0 < D) : (vL n d 0 m x ↔ n * D < N * d) ∧ (vE n d 0 m x ↔ n * D = N * d) := by
  obtain ⟨h, _⟩ := h
  obtain ⟨K, k0, k1, e⟩ := h
  have p : 0 < 2 ^ (0 - K).toNat := Nat.two_pow_pos _
  have e' : N * 2 ^ (0 - K).toNat = D * ev K m x := e
  have key : ∀ R : Nat → Nat → Prop, (∀ a b c, 0 < c → (R (a * c) (b * c) ↔ R a b)) → (R (n * 2 ^ (0 - K).toNat) (d * ev K m x) ↔ R (n * D) (N * d)) := by
    intro R hR
    rw [← hR (n * 2 ^ (0 - K).toNat) (d * ev K m x) D D0, ← hR (n * D) (N * d) _ p]
    have a : n * 2 ^ (0 - K).toNat * D = n * D * 2 ^ (0 - K).toNat := Nat.mul_right_comm _ _ _
    have b : d * ev K m x * D = N * d * 2 ^ (0 - K).toNat := by
      rw [Nat.mul_assoc, Nat.mul_comm (ev K m x) D, ← e', Nat.mul_comm N d, Nat.mul_assoc]
    rw [a, b]
  refine ⟨⟨fun q => ?_, fun q => ?_⟩, ⟨fun q => ?_, fun q => ?_⟩⟩
  · exact (key (· < ·) fun a b c c0 => Nat.mul_lt_mul_right c0).mp (q.at K k0 k1)
  · exact ⟨K, k0, k1, (key (· < ·) fun a b c c0 => Nat.mul_lt_mul_right c0).mpr q⟩
  · exact (key (· = ·) fun a b c c0 => Nat.mul_left_inj (by omega)).mp (q.at K k0 k1)
  · exact ⟨K, k0, k1, (key (· = ·) fun a b c c0 => Nat.mul_left_inj (by omega)).mpr q⟩
/-- Not beyond the half way place behind it; there, only if it is even. -/
theorem up_ord {f : Nat} {L : Int} {n d N D b : Nat} (h : Frc N D (hM f b) (hX f L b)) (u : Up f L n d 0 false b) : ord (n * D) (N * d) = -1 ∨ (ord (n * D) (N * d) = 0 ∧ b % 2 = 0) := by
  obtain ⟨c1, c2⟩ := frc_cmp (n := n) (d := d) h h.pos
  rcases u with u | ⟨u, e, _⟩
  · exact .inl (ord_lt (c1.mp u))
  · exact .inr ⟨ord_eq (c2.mp u), e⟩
/-- Beyond the half way place ahead of it; there, only if it is even. -/
theorem dn_ord {f : Nat} {L : Int} {n d N D b : Nat} (h : Frc N D (hM f (b - 1)) (hX f L (b - 1))) (u : ¬ Up f L n d 0 false (b - 1)) : ord (n * D) (N * d) = 1 ∨ (ord (n * D) (N * d) = 0 ∧ b % 2 = 0) := by
  obtain ⟨c1, c2⟩ := frc_cmp (n := n) (d := d) h h.pos
  rcases Nat.lt_trichotomy (n * D) (N * d) with q | q | q
  · exact absurd (.inl (c1.mpr q)) u
  · refine .inr ⟨ord_eq q, ?_⟩
    apply Classical.byContradiction
    intro o
    exact u (.inr ⟨c2.mpr q, by omega, rfl⟩)
  · exact .inl (ord_gt q)
end Go.Proofs.YtfoaeholbidngaaGreatDoor
