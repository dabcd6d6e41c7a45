/-
  The document's Half at finite floats, its Of; how a number that is rounded lies to the half way places on both sides.
-/
import Derived.Test.YtfgopmgmmpkbeaaEwH
namespace Go.Proofs.Ytfgopmgmmpkbeaa
open Go.RowKit

theorem fz_parts {s : Int} {g n f T : Nat} {L : Int} (hz : Fz s g n f T L) : n = T * 2 ^ f ∧ n < g ∧ 2 * g ≤ 18446744073709551616 ∧ 0 < g := by
  rcases hz with ⟨_, rfl, rfl, rfl, rfl, _⟩ | ⟨_, rfl, rfl, rfl, rfl, _⟩ <;> decide
theorem parts_lim {s : Int} {g n f T : Nat} {L : Int} (hz : Fz s g n f T L) {m : Nat} (hm : m < n) : mt f m < 9007199254740992 ∧ -1074 ≤ xp f L m ∧ xp f L m ≤ 971 := by
  have e23 : (2 : Nat) ^ 23 = 8388608 := by decide
  have e52 : (2 : Nat) ^ 52 = 4503599627370496 := by decide
  unfold mt xp
  rcases hz with ⟨_, _, rfl, rfl, _, rfl⟩ | ⟨_, _, rfl, rfl, _, rfl⟩
  · rw [e23]
    split <;> omega
  · rw [e52]
    split <;> omega
/-- Half of a finite float: the fraction in least terms. -/
theorem half14 {s : Int} {g n f T : Nat} {L : Int} (hz : Fz s g n f T L) {b : Nat} (hm : b < n) (W : World) : Calls Try.prog 20 #[.int .u64 (b : Int), .int .i64 s] W fun x w' => ∃ (v1 v2 : Value) (N D : Nat), x = .returned (.tuple #[v1, v2, .int .i64 0]) ∧ NatV w' v1 N ∧ NatV w' v2 D ∧ Frc N D (hM f b) (hX f L b) ∧ Below W.heap.size W w' := by
  obtain ⟨_, ng', hg, g0⟩ := fz_parts hz
  have e1 : mg g b = b := Nat.mod_eq_of_lt (by omega)
  have e2 : ng g b = false := by unfold ng; rw [decide_eq_false_iff_not]; omega
  have H := fun W => rfin_yes hz (b := b) (by omega) (by rw [e1]; exact hm) W
  rw [e1, e2] at H
  obtain ⟨p1, p2, p3⟩ := parts_lim hz hm
  rcases cl_cases n b with ⟨q, k⟩ | ⟨_, _, k⟩ | ⟨_, q, k⟩ | ⟨q, k⟩
  · rw [k] at H
    unfold uM uE at H
    rw [k, if_neg (by decide), if_neg (by decide), show ((0 : Nat) : Int) = 0 from rfl] at H
    have R := rhalf_zero (w := W) hz H
    have e3 : hM f b = 1 ∧ hX f L b = L - 1 := by unfold hM hX; rw [q, mt_nought, xp_nought]; exact ⟨rfl, rfl⟩
    rw [e3.1, e3.2]
    exact R
  · rw [k] at H
    unfold uM uE at H
    rw [k, if_pos rfl, if_pos rfl] at H
    exact rhalf_fine (w := W) hz (by decide) (by omega) (by omega) (by omega) H
  · omega
  · omega
/-- Half of an infinity: the error. -/
theorem half_inf {s : Int} {g n f T : Nat} {L : Int} (hz : Fz s g n f T L) (W : World) : Calls Try.prog 20 #[.int .u64 (n : Int), .int .i64 s] W fun x w' => x = .returned (.tuple #[.slice none 0 0, .slice none 0 0, .int .i64 1]) ∧ Below W.heap.size W w' := by
  obtain ⟨_, ng', hg, g0⟩ := fz_parts hz
  have e1 : mg g n = n := Nat.mod_eq_of_lt (by omega)
  obtain ⟨x0, x1, x2, x3, H⟩ := rfin_inf hz (b := n) (by omega) (by rw [e1]; omega)
  exact rhalf_err (by decide) H
theorem of_nat {w : World} {v : Value} {X : Nat} (h : NatV w v X) : (∃ ao n c, v = .slice ao n c) ∧ Fits 256 X ∧ Calls Try.prog 22 #[v] w fun e w' => ∃ v', e = .returned v' ∧ Big.NatV w' v' X ∧ Below w.heap.size w w' := by
  obtain ⟨ao, n, c, b, o, f, rfl, S, t, rfl, l⟩ := h
  refine ⟨⟨_, _, _, rfl⟩, ?_, rof_any S (by omega)⟩
  exact (Fits.word (V_lt S.ws n)).up (by omega)
/-- A number against a place, by whole numbers alone. -/
theorem frc_cmp {n d N D m : Nat} {x : Int} (h : Frc N D m x) (D0 : 0 < D) : (vL n d 0 m x ↔ n * D < N * d) ∧ (vE n d 0 m x ↔ n * D = N * d) := by
  obtain ⟨h, _⟩ := h
  obtain ⟨K, k0, k1, e⟩ := h
  have p : 0 < 2 ^ (0 - K).toNat := Nat.two_pow_pos _
  have e' : N * 2 ^ (0 - K).toNat = D * ev K m x := e
  have key : ∀ R : Nat → Nat → Prop, (∀ a b c, 0 < c → (R (a * c) (b * c) ↔ R a b)) → (R (n * 2 ^ (0 - K).toNat) (d * ev K m x) ↔ R (n * D) (N * d)) := by
    intro R hR
    rw [← hR (n * 2 ^ (0 - K).toNat) (d * ev K m x) D D0, ← hR (n * D) (N * d) _ p]
    have a : n * 2 ^ (0 - K).toNat * D = n * D * 2 ^ (0 - K).toNat := Nat.mul_right_comm _ _ _
    have b : d * ev K m x * D = N * d * 2 ^ (0 - K).toNat := by
      rw [Nat.mul_assoc, Nat.mul_comm (ev K m x) D, ← e', Nat.mul_comm N d, Nat.mul_assoc]
    rw [a, b]
  refine ⟨⟨fun q => ?_, fun q => ?_⟩, ⟨fun q => ?_, fun q => ?_⟩⟩
  · exact (key (· < ·) fun a b c c0 => Nat.mul_lt_mul_right c0).mp (q.at K k0 k1)
  · exact ⟨K, k0, k1, (key (· < ·) fun a b c c0 => Nat.mul_lt_mul_right c0).mpr q⟩
  · exact (key (· = ·) fun a b c c0 => Nat.mul_left_inj (by omega)).mp (q.at K k0 k1)
  · exact ⟨K, k0, k1, (key (· = ·) fun a b c c0 => Nat.mul_left_inj (by omega)).mpr q⟩
/-- Not beyond the half way place behind it; there, only if it is even. -/
theorem up_ord {f : Nat} {L : Int} {n d N D b : Nat} (h : Frc N D (hM f b) (hX f L b)) (u : Up f L n d 0 false b) : ord (n * D) (N * d) = -1 ∨ (ord (n * D) (N * d) = 0 ∧ b % 2 = 0) := by
  obtain ⟨c1, c2⟩ := frc_cmp (n := n) (d := d) h h.pos
  rcases u with u | ⟨u, e, _⟩
  · exact .inl (ord_lt (c1.mp u))
  · exact .inr ⟨ord_eq (c2.mp u), e⟩
/-- Beyond the half way place ahead of it; there, only if it is even. -/
theorem dn_ord {f : Nat} {L : Int} {n d N D b : Nat} (h : Frc N D (hM f (b - 1)) (hX f L (b - 1))) (u : ¬ Up f L n d 0 false (b - 1)) : ord (n * D) (N * d) = 1 ∨ (ord (n * D) (N * d) = 0 ∧ b % 2 = 0) := by
  obtain ⟨c1, c2⟩ := frc_cmp (n := n) (d := d) h h.pos
  rcases Nat.lt_trichotomy (n * D) (N * d) with q | q | q
  · exact absurd (.inl (c1.mpr q)) u
  · refine .inr ⟨ord_eq q, ?_⟩
    apply Classical.byContradiction
    intro o
    exact u (.inr ⟨c2.mpr q, by omega, rfl⟩)
  · exact .inl (ord_gt q)
/-- The answer: what the number is rounded to, or an infinity. -/
theorem exA_rd {f T : Nat} (hf : 0 < f) {L : Int} {m : Nat} {e : Int} (m0 : m ≠ 0) : exA f T L m e = T * 2 ^ f ∨ (exA f T L m e < T * 2 ^ f ∧ RD f L (m * 10 ^ e.toNat) (10 ^ (-e).toNat) 0 false (exA f T L m e)) := by
  have r := rdN_RD hf (L := L) (e := 0) false (Nat.mul_ne_zero m0 (ten_ne e.toNat)) (ten_ne (-e).toNat)
  have a := rdA_of (T := T) hf (Nat.mul_ne_zero m0 (ten_ne e.toNat)) (ten_ne (-e).toNat) r
  unfold exA
  rw [a]
  split
  · rename_i q; exact .inr ⟨q, r⟩
  · exact .inl rfl
end Go.Proofs.Ytfgopmgmmpkbeaa
