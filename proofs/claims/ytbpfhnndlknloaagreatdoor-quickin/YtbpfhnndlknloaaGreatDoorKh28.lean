/-
  Holds: SoHc QkE.
-/
import Derived.Test.YtbpfhnndlknloaaGreatDoorRows
import Derived.Laws.Externs
import Derived.WalkKit
import Derived.WalkSpells
import Derived.WalkLawsBesides
import Derived.Lib.Mul64
import Derived.Stop.Asserts
import Derived.RowKitTokens
import Derived.Lib.Strings
import Derived.Lib.BufferWrite
import Derived.Deep.OwnRows
import Derived.Deep.RegionHeld3
import Derived.BigQuiet
import Derived.Lib.ConvBytes
import Derived.Laws.CopyOwn
import Derived.Lib.TrailingZeros
import Derived.Lib.ItoaNum
import Derived.Deep.LoopGhost
import Derived.Deep.AppendLies
import Derived.Deep.DeepCutAuto
import Derived.Test.YtbpfhnndlknloaaGreatDoorKh27
set_option maxRecDepth 100000
set_option maxHeartbeats 4000000
namespace Go.Proofs.YtbpfhnndlknloaaGreatDoor
open Go.RowKit
def firstF (f : Nat → Option Dp) : Nat → Nat → Option Dp
  | _, 0 => none
  | n, k + 1 => match f n with
    | some d => some d
    | none => firstF f (n + 1) k
theorem Fl.first21 {z : Int} {f T : Nat} {L : Int} {S I b : Nat} {u : ByteArray} {o : Int} {s : ByteArray} {p : Int} {t : ByteArray} {q : Int} {A : Nat} {d1 d2 : Nat → Dp} (h : Fl z f T L S I b u o s p t q A d1 d2) (c : Bool) : ∃ N d, firstF (fD c s p t q u d1 d2) 1 17 = some d ∧ 1 ≤ N ∧ N ≤ (if z = 32 then 9 else 17) ∧ fD c s p t q u d1 d2 N = some d ∧ ∀ m, 1 ≤ m → m < N → fD c s p t q u d1 d2 m = none := by
  obtain ⟨M, hM, M1, dM, eM⟩ : ∃ M : Nat, M = (if z = 32 then 9 else 17) ∧ M ≤ 17 ∧ ∃ d, fD c s p t q u d1 d2 M = some d := by
    rcases h.fn.sf with ⟨rfl, rfl, rfl, rfl, rfl, rfl⟩ | ⟨rfl, rfl, rfl, rfl, rfl, rfl⟩
    · obtain ⟨d, e⟩ := h.there c (N := 9) (by decide) (by decide) (by decide)
      exact ⟨9, rfl, by decide, d, e⟩
    · obtain ⟨d, e⟩ := h.there c (N := 17) (by decide) (by decide) (by decide)
      exact ⟨17, rfl, by decide, d, e⟩
  have key : ∀ k n, n ≤ M → M < n + k → (∀ m, 1 ≤ m → m < n → fD c s p t q u d1 d2 m = none) → 1 ≤ n → ∃ N d, firstF (fD c s p t q u d1 d2) n k = some d ∧ 1 ≤ N ∧ N ≤ M ∧ fD c s p t q u d1 d2 N = some d ∧ ∀ m, 1 ≤ m → m < N → fD c s p t q u d1 d2 m = none := by
    intro k
    induction k with
    | zero => intro n a b _ _; omega
    | succ k ih =>
      intro n a b hn n1
      unfold firstF
      cases e : fD c s p t q u d1 d2 n with
      | some d => exact ⟨n, d, rfl, n1, a, e, hn⟩
      | none =>
        have nM : n ≠ M := by
          rintro rfl
          rw [e] at eM
          cases eM
        exact ih (n + 1) (by omega) (by omega) (fun m m1 m2 => by
          rcases Nat.lt_or_ge m n with q | q
          · exact hn m m1 q
          · rw [show m = n by omega]; exact e) (by omega)
  obtain ⟨N, d, k1, k2, k3, k4, k5⟩ := key 17 1 (by rw [hM]; split <;> omega) (by omega) (fun m a b => by omega) (Nat.le_refl 1)
  exact ⟨N, d, k1, k2, by rw [← hM]; exact k3, k4, k5⟩
def smOk (f : Nat) (L : Int) (m A : Nat) : Bool := decide (10 ^ (A - 1) ≤ vlF f L m) && decide (vlF f L m < 10 ^ A) && (decide (hiF f L m < 10 ^ A) || (decide (pickU true (loF f L m) (hiF f L m) (vlF f L m) (10 ^ (A - 1)) = some (10 ^ A)) && decide (pickU false (loF f L m) (hiF f L m) (vlF f L m) (10 ^ (A - 1)) = some (10 ^ A))))
theorem sm23 : [(1, 1056), (2, 1056), (3, 1056), (4, 1056), (5, 1056), (6, 1056), (7, 1056), (8, 1057), (9, 1057)].all (fun x => smOk 23 (-149) x.1 x.2) = true := by decide +kernel
theorem sm52 : [(1, 777), (2, 777), (3, 778), (4, 778), (5, 778), (6, 778), (7, 778), (8, 778), (9, 778)].all (fun x => smOk 52 (-1074) x.1 x.2) = true := by decide +kernel
theorem place_eq {X A B : Nat} (A0 : 0 < A) (B0 : 0 < B) (a1 : 10 ^ (A - 1) ≤ X) (a2 : X < 10 ^ A) (b1 : 10 ^ (B - 1) ≤ X) (b2 : X < 10 ^ B) : A = B := by
 have x1 := (Nat.pow_lt_pow_iff_right (a := 10) (by decide)).1 (Nat.lt_of_le_of_lt a1 b2)
 have x2 := (Nat.pow_lt_pow_iff_right (a := 10) (by decide)).1 (Nat.lt_of_le_of_lt b1 a2)
 omega
theorem sm_use {f : Nat} {L : Int} {m B A : Nat} (B0 : 0 < B) (A0 : 0 < A) (h : smOk f L m B = true) (c : Bool) (a1 : 10 ^ (A - 1) ≤ vlF f L m) (a2 : vlF f L m < 10 ^ A) (hh : 10 ^ A ≤ hiF f L m) :
 pickU c (loF f L m) (hiF f L m) (vlF f L m) (10 ^ (A - 1)) = some (10 ^ A) := by
 unfold smOk at h
 simp only [Bool.and_eq_true, Bool.or_eq_true, decide_eq_true_eq] at h
 obtain ⟨⟨h1, h2⟩, h3⟩ := h
 obtain rfl := place_eq A0 B0 a1 a2 h1 h2
 rcases h3 with h3 | ⟨h3, h4⟩
 · omega
 · cases c
   · exact h4
   · exact h3
theorem sm_pick {f T : Nat} {L : Int} (fs : Fs f T L) {m A : Nat} (m0 : m ≠ 0) (m10 : m < 10) (A0 : 0 < A) (c : Bool) (a1 : 10 ^ (A - 1) ≤ vlF f L m) (a2 : vlF f L m < 10 ^ A) (hh : 10 ^ A ≤ hiF f L m) :
 pickU c (loF f L m) (hiF f L m) (vlF f L m) (10 ^ (A - 1)) = some (10 ^ A) := by
 rcases fs with ⟨rfl, rfl, rfl⟩ | ⟨rfl, rfl, rfl⟩
 · have k := List.all_eq_true.1 sm23
   rcases (by omega : m = 1 ∨ m = 2 ∨ m = 3 ∨ m = 4 ∨ m = 5 ∨ m = 6 ∨ m = 7 ∨ m = 8 ∨ m = 9) with rfl | rfl | rfl | rfl | rfl | rfl | rfl | rfl | rfl
   · exact sm_use (by decide) A0 (k (1, 1056) (by simp)) c a1 a2 hh
   · exact sm_use (by decide) A0 (k (2, 1056) (by simp)) c a1 a2 hh
   · exact sm_use (by decide) A0 (k (3, 1056) (by simp)) c a1 a2 hh
   · exact sm_use (by decide) A0 (k (4, 1056) (by simp)) c a1 a2 hh
   · exact sm_use (by decide) A0 (k (5, 1056) (by simp)) c a1 a2 hh
   · exact sm_use (by decide) A0 (k (6, 1056) (by simp)) c a1 a2 hh
   · exact sm_use (by decide) A0 (k (7, 1056) (by simp)) c a1 a2 hh
   · exact sm_use (by decide) A0 (k (8, 1057) (by simp)) c a1 a2 hh
   · exact sm_use (by decide) A0 (k (9, 1057) (by simp)) c a1 a2 hh
 · have k := List.all_eq_true.1 sm52
   rcases (by omega : m = 1 ∨ m = 2 ∨ m = 3 ∨ m = 4 ∨ m = 5 ∨ m = 6 ∨ m = 7 ∨ m = 8 ∨ m = 9) with rfl | rfl | rfl | rfl | rfl | rfl | rfl | rfl | rfl
   · exact sm_use (by decide) A0 (k (1, 777) (by simp)) c a1 a2 hh
   · exact sm_use (by decide) A0 (k (2, 777) (by simp)) c a1 a2 hh
   · exact sm_use (by decide) A0 (k (3, 778) (by simp)) c a1 a2 hh
   · exact sm_use (by decide) A0 (k (4, 778) (by simp)) c a1 a2 hh
   · exact sm_use (by decide) A0 (k (5, 778) (by simp)) c a1 a2 hh
   · exact sm_use (by decide) A0 (k (6, 778) (by simp)) c a1 a2 hh
   · exact sm_use (by decide) A0 (k (7, 778) (by simp)) c a1 a2 hh
   · exact sm_use (by decide) A0 (k (8, 778) (by simp)) c a1 a2 hh
   · exact sm_use (by decide) A0 (k (9, 778) (by simp)) c a1 a2 hh
theorem big_pick {c : Bool} {lo X hi S : Nat} (S0 : 0 < S) (s2 : X < 10 * S) (hz : hitB c lo hi (10 * S) = true) (near : 20 * hi ≤ 21 * X) : pickU c lo hi X S = some (10 * S) := by
 have up : 10 * S ≤ hi := by
  rw [hitB_iff] at hz
  rcases hz with ⟨_, _, q⟩ | ⟨_, _, q⟩ <;> omega
 have dv : X / S = 9 := Nat.div_eq_of_lt_le (by omega) (by omega)
 have dm := Nat.div_add_mod X S
 rw [dv] at dm
 have r : rnB X S = true := by
  unfold rnB
  exact decide_eq_true (Or.inl (by omega))
 have ue : upU X S = 10 * S := by
  rw [up_is S0 (by omega)]
  unfold dnU
  rw [dv]
  omega
 unfold pickU rnU
 rw [r, if_pos rfl, ue, if_pos hz]
theorem top_pick {c : Bool} {lo X hi S : Nat} (s2 : X < S) (x0 : 0 < X) (hz : hitB c lo hi S = true) (near : S < 2 * X) : pickU c lo hi X S = some S := by
 have dv : X / S = 0 := Nat.div_eq_of_lt s2
 have dm : X % S = X := Nat.mod_eq_of_lt s2
 have r : rnB X S = true := by
  unfold rnB
  rw [dm]
  exact decide_eq_true (Or.inl near)
 have ue : upU X S = S := by
  rw [up_is (by omega) (by omega)]
  unfold dnU
  rw [dv]
  omega
 unfold pickU rnU
 rw [r, if_pos rfl, ue, if_pos hz]
theorem lo_pos {f : Nat} {L : Int} {m : Nat} (h0 : m ≠ 0) : 0 < loF f L m := by
 obtain ⟨k, rfl⟩ : ∃ k, m = k + 1 := ⟨m - 1, by omega⟩
 exact fv_pos (by omega)
theorem mt_small {f m : Nat} (hf : 4 ≤ f) (h : mt f m < 10) : m < 10 := by
 have p : 2 ^ 4 ≤ 2 ^ f := Nat.pow_le_pow_right (by decide) hf
 unfold mt at h
 split at h
 · rename_i q
   have dm := Nat.div_add_mod m (2 ^ f)
   rw [q, Nat.mul_zero] at dm
   omega
 · omega
theorem Fl.quick {z : Int} {f T : Nat} {L : Int} {S I b : Nat} {u : ByteArray} {o : Int} {s : ByteArray} {p : Int} {t : ByteArray} {q : Int} {A : Nat} {d1 d2 : Nat → Dp} (h : Fl z f T L S I b u o s p t q A d1 d2) (c : Bool) {j : Nat}
    (hk : anyB c (loF f L (mg S b)) (hiF f L (mg S b)) (vlF f L (mg S b)) (10 ^ j) = true) (hn : anyB c (loF f L (mg S b)) (hiF f L (mg S b)) (vlF f L (mg S b)) (10 ^ (j + 1)) = false) :
    ∃ N d Z, firstF (fD c s p t q u d1 d2) 1 17 = some d ∧ 1 ≤ N ∧ N ≤ (if z = 32 then 9 else 17) ∧ fD c s p t q u d1 d2 N = some d ∧ (∀ m, 1 ≤ m → m < N → fD c s p t q u d1 d2 m = none) ∧
      pickU c (loF f L (mg S b)) (hiF f L (mg S b)) (vlF f L (mg S b)) (10 ^ j) = some Z ∧ Dx d.1 d.2 Z := by
  obtain ⟨N, d, f1, n0, n1, f2, f3⟩ := h.first21 c
  have n17 : N ≤ 17 := by
    split at n1 <;> omega
  obtain ⟨_, low, high⟩ := h.g.some h.pos
  rw [h.hA, show ((A : Int) - 1).toNat = A - 1 by omega] at low
  rw [h.hA, show ((A : Int)).toNat = A by omega] at high
  have fs := h.fn.sf.fs.1
  have r := h.rm
  have A0 : 0 < A := by
    apply Nat.pos_of_ne_zero
    intro e
    rw [e] at high low
    have := vl_pos (f := f) L h.m0
    simp at high
    omega
  rcases Nat.lt_or_ge j A with q1 | q1
  · have hN : N = A - j := by
      apply Nat.le_antisymm
      · apply Nat.le_of_not_lt
        intro e
        have x := f3 (A - j) (by omega) e
        rw [h.none_iff c (by omega) (by omega), show A - (A - j) = j by omega, hk] at x
        cases x
      · apply Nat.le_of_not_lt
        intro e
        cases x : anyB c (loF f L (mg S b)) (hiF f L (mg S b)) (vlF f L (mg S b)) (10 ^ (A - N)) with
        | false =>
          rw [(h.none_iff c n0 n17).2 x] at f2
          cases f2
        | true =>
          rw [any_mono r (ten_pos (j + 1)) (Nat.pow_dvd_pow 10 (by omega)) x] at hn
          cases hn
    rcases h.pick c n0 n17 with ⟨x, _⟩ | ⟨d', Z, e1, e2, e3, _⟩
    · rw [f2] at x; cases x
    · rw [f2] at e1
      cases e1
      rw [hN, show A - (A - j) = j by omega] at e2
      exact ⟨N, d, Z, f1, n0, n1, f2, f3, e2, e3⟩
  · obtain ⟨Z, z1, z2⟩ := any_ex hk
    have m0 := h.m0
    have lp := lo_pos (f := f) (L := L) m0
    have vg := vl_g fs h.fn.m
    have hg := hi_g fs h.fn.m
    have mp := mt_some (f := f) m0
    have g0 := gF_pos f L (mg S b)
    have ms := @mt_small f (mg S b) (by rcases fs with ⟨rfl, _⟩ | ⟨rfl, _⟩ <;> omega)
    have ni := h.none_iff c (n := 1) (by omega) (by omega)
    have pk := h.pick c (n := 1) (by omega) (by omega)
    have sp := fun (m10 : mg S b < 10) => sm_pick fs m0 m10 A0 c low high
    generalize hiF f L (mg S b) = hi at *
    generalize loF f L (mg S b) = lo at *
    generalize vlF f L (mg S b) = X at *
    generalize gF f L (mg S b) = g at *
    have two : 2 * g ≤ X := by
      rw [vg, Nat.mul_assoc]
      have := Nat.le_mul_of_pos_left g mp
      omega
    have zp : 0 < Z := by
      rw [hitB_iff] at z1
      rcases z1 with ⟨_, a, _⟩ | ⟨_, a, _⟩ <;> omega
    have zj : 10 ^ j ≤ Z := Nat.le_of_dvd zp (Nat.dvd_of_mod_eq_zero z2)
    have aj : 10 ^ A ≤ 10 ^ j := Nat.pow_le_pow_right (by decide) q1
    have hit := hit_up r z1 (Nat.le_of_lt high) (Nat.le_trans aj zj)
    have zh : Z ≤ hi := by
      rw [hitB_iff] at z1
      rcases z1 with ⟨_, _, a⟩ | ⟨_, _, a⟩ <;> omega
    have jA : j = A := by
      apply Nat.le_antisymm _ q1
      apply Nat.le_of_not_lt
      intro e
      have a1 : 10 ^ (A + 1) ≤ 10 ^ j := Nat.pow_le_pow_right (by decide) e
      rw [Nat.pow_succ] at a1
      omega
    subst jA
    have top := top_pick (c := c) (lo := lo) (hi := hi) high (by omega) hit (by omega)
    have ten : 10 ^ j = 10 * 10 ^ (j - 1) := by rw [← Nat.pow_succ']; congr 1; omega
    have nz := any_mono r (ten_pos (j - 1)) (Nat.pow_dvd_pow 10 (Nat.sub_le j 1)) hk
    have one : N = 1 := by
      apply Nat.le_antisymm _ n0
      apply Nat.le_of_not_lt
      intro e
      have x := f3 1 (Nat.le_refl 1) e
      rw [ni.1 x] at nz
      cases nz
    subst one
    have hh : 10 ^ j ≤ hi := by
      rw [hitB_iff] at hit
      rcases hit with ⟨_, _, a⟩ | ⟨_, _, a⟩ <;> omega
    have p1 : pickU c lo hi X (10 ^ (j - 1)) = some (10 ^ j) := by
      by_cases m10 : mt f (mg S b) < 10
      · exact sp (ms m10) hh
      · have e20 : 20 * g ≤ X := by
          rw [vg]
          exact Nat.mul_le_mul_right g (by omega)
        rw [ten] at hit high ⊢
        exact big_pick (ten_pos _) high hit (by omega)
    rcases pk with ⟨x, _⟩ | ⟨d', Z', e1, e2, e3, _⟩
    · rw [f2] at x; cases x
    · rw [f2] at e1
      cases e1
      rw [p1] at e2
      cases e2
      exact ⟨1, d, _, f1, n0, n1, f2, f3, top, e3⟩
end Go.Proofs.YtbpfhnndlknloaaGreatDoor
