/-
  A slice of links in memory; laid: a number in a row of wraps.
-/
import Derived.Test.YtelobjhmbabiaaaDoorFtI
namespace Go.Proofs.YtelobjhmbabiaaaDoor
open Go.RowKit

/-- A slice of links in memory. -/
structure SlL (w : World) (ao : Option Addr) (m c : Nat) (b o : Nat) (p : Nat → Bool) (cl tx : Nat → ByteArray) (ln : Nat → Int) : Prop where
  le : m ≤ c
  cap : c ≤ maxLen
  addr : 0 < m → ao = some ⟨b, o, none⟩
  blk : 0 < m → b < w.heap.size
  cp : ∀ i, i < m → w.cell? ⟨b, o + i * 4, none⟩ = some (.bool (p i))
  cc : ∀ i, i < m → w.cell? ⟨b, o + i * 4 + 1, none⟩ = some (.string (cl i))
  ct : ∀ i, i < m → w.cell? ⟨b, o + i * 4 + 2, none⟩ = some (.string (tx i))
  cn : ∀ i, i < m → w.cell? ⟨b, o + i * 4 + 3, none⟩ = some (.int .i64 (ln i))
  lo : ∀ i, i < m → -9223372036854775808 ≤ ln i ∧ ln i ≤ 9223372036854775807
  sz : ∀ i, i < m → (cl i).size ≤ 281474976710656 ∧ (tx i).size ≤ 281474976710656
theorem SlL.step {w w' : World} {ao : Option Addr} {m c b o : Nat} {p : Nat → Bool} {cl tx : Nat → ByteArray} {ln : Nat → Int} (h : SlL w ao m c b o p cl tx ln) (hb : Below w.heap.size w w') : SlL w' ao m c b o p cl tx ln :=
  have k : ∀ i j, i < m → w'.cell? ⟨b, j, none⟩ = w.cell? ⟨b, j, none⟩ := fun i j hi => hb.cell (p := ⟨b, j, none⟩) (h.blk (by omega))
  ⟨h.le, h.cap, h.addr, fun q => Nat.lt_of_lt_of_le (h.blk q) hb.size, fun i hi => (k i _ hi).trans (h.cp i hi), fun i hi => (k i _ hi).trans (h.cc i hi), fun i hi => (k i _ hi).trans (h.ct i hi), fun i hi => (k i _ hi).trans (h.cn i hi), h.lo, h.sz⟩
/-- The link at a place. -/
def lkAt (p : Nat → Bool) (cl tx : Nat → ByteArray) (ln : Nat → Int) (i : Nat) : Lk := if p i then .inr (ln i) else .inl ((cl i), (tx i))
/-- The row of so many links, the last one first. -/
def rowL (p : Nat → Bool) (cl tx : Nat → ByteArray) (ln : Nat → Int) : Nat → List Lk
  | 0 => []
  | k + 1 => lkAt p cl tx ln k :: rowL p cl tx ln k

set_option maxRecDepth 100000 in
set_option maxHeartbeats 4000000 in
theorem laid_ch {w : World} {ao : Option Addr} {m c b o : Nat} {p : Nat → Bool} {cl tx : Nat → ByteArray} {ln : Nat → Int} (S : SlL w ao m c b o p cl tx ln) (n : Int) :
    Calls Tryd.prog 18 #[.int .i64 n, .slice ao m c] w fun e w' => ∃ v, e = .returned v ∧ Ch w' (rowL p cl tx ln (min m 60)) n v ∧ Below w.heap.size w w' := by
  have HS : Hid (SlL w ao m c b o p cl tx ln) := S
  have hm1 : m ≤ 9223372036854775807 := by have a := S.le; have b := S.cap; unfold maxLen at b; omega
  clear S
  go_enter Tryd.func18, Tryd.ntmps18
  go_wp2
  go_loopw [5, 6] (fun e i wr => ∃ k : Nat, i = .int .i64 (k : Int) ∧ k ≤ min m 60 ∧ Hid (Ch wr (rowL p cl tx ln k) n e ∧ Below w.heap.size w wr)) (fun _ i _ => 60 - (intOf i).toNat)
  case atStart => exact ⟨0, rfl, by omega, ⟨rfl, Below.refl _ _⟩⟩
  case round =>
    obtain ⟨k, rfl, hk, HI⟩ := hrel
    by_cases c1 : k < min m 60
    · have hkm : k < m := by omega
      obtain rfl := HS.out.addr (by omega)
      have S2 := HS.out.step HI.out.2
      have x0 := S2.cp k hkm
      have x1 := S2.cc k hkm
      have x2 := S2.ct k hkm
      have x3 := S2.cn k hkm
      have HZ : Hid ((cl k).size ≤ 281474976710656 ∧ (tx k).size ≤ 281474976710656) := HS.out.sz k hkm
      have HBl : Hid (b < wr.heap.size) := S2.blk (by omega)
      have i0 : (0 : Int) ≤ (k : Int) := by omega
      have i1 : (k : Int) < (m : Int) := by omega
      have i2 : (k : Int) < 60 := by omega
      have HR : Hid (rowL p cl tx ln (k + 1) = lkAt p cl tx ln k :: rowL p cl tx ln k) := rfl
      obtain ⟨TT, yy, hE⟩ := HI.out.1.iface
      subst hE
      clear S2
      cases hp : p k with
      | true =>
        rw [hp] at x0
        have HK : Hid (lkAt p cl tx ln k = .inr (ln k)) := by show _ = _; unfold lkAt; rw [hp]; rfl
        have LC := line_ch (l := ln k) HI.out.1
        obtain ⟨l, hl⟩ : ∃ l, ln k = l := ⟨_, rfl⟩
        rw [hl] at x3 HK LC
        clear hl hp x1 x2
        go_wp2_with fail
        refine LC.mono ?_
        rintro e w3 ⟨v3, rfl, h3, b3⟩
        have HI3 : Hid (Ch w3 (rowL p cl tx ln (k + 1)) n v3 ∧ Below w.heap.size w w3) := ⟨by rw [HR.out, HK.out]; exact h3, HI.out.2.trans (b3.mono HI.out.2.size)⟩
        clear h3 b3
        go_wp2
        go_roundw
        case rel => exact ⟨k + 1, by go_num, by omega, HI3.out⟩
        case measure => simp [intOf]; omega
      | false =>
        rw [hp] at x0
        have HK : Hid (lkAt p cl tx ln k = .inl ((cl k), (tx k))) := by show _ = _; unfold lkAt; rw [hp]; rfl
        have WC := fun W (h : Ch W (rowL p cl tx ln k) n (.iface TT yy)) => wrap_ch HZ.out.1 HZ.out.2 h
        obtain ⟨ck, hck⟩ : ∃ l, cl k = l := ⟨_, rfl⟩
        obtain ⟨tk, htk⟩ : ∃ l, tx k = l := ⟨_, rfl⟩
        rw [hck, htk] at WC HK
        rw [hck] at x1
        rw [htk] at x2
        clear hck htk hp x3
        go_wp2_with fail
        go_region_held3 (fun w' => w'.cell? ⟨b, o + k * 4 + 1, none⟩ = some (.string ck) ∧ w'.cell? ⟨b, o + k * 4 + 2, none⟩ = some (.string tk)) (simp [*, go_sem])
          (first | (go_at_call 27; refine (WC _ (HI.out.1.below (Below.refl _ _).drew (Nat.le_refl _))).mono ?_; rintro e w3 ⟨v3, rfl, h3, b3⟩; have HI3 : Hid (Ch w3 (rowL p cl tx ln (k + 1)) n v3 ∧ Below w.heap.size w w3) := (show Ch w3 (rowL p cl tx ln (k + 1)) n v3 ∧ Below w.heap.size w w3 from ⟨by rw [HR.out, HK.out]; exact h3, (HI.out.2.drew).trans (b3.mono HI.out.2.drew.size)⟩); have y1 : w3.cell? ⟨b, o + k * 4 + 1, none⟩ = some (.string ck) := (b3.cell (p := ⟨b, o + k * 4 + 1, none⟩) HBl.out).trans x1; have y2 : w3.cell? ⟨b, o + k * 4 + 2, none⟩ = some (.string tk) := (b3.cell (p := ⟨b, o + k * 4 + 2, none⟩) HBl.out).trans x2; clear h3 b3))
        all_goals
          go_wp2
          go_roundw
          case rel => exact ⟨k + 1, by go_num, by omega, HI3.out⟩
          case measure => simp [intOf]; omega
    · obtain rfl : k = min m 60 := by omega
      by_cases c2 : min m 60 < m
      · have e1 : min m 60 = 60 := by omega
        rw [e1] at HI ⊢
        have i1 : (60 : Int) < (m : Int) := by omega
        clear c1 hk
        go_wp2
        go_ret
        exact ⟨_, rfl, by rw [e1]; exact HI.out.1, HI.out.2⟩
      · have e1 : min m 60 = m := by omega
        rw [e1] at HI ⊢
        clear c1 hk
        go_wp2
        go_ret
        exact ⟨_, rfl, by rw [e1]; exact HI.out.1, HI.out.2⟩
end Go.Proofs.YtelobjhmbabiaaaDoor
