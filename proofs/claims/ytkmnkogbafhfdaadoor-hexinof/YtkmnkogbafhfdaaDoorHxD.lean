/-
  What the document's at, Round and Of of layer 17 answer.
-/
import Derived.Test.YtkmnkogbafhfdaaDoorHxN
import Derived.Test.YtkmnkogbafhfdaaDoorHxB
namespace Go.Proofs.YtkmnkogbafhfdaaDoor
open Go.RowKit

theorem NrO.le {f T : Nat} {L : Int} {n d : Nat} {e t : Int} {x : Nat} {ov : Bool} (h : NrO f T L n d e t x ov) : x ≤ T * 2 ^ f := by
  obtain ⟨⟨b, _, rfl⟩, _⟩ := h
  unfold rdE
  split <;> omega
theorem fits_one : Fits 1 1 := two_fits (s := 0) (k := 1) (by omega)
theorem fits_word17 {m : Nat} (h : m < 18446744073709551616) : Fits 2 m := Fits.word (n := 1) (by unfold B; omega)

set_option maxRecDepth 100000 in
set_option maxHeartbeats 4000000 in
theorem at_ok {s : Int} {g n f T : Nat} {L : Int} (hz : Fz s g n f T L) {X : Nat} (hX : Fits 3 X) (e : Int) {t : Int} (ht : t = -1 ∨ t = 0 ∨ t = 1) {v : Value} {w : World} (hv : Big.D.NatV w v X) :
    Calls Tryd.prog 19 #[v, .int .i64 e, .int .i64 s, .int .i64 t] w fun r w' => ∃ (x : Nat) (ov : Bool), r = .returned (.tuple #[.int .u64 (x : Int), .bool ov]) ∧ NrO f T L X 1 (clK 3000 e) t x ov ∧ Below w.heap.size w w' := by
  obtain ⟨e', he⟩ : ∃ e', e' = clK 3000 e := ⟨_, rfl⟩
  rw [← he]
  have HE : Hid (e' = clK 3000 e) := he
  have b1 : -3000 ≤ e' := by rw [he]; unfold clK; omega
  have b2 : e' ≤ 3000 := by rw [he]; unfold clK; omega
  obtain ⟨p, hp⟩ : ∃ p : Nat, (p : Int) = max e' 0 := ⟨(max e' 0).toNat, by omega⟩
  obtain ⟨q, hq⟩ : ∃ q : Nat, (q : Int) = max (-e') 0 := ⟨(max (-e') 0).toNat, by omega⟩
  have S1 := dshl_new hv (hX.up (by omega)) p (by omega)
  have F1 : Fits 100 (X * 2 ^ p) := (fits_shl15 (k := 94) hX (by omega)).up (by omega)
  have F2 : Fits 100 (1 * 2 ^ q) := (fits_shl15 (k := 94) fits_one (by omega)).up (by omega)
  have d0 : 1 * 2 ^ q ≠ 0 := Nat.ne_of_gt (Nat.mul_pos Nat.one_pos (Nat.two_pow_pos q))
  have HZ : Hid (Fz s g n f T L) := hz
  have FIN : Hid (∀ x ov, NrO f T L (X * 2 ^ p) (1 * 2 ^ q) 0 t x ov → NrO f T L X 1 e' t x ov) := fun x ov h => NrO_two hp hq h
  have HQ : Hid (q ≤ 32000) := (show q ≤ 32000 by omega)
  have HF : Hid (Fits 100 (X * 2 ^ p) ∧ Fits 100 (1 * 2 ^ q) ∧ 1 * 2 ^ q ≠ 0) := ⟨F1, F2, d0⟩
  have HPQ : Hid ((p : Int) = max e' 0 ∧ (q : Int) = max (-e') 0) := ⟨hp, hq⟩
  clear hz F1 F2 d0 hX hv he hp hq
  generalize X * 2 ^ p = Y at *
  go_enter Tryd.func19, Tryd.ntmps19
  go_upto_region 1 with fail
  go_cut [1] (fun ev wx => wx = w ∧ ev = .int .i64 e')
  case first =>
    go_wp2
    all_goals go_meet
    all_goals exact ⟨rfl, congrArg (Value.int .i64) (by have := HE.out; unfold clK at this; omega)⟩
  case rest =>
  obtain ⟨hcw, rfl⟩ := hcut
  have hcw2 := hcw.symm
  subst hcw2
  clear HE
  rcases Int.lt_or_le e' 0 with c | c
  · have hp0 : p = 0 := by have := HPQ.out; omega
    have hq0 : -e' = (q : Int) := by have := HPQ.out; omega
    subst hp0
    rw [show ((0 : Nat) : Int) = 0 from rfl] at S1
    have HQ0 : Hid (-e' = (q : Int)) := hq0
    have c2 : ¬ -e' < 0 := by omega
    clear HPQ hq0
    go_wp2_with fail
    refine S1.mono ?_
    rintro r w1 ⟨v1, rfl, n1, hb1⟩
    have B1 : Hid (Below w.heap.size w w1) := hb1
    have B2 : Hid (Below w.heap.size w (w1.alloc (.cells #[.int .u64 1] 24))) := hb1.alloc hb1.size _
    have N1 : Hid (Big.D.NatV (w1.alloc (.cells #[.int .u64 1] 24)) v1 Y) := n1.nat.below ((Below.refl _ _).alloc (Nat.le_refl _) _)
    have S2 := dshl_new (dnat_one w1) (fits_one.up (by omega)) q HQ.out
    rw [← HQ0.out] at S2
    clear S1 n1 hb1
    go_wp2_with fail
    refine S2.mono ?_
    rintro r w3 ⟨v3, rfl, n3, hb3⟩
    have B3 : Hid (Below w.heap.size w w3) := B2.out.trans (hb3.mono B2.out.size)
    have NE := near13 HZ.out (N1.out.below hb3) n3.nat HF.out.2.2 HF.out.1 HF.out.2.1 ht
    clear S2 n3 hb3
    go_wp2_with fail
    refine NE.mono ?_
    rintro r w4 ⟨x, ov, rfl, nr, hb4⟩
    have B4 : Hid (Below w.heap.size w w4) := B3.out.trans (hb4.mono B3.out.size)
    have NR : Hid (NrO f T L X 1 e' t x ov) := FIN.out x ov nr
    clear nr hb4 NE
    go_wp2
    go_ret2
    exact ⟨x, ov, rfl, NR.out, B4.out⟩
  · have hp0 : e' = (p : Int) := by have := HPQ.out; omega
    have hq0 : q = 0 := by have := HPQ.out; omega
    subst hp0 hq0
    clear HPQ
    rcases Nat.eq_zero_or_pos p with z | z
    · subst z
      rw [show ((0 : Nat) : Int) = 0 from rfl] at S1
      go_wp2_with fail
      refine S1.mono ?_
      rintro r w1 ⟨v1, rfl, n1, hb1⟩
      have B1 : Hid (Below w.heap.size w w1) := hb1
      have B2 : Hid (Below w.heap.size w (w1.alloc (.cells #[.int .u64 1] 24))) := hb1.alloc hb1.size _
      have N1 : Hid (Big.D.NatV (w1.alloc (.cells #[.int .u64 1] 24)) v1 Y) := n1.nat.below ((Below.refl _ _).alloc (Nat.le_refl _) _)
      have S2 := dshl_new (dnat_one w1) (fits_one.up (by omega)) 0 (by omega)
      rw [show ((0 : Nat) : Int) = 0 from rfl] at S2
      clear S1 n1 hb1
      go_wp2_with fail
      refine S2.mono ?_
      rintro r w3 ⟨v3, rfl, n3, hb3⟩
      have B3 : Hid (Below w.heap.size w w3) := B2.out.trans (hb3.mono B2.out.size)
      have NE := near13 HZ.out (N1.out.below hb3) n3.nat HF.out.2.2 HF.out.1 HF.out.2.1 ht
      clear S2 n3 hb3
      go_wp2_with fail
      refine NE.mono ?_
      rintro r w4 ⟨x, ov, rfl, nr, hb4⟩
      have B4 : Hid (Below w.heap.size w w4) := B3.out.trans (hb4.mono B3.out.size)
      have NR : Hid (NrO f T L X 1 ((0 : Nat) : Int) t x ov) := FIN.out x ov nr
      clear nr hb4 NE
      go_wp2
      go_ret2
      exact ⟨x, ov, rfl, NR.out, B4.out⟩
    · have c2 : -(p : Int) < 0 := by omega
      go_wp2_with fail
      refine S1.mono ?_
      rintro r w1 ⟨v1, rfl, n1, hb1⟩
      have B1 : Hid (Below w.heap.size w w1) := hb1
      have B2 : Hid (Below w.heap.size w (w1.alloc (.cells #[.int .u64 1] 24))) := hb1.alloc hb1.size _
      have N1 : Hid (Big.D.NatV (w1.alloc (.cells #[.int .u64 1] 24)) v1 Y) := n1.nat.below ((Below.refl _ _).alloc (Nat.le_refl _) _)
      have S2 := dshl_new (dnat_one w1) (fits_one.up (by omega)) 0 (by omega)
      rw [show ((0 : Nat) : Int) = 0 from rfl] at S2
      clear S1 n1 hb1
      go_wp2_with fail
      refine S2.mono ?_
      rintro r w3 ⟨v3, rfl, n3, hb3⟩
      have B3 : Hid (Below w.heap.size w w3) := B2.out.trans (hb3.mono B2.out.size)
      have NE := near13 HZ.out (N1.out.below hb3) n3.nat HF.out.2.2 HF.out.1 HF.out.2.1 ht
      clear S2 n3 hb3
      go_wp2_with fail
      refine NE.mono ?_
      rintro r w4 ⟨x, ov, rfl, nr, hb4⟩
      have B4 : Hid (Below w.heap.size w w4) := B3.out.trans (hb4.mono B3.out.size)
      have NR : Hid (NrO f T L X 1 (p : Int) t x ov) := FIN.out x ov nr
      clear nr hb4 NE
      go_wp2
      go_ret2
      exact ⟨x, ov, rfl, NR.out, B4.out⟩
end Go.Proofs.YtkmnkogbafhfdaaDoor
