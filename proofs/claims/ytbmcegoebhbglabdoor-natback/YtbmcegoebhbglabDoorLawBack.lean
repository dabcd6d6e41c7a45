/-
  The statement NatBack: for every slice of words, base and distance the call of NatBack returns true, where math/bits' table lies as the program's text lays it.
-/
import Derived.Test.YtbmcegoebhbglabDoorNatBk
import Derived.Test.YtbmcegoebhbglabDoorLawDivides
namespace Go.Proofs.YtbmcegoebhbglabDoor
open Go.RowKit

theorem pow_room {b K X : Nat} (h1 : 2 ≤ b) (h : b ^ (K - 1) ≤ X) (hX : X < B ^ 128) : K ≤ 10000 := by
  obtain ⟨M, hM, hBM⟩ : ∃ M, M = 8192 ∧ B ^ 128 = 2 ^ M := ⟨64 * 128, rfl, twoB_pow 128⟩
  have q : 2 ^ (K - 1) < 2 ^ M := by
    rw [← hBM]
    exact Nat.lt_of_le_of_lt (Nat.le_trans (Nat.pow_le_pow_left h1 _) h) hX
  have := (Nat.pow_lt_pow_iff_right (a := 2) (by omega)).1 q
  omega
theorem two_room {X d : Nat} (hX : X < B ^ 100) (hd : d < 300) : 2 ^ d < B ^ 128 ∧ X * 2 ^ d < B ^ 128 := by
  have e5 : 2 ^ d < B ^ 5 := by
    obtain ⟨M, hM, hBM⟩ : ∃ M, M = 320 ∧ B ^ 5 = 2 ^ M := ⟨64 * 5, rfl, twoB_pow 5⟩
    rw [hBM]
    exact Nat.pow_lt_pow_right (by omega) (by omega)
  refine ⟨Nat.lt_of_lt_of_le e5 (Nat.pow_le_pow_right B_pos (by omega)), ?_⟩
  have := Nat.mul_lt_mul'' hX e5
  rw [← Nat.pow_add] at this
  exact Nat.lt_of_lt_of_le this (Nat.pow_le_pow_right B_pos (by omega))

theorem digits_back {w : World} {va : Value} {X : Nat} (ha : NatV w va X) (hX : X < B ^ 128) (b : Nat) (h1 : 2 ≤ b) (h2 : b ≤ 36) :
    Calls Tryd.prog 8 #[va, .int .i64 (b : Int)] w fun e w' => ∃ t : ByteArray, e = .returned (.tuple #[.string t, .nilIface]) ∧ t.size ≤ 10000 ∧ Below w.heap.size w w' ∧
      ∀ W : World, Calls Tryd.prog 11 #[.string ((⟨#[48, 48]⟩ : ByteArray) ++ t), .int .i64 (b : Int)] W fun e w' => ∃ v, e = .returned (.tuple #[v, .nilIface]) ∧ NatV w' v X ∧ Below W.heap.size W w' := by
  by_cases z : X = 0
  · subst z
    obtain ⟨ao, n, c, bb, o, f, rfl, S, t, hv, hn⟩ := ha
    have hn0 : n = 0 := by
      rcases Nat.eq_zero_or_pos n with q | q
      · exact q
      · have a := Top_ge t q
        have := Bp_pos (n - 1)
        omega
    subst hn0
    refine (digits_zero S b h1 h2).mono ?_
    rintro e w' ⟨rfl, hb⟩
    exact ⟨⟨#[48]⟩, rfl, by decide, hb, fun W => back_zero h1 h2⟩
  · refine (digits_any ha z b h1 h2).mono ?_
    rintro e w' ⟨K, rfl, k1, k2, k3, hb⟩
    have kk := pow_room h1 k2 hX
    exact ⟨_, rfl, by rw [rowText_size]; exact kk, hb, fun W => back_ok h1 h2 k1 kk k2 k3 hX⟩

theorem dist_any (N : Int) : ∃ d : Nat, d < 300 ∧ (wrap64 (N.tmod 300 + 300)).tmod 300 = (d : Int) := by
  have a := Int.lt_tmod_of_pos N (show (0 : Int) < 300 by omega)
  have b := Int.tmod_lt_of_pos N (show (0 : Int) < 300 by omega)
  rw [IntWalk.wrap64_in (N.tmod 300 + 300) ⟨by omega, by omega⟩]
  rw [Int.tmod_eq_emod_of_nonneg (by omega)]
  exact ⟨((N.tmod 300 + 300) % 300).toNat, by omega, by omega⟩

set_option maxRecDepth 100000 in
set_option maxHeartbeats 4000000 in
theorem law_back {w : World} (hT : Tab w) {ao : Option Addr} {n ca ba oa : Nat} {f : Nat → Nat} (S : Sl w ao n ca ba oa f) (bs N : Int) :
    Calls Tryd.prog 6 #[.slice ao n ca, .int .i64 bs, .int .i64 N] w fun e w' => e = .returned (.bool true) ∧ Below w.heap.size w w' := by
  have V1 := rvalid_any S
  obtain ⟨d, hd, ed⟩ := dist_any N
  have HD : Hid ((wrap64 (N.tmod 300 + 300)).tmod 300 = (d : Int)) := ed
  clear ed
  by_cases c1 : verr f n = 0
  · rw [c1] at V1
    by_cases g : 100 < n ∨ bs < 2 ∨ 36 < bs
    · rcases g with g | ⟨g⟩ | ⟨g⟩
      · have g' : (100 : Int) < (n : Int) := by omega
        go_enter Tryd.func6, Tryd.ntmps6
        go_wp2_with fail
        refine V1.mono ?_
        rintro e w ⟨rfl, rfl⟩
        go_wp2_with fail
        refine (works_any _ hT).mono ?_
        rintro e w5 ⟨rfl, hb5⟩
        go_wp2
        go_ret
        exact ⟨rfl, hb5⟩
      all_goals
        by_cases q : 100 < n
        · have g' : (100 : Int) < (n : Int) := by omega
          go_enter Tryd.func6, Tryd.ntmps6
          go_wp2_with fail
          refine V1.mono ?_
          rintro e w ⟨rfl, rfl⟩
          go_wp2_with fail
          refine (works_any _ hT).mono ?_
          rintro e w5 ⟨rfl, hb5⟩
          go_wp2
          go_ret
          exact ⟨rfl, hb5⟩
        · have g' : ¬ (100 : Int) < (n : Int) := by omega
          by_cases q2 : bs < 2
          · go_enter Tryd.func6, Tryd.ntmps6
            go_wp2_with fail
            refine V1.mono ?_
            rintro e w ⟨rfl, rfl⟩
            go_wp2_with fail
            refine (works_any _ hT).mono ?_
            rintro e w5 ⟨rfl, hb5⟩
            go_wp2
            go_ret
            exact ⟨rfl, hb5⟩
          · have g3 : (36 : Int) < bs := by omega
            go_enter Tryd.func6, Tryd.ntmps6
            go_wp2_with fail
            refine V1.mono ?_
            rintro e w ⟨rfl, rfl⟩
            go_wp2_with fail
            refine (works_any _ hT).mono ?_
            rintro e w5 ⟨rfl, hb5⟩
            go_wp2
            go_ret
            exact ⟨rfl, hb5⟩
    · obtain ⟨b, rfl⟩ : ∃ b : Nat, bs = (b : Int) := ⟨bs.toNat, by omega⟩
      have g1 : ¬ (100 : Int) < (n : Int) := by omega
      have g2 : ¬ (b : Int) < 2 := by omega
      have g3 : ¬ (36 : Int) < (b : Int) := by omega
      have h1 : 2 ≤ b := by omega
      have h2 : b ≤ 36 := by omega
      have hn : n ≤ 100 := by omega
      obtain ⟨_, t⟩ := verr_zero c1
      have HX : Hid (Top f n) := t
      have HS : Hid (Sl w ao n ca ba oa f) := S
      have hX : V f n < B ^ 100 := Nat.lt_of_lt_of_le (V_lt S.ws n) (Nat.pow_le_pow_right B_pos hn)
      obtain ⟨r1, r2⟩ := two_room hX hd
      have HB : Hid (V f n < B ^ 128 ∧ 2 ^ d < B ^ 128 ∧ V f n * 2 ^ d < B ^ 128) := ⟨Nat.lt_of_lt_of_le hX (Nat.pow_le_pow_right B_pos (by omega)), r1, r2⟩
      have T1 := twin_any S (by omega)
      clear r1 r2 hX S t c1 g
      go_enter Tryd.func6, Tryd.ntmps6
      go_wp2_with fail
      refine V1.mono ?_
      rintro e w ⟨rfl, rfl⟩
      rw [HD.out]
      clear V1
      go_wp2_with fail
      refine T1.mono ?_
      rintro e w1 ⟨ao1, c1, b1, rfl, S1, _, hb1⟩
      have na1 : NatV w1 (.slice ao1 n c1) (V f n) := ⟨_, _, _, _, _, _, rfl, S1, HX.out, rfl, by omega⟩
      have DG := digits_back na1 HB.out.1 b h1 h2
      clear T1 S1 na1
      go_wp2_with fail
      refine DG.mono ?_
      rintro e w2 ⟨tx, rfl, hts, hb2, HRd⟩
      have B2 : Below w.heap.size w w2 := hb1.trans (hb2.mono hb1.size)
      have RD := HRd w2
      clear DG hb1 hb2 HRd
      go_wp2_with fail
      refine RD.mono ?_
      rintro e w3 ⟨vb, rfl, nb3, hb3⟩
      have B3 : Below w.heap.size w w3 := B2.trans (hb3.mono B2.size)
      have PW := power_ok 2 d (by decide) (by omega) HB.out.2.1 w3
      clear RD B2 hb3
      go_wp2_with fail
      refine PW.mono ?_
      rintro e w4 ⟨vt, rfl, nt4, hb4⟩
      have B4 : Below w.heap.size w w4 := B3.trans (hb4.mono B3.size)
      have nb4 := nb3.below hb4
      have T5 := twin_any (HS.out.below B4) (by omega)
      clear PW B3 hb4 nb3
      go_wp2_with fail
      refine T5.mono ?_
      rintro e w5 ⟨ao5, c5, b5, rfl, S5, _, hb5⟩
      have na5 : NatV w5 (.slice ao5 n c5) (V f n) := ⟨_, _, _, _, _, _, rfl, S5, HX.out, rfl, by omega⟩
      have B5 : Below w.heap.size w w5 := B4.trans (hb5.mono B4.size)
      have nb5 := nb4.below hb5
      have ML := mul_ok na5 (nt4.below hb5) HB.out.2.2
      clear T5 S5 na5 nt4 nb4 hb5 B4
      go_wp2_with fail
      refine ML.mono ?_
      rintro e w6 ⟨vp, rfl, np6, hb6⟩
      have B6 : Below w.heap.size w w6 := B5.trans (hb6.mono B5.size)
      have nb6 := nb5.below hb6
      have T7 := twin_any (HS.out.below B6) (by omega)
      clear ML nb5 hb6 B5
      go_wp2_with fail
      refine T7.mono ?_
      rintro e w7 ⟨ao7, c7, b7, rfl, S7, _, hb7⟩
      have na7 : NatV w7 (.slice ao7 n c7) (V f n) := ⟨_, _, _, _, _, _, rfl, S7, HX.out, rfl, by omega⟩
      have B7 : Below w.heap.size w w7 := B6.trans (hb7.mono B6.size)
      have nb7 := nb6.below hb7
      have np7 := np6.below hb7
      have SL := shl_ok na7 d HB.out.2.2 (by omega)
      clear T7 S7 na7 nb6 np6 hb7 B6
      go_wp2_with fail
      refine SL.mono ?_
      rintro e w8 ⟨vl, rfl, nl8, hb8⟩
      have B8 : Below w.heap.size w w8 := B7.trans (hb8.mono B7.size)
      have nb8 := nb7.below hb8
      have np8 := np7.below hb8
      have SR := shr_ok (hT.next B8) nl8 d (by omega)
      rw [Nat.mul_mod_left, Nat.mul_div_cancel _ (Nat.pow_pos (by omega))] at SR
      simp only [ne_eq, not_true_eq_false, decide_false] at SR
      clear SL nb7 np7 hb8 B7
      go_wp2_with fail
      refine SR.mono ?_
      rintro e w9 ⟨vr, rfl, nr9, hb9⟩
      have B9 : Below w.heap.size w w9 := B8.trans (hb9.mono B8.size)
      have np9 := np8.below hb9
      have nl9 := nl8.below hb9
      have na9 : NatV w9 (.slice ao n ca) (V f n) := ⟨_, _, _, _, _, _, rfl, HS.out.below B9, HX.out, rfl, by omega⟩
      have SM := same_natv (nb8.below hb9) na9
      clear SR nb8 np8 nl8 hb9 B8 na9
      go_wp2_with fail
      refine SM.mono ?_
      rintro e wA ⟨rfl, hbA⟩
      have BA : Below w.heap.size w wA := B9.trans (hbA.mono B9.size)
      have nrA := nr9.below hbA
      have SN := same_natv (np9.below hbA) (nl9.below hbA)
      clear SM np9 nl9 nr9 hbA B9
      go_wp2_with fail
      refine SN.mono ?_
      rintro e wB ⟨rfl, hbB⟩
      have BB : Below w.heap.size w wB := BA.trans (hbB.mono BA.size)
      have naB : NatV wB (.slice ao n ca) (V f n) := ⟨_, _, _, _, _, _, rfl, HS.out.below BB, HX.out, rfl, by omega⟩
      have SO := same_natv (nrA.below hbB) naB
      clear SN nrA naB hbB BA
      go_wp2_with fail
      refine SO.mono ?_
      rintro e wC ⟨rfl, hbC⟩
      have BC : Below w.heap.size w wC := BB.trans (hbC.mono BB.size)
      clear SO hbC BB
      go_wp2_with fail
      refine (works_any _ (hT.next BC)).mono ?_
      rintro e wD ⟨rfl, hbD⟩
      go_wp2
      go_ret
      exact ⟨rfl, BC.trans (hbD.mono BC.size)⟩
  · have c1' : (((verr f n : Nat) : Int) == 0) = false := beq_eq_false_iff_ne.mpr (by omega)
    generalize verr f n = e1 at *
    go_enter Tryd.func6, Tryd.ntmps6
    go_wp2_with fail
    refine V1.mono ?_
    rintro e w ⟨rfl, rfl⟩
    go_wp2_with fail
    refine (works_any _ hT).mono ?_
    rintro e w5 ⟨rfl, hb5⟩
    go_wp2
    go_ret
    exact ⟨rfl, hb5⟩

end Go.Proofs.YtbmcegoebhbglabDoor
