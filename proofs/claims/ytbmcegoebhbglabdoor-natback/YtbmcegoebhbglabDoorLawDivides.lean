/-
  The statement NatDivides: for all slices of words a and b the call of NatDivides returns true, where math/bits' table lies as the program's text lays it.
-/
import Derived.Test.YtbmcegoebhbglabDoorNatQ
namespace Go.Proofs.YtbmcegoebhbglabDoor
open Go.RowKit

theorem verr_zero {f : Nat → Nat} {n : Nat} (h : verr f n = 0) : n ≤ 128 ∧ Top f n := by
  unfold verr at h
  split at h
  · omega
  · split at h
    · omega
    · rename_i a b
      refine ⟨by omega, ?_⟩
      rcases Nat.eq_zero_or_pos n with q | q
      · exact Or.inl q
      · exact Or.inr (fun z => b ⟨q, z⟩)

set_option maxRecDepth 100000 in
set_option maxHeartbeats 1000000 in
theorem div_zero {w : World} {va : Value} {X : Nat} (ha : NatV w va X) {bo : Option Addr} {c b' o' : Nat} {f' : Nat → Nat} (S' : Sl w bo 0 c b' o' f') :
    Calls Tryd.prog 20 #[va, .slice bo 0 c] w fun e w' => e = .returned (.tuple #[.slice none 0 0, .slice none 0 0, .iface 58 (.int .i64 10)]) ∧ Below w.heap.size w w' := by
  obtain ⟨ao, n, ca, b, o, f, rfl, S, t, rfl, hn⟩ := ha
  have h1 := both_any S S'
  rw [verr2_ok hn t (by omega) (Or.inl rfl)] at h1
  unfold errV at h1
  go_enter Tryd.func20, Tryd.ntmps20
  go_wp2_with fail
  refine h1.mono ?_
  rintro e wa ⟨rfl, hba⟩
  go_wp2
  refine bodyPost_ret (v := .tuple #[.slice none 0 0, .slice none 0 0, .iface 58 (.int .i64 10)]) (by simp [results, Tryd.results20, go_sem]) rfl ⟨rfl, hba⟩

set_option maxRecDepth 100000 in
set_option maxHeartbeats 4000000 in
theorem law_divides {w : World} (hT : Tab w) {ao : Option Addr} {n ca ba oa : Nat} {f : Nat → Nat} (S : Sl w ao n ca ba oa f) {bo : Option Addr} {m cb bb ob : Nat} {G : Nat → Nat} (S' : Sl w bo m cb bb ob G) :
    Calls Tryd.prog 5 #[.slice ao n ca, .slice bo m cb] w fun e w' => e = .returned (.bool true) ∧ Below w.heap.size w w' := by
  have V1 := rvalid_any S
  have V2 := rvalid_any S'
  by_cases c1 : verr f n = 0
  · by_cases c2 : verr G m = 0
    · obtain ⟨hn, t⟩ := verr_zero c1
      obtain ⟨hm, t'⟩ := verr_zero c2
      rw [c1] at V1
      rw [c2] at V2
      have HX : Hid (n ≤ 128 ∧ Top f n ∧ m ≤ 128 ∧ Top G m) := ⟨hn, t, hm, t'⟩
      have HS : Hid (Sl w ao n ca ba oa f ∧ Sl w bo m cb bb ob G) := ⟨S, S'⟩
      have T1 := twin_any S (by omega)
      have hXB : V f n < B ^ 128 := Nat.lt_of_lt_of_le (V_lt S.ws n) (Nat.pow_le_pow_right B_pos hn)
      have hYB : V G m < B ^ 128 := Nat.lt_of_lt_of_le (V_lt S'.ws m) (Nat.pow_le_pow_right B_pos hm)
      have HB : Hid (V f n < B ^ 128 ∧ V G m < B ^ 128) := ⟨hXB, hYB⟩
      clear S S' t t' c1 c2 hXB hYB
      go_enter Tryd.func5, Tryd.ntmps5
      go_wp2_with fail
      refine V1.mono ?_
      rintro e w0 ⟨rfl, rfl⟩
      go_wp2_with fail
      refine V2.mono ?_
      rintro e w0' ⟨rfl, rfl⟩
      go_wp2_with fail
      refine T1.mono ?_
      rintro e w1 ⟨ao1, c1, b1, rfl, S1, _, hb1⟩
      have na1 : NatV w1 (.slice ao1 n c1) (V f n) := ⟨_, _, _, _, _, _, rfl, S1, HX.out.2.1, rfl, HX.out.1⟩
      have T2 := twin_any (HS.out.2.below hb1) (by omega)
      clear T1 V1 V2 S1
      go_wp2_with fail
      refine T2.mono ?_
      rintro e w2 ⟨bo1, d1, e1, rfl, S2, _, hb2⟩
      have nb2 : NatV w2 (.slice bo1 m d1) (V G m) := ⟨_, _, _, _, _, _, rfl, S2, HX.out.2.2.2, rfl, HX.out.2.2.1⟩
      have na2 := na1.below hb2
      have B2 : Below w0'.heap.size w0' w2 := hb1.trans (hb2.mono hb1.size)
      clear T2 na1 hb1 hb2
      by_cases hm0 : m = 0
      · subst hm0
        have DZ := div_zero na2 S2
        go_wp2_with fail
        refine DZ.mono ?_
        rintro e w3 ⟨rfl, hb3⟩
        have B3 : Below w0'.heap.size w0' w3 := B2.trans (hb3.mono B2.size)
        go_wp2_with fail
        refine (num2_errno 10 _).mono ?_
        rintro e w4 ⟨rfl, rfl⟩
        go_wp2_with fail
        refine (works_any _ (hT.next B3)).mono ?_
        rintro e w5 ⟨rfl, hb5⟩
        go_wp2
        go_ret
        exact ⟨rfl, B3.trans (hb5.mono B3.size)⟩
      · have hmz : ((m : Int) == 0) = false := beq_eq_false_iff_ne.mpr (by omega)
        have hY : V G m ≠ 0 := by
          have q := Top_ge HX.out.2.2.2 (by omega)
          have := Bp_pos (m - 1)
          omega
        have HY : Hid (V G m ≠ 0) := hY
        have DV := div_ok (hT.next B2) na2 nb2 hY
        clear hY S2
        go_wp2_with fail
        refine DV.mono ?_
        rintro e w3 ⟨vq, vr, rfl, nq, nr, hb3⟩
        have B3 : Below w0'.heap.size w0' w3 := B2.trans (hb3.mono B2.size)
        have T3 := twin_any (HS.out.2.below B3) (by omega)
        clear DV na2 nb2 hb3 B2
        go_wp2_with fail
        refine T3.mono ?_
        rintro e w4 ⟨bo4, d4, e4, rfl, S4, _, hb4⟩
        have nb4 : NatV w4 (.slice bo4 m d4) (V G m) := ⟨_, _, _, _, _, _, rfl, S4, HX.out.2.2.2, rfl, HX.out.2.2.1⟩
        have B4 : Below w0'.heap.size w0' w4 := B3.trans (hb4.mono B3.size)
        have nr4 := nr.below hb4
        have ML := mul_ok (nq.below hb4) nb4 (Nat.lt_of_le_of_lt (Nat.div_mul_le_self _ _) HB.out.1)
        clear T3 S4 nq nr hb4 B3
        go_wp2_with fail
        refine ML.mono ?_
        rintro e w5 ⟨vp, rfl, np, hb5⟩
        have B5 : Below w0'.heap.size w0' w5 := B4.trans (hb5.mono B4.size)
        have nr5 := nr4.below hb5
        have es : V f n / V G m * V G m + V f n % V G m = V f n := by rw [Nat.mul_comm]; exact Nat.div_add_mod _ _
        have AD := add_ok np nr5 (by rw [es]; exact HB.out.1)
        rw [es] at AD
        clear ML nb4 nr4 np hb5 B4 es
        go_wp2_with fail
        refine AD.mono ?_
        rintro e w6 ⟨vs, rfl, ns, hb6⟩
        have B6 : Below w0'.heap.size w0' w6 := B5.trans (hb6.mono B5.size)
        have nr6 := nr5.below hb6
        have T6 := twin_any (HS.out.2.below B6) (by omega)
        clear AD nr5 hb6 B5
        go_wp2_with fail
        refine T6.mono ?_
        rintro e w7 ⟨bo7, d7, e7, rfl, S7, _, hb7⟩
        have nb7 : NatV w7 (.slice bo7 m d7) (V G m) := ⟨_, _, _, _, _, _, rfl, S7, HX.out.2.2.2, rfl, HX.out.2.2.1⟩
        have B7 : Below w0'.heap.size w0' w7 := B6.trans (hb7.mono B6.size)
        have CM := cmp_ok (nr6.below hb7) nb7
        rw [ord_lt (Nat.mod_lt _ (Nat.pos_of_ne_zero HY.out))] at CM
        have ns7 := ns.below hb7
        clear T6 S7 nb7 nr6 ns hb7 B6
        go_wp2_with fail
        refine CM.mono ?_
        rintro e w8 ⟨rfl, hb8⟩
        have B8 : Below w0'.heap.size w0' w8 := B7.trans (hb8.mono B7.size)
        have na8 : NatV w8 (.slice ao n ca) (V f n) := ⟨_, _, _, _, _, _, rfl, HS.out.1.below B8, HX.out.2.1, rfl, HX.out.1⟩
        have SM := same_natv (ns7.below hb8) na8
        clear CM ns7 na8 hb8 B7
        go_wp2_with fail
        refine SM.mono ?_
        rintro e w9 ⟨rfl, hb9⟩
        have B9 : Below w0'.heap.size w0' w9 := B8.trans (hb9.mono B8.size)
        clear SM hb9 B8
        go_wp2_with fail
        refine (works_any _ (hT.next B9)).mono ?_
        rintro e wA ⟨rfl, hbA⟩
        go_wp2
        go_ret
        exact ⟨rfl, B9.trans (hbA.mono B9.size)⟩
    · have c2' : (((verr G m : Nat) : Int) == 0) = false := beq_eq_false_iff_ne.mpr (by omega)
      rw [c1] at V1
      generalize verr G m = e2 at *
      go_enter Tryd.func5, Tryd.ntmps5
      go_wp2_with fail
      refine V1.mono ?_
      rintro e w0 ⟨rfl, rfl⟩
      go_wp2_with fail
      refine V2.mono ?_
      rintro e w0' ⟨rfl, rfl⟩
      go_wp2_with fail
      refine (works_any _ hT).mono ?_
      rintro e w5 ⟨rfl, hb5⟩
      go_wp2
      go_ret
      exact ⟨rfl, hb5⟩
  · have c1' : (((verr f n : Nat) : Int) == 0) = false := beq_eq_false_iff_ne.mpr (by omega)
    generalize verr f n = e1 at *
    go_enter Tryd.func5, Tryd.ntmps5
    go_wp2_with fail
    refine V1.mono ?_
    rintro e w0 ⟨rfl, rfl⟩
    go_wp2_with fail
    refine (works_any _ hT).mono ?_
    rintro e w5 ⟨rfl, hb5⟩
    go_wp2
    go_ret
    exact ⟨rfl, hb5⟩

end Go.Proofs.YtbmcegoebhbglabDoor
