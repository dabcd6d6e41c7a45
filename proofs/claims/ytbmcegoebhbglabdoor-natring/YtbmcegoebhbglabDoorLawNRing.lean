/-
  The statement NatRing: for all three slices of words the call of NatRing returns true, where math/bits' table lies as the program's text lays it.
-/
import Derived.Test.YtbmcegoebhbglabDoorLawDivides
namespace Go.Proofs.YtbmcegoebhbglabDoor
open Go.RowKit

theorem ring_sizes {a b c : Nat} (ha : a < B ^ 30) (hb : b < B ^ 30) (hc : c < B ^ 30) : b + c < B ^ 128 ∧ a * (b + c) < B ^ 128 ∧ a * b < B ^ 128 ∧ c * a < B ^ 128 ∧ c * a + a * b < B ^ 128 := by
  have e1 : B ^ 30 + B ^ 30 ≤ B ^ 31 := by
    have h2 : 2 ≤ B := by unfold B; decide
    have h3 := Nat.mul_le_mul_left (B ^ 30) h2
    rw [← Nat.pow_succ, Nat.mul_two] at h3
    exact h3
  have s : b + c < B ^ 31 := by omega
  have p : a * (b + c) < B ^ 61 := by
    rw [show (61 : Nat) = 30 + 31 from rfl, Nat.pow_add]
    exact Nat.mul_lt_mul'' ha s
  have x : B ^ 61 ≤ B ^ 128 := Nat.pow_le_pow_right B_pos (by omega)
  have y : B ^ 31 ≤ B ^ 128 := Nat.pow_le_pow_right B_pos (by omega)
  have d : a * (b + c) = c * a + a * b := by rw [Nat.mul_add, Nat.mul_comm c a, Nat.add_comm]
  refine ⟨by omega, by omega, by omega, by omega, by omega⟩

set_option maxRecDepth 100000 in
set_option maxHeartbeats 4000000 in
theorem law_nring {w : World} (hT : Tab w) {ao : Option Addr} {n ca ba oa : Nat} {f : Nat → Nat} (S : Sl w ao n ca ba oa f) {bo : Option Addr} {m cb bb ob : Nat} {G : Nat → Nat} (S' : Sl w bo m cb bb ob G)
    {co : Option Addr} {k cc bc oc : Nat} {K : Nat → Nat} (S'' : Sl w co k cc bc oc K) :
    Calls Tryd.prog 4 #[.agg #[.slice ao n ca, .slice bo m cb, .slice co k cc]] w fun e w' => e = .returned (.bool true) ∧ Below w.heap.size w w' := by
  obtain ⟨U, hU⟩ : ∃ U, U = w.alloc (.cells #[.slice ao n ca, .slice bo m cb, .slice co k cc] 40) := ⟨_, rfl⟩
  have hu : Below w.heap.size w U := by rw [hU]; exact (Below.refl _ _).alloc (Nat.le_refl _) _
  have zu : w.heap.size < U.heap.size := by rw [hU]; simp
  have k0 : U.cell? ⟨w.heap.size, 0, none⟩ = some (.slice ao n ca) := by rw [hU]; simp
  have k1 : U.cell? ⟨w.heap.size, 1, none⟩ = some (.slice bo m cb) := by rw [hU]; simp
  have k2 : U.cell? ⟨w.heap.size, 2, none⟩ = some (.slice co k cc) := by rw [hU]; simp
  have hTU := hT.next hu
  have HU : Hid (U = w.alloc (.cells #[.slice ao n ca, .slice bo m cb, .slice co k cc] 40)) := hU
  clear hU
  replace S := S.below hu
  replace S' := S'.below hu
  replace S'' := S''.below hu
  have V1 := rvalid_any S
  have V2 := rvalid_any S'
  have V3 := rvalid_any S''
  by_cases g1 : 30 < n
  · have g1' : (30 : Int) < (n : Int) := by omega
    go_enter Tryd.func4, Tryd.ntmps4
    go_wp2_with fail
    rw [← HU.out]
    refine (works_any _ hTU).mono ?_
    rintro e w5 ⟨rfl, hb5⟩
    go_wp2
    go_ret
    exact ⟨rfl, hu.trans (hb5.mono hu.size)⟩
  have g1' : ¬ (30 : Int) < (n : Int) := by omega
  by_cases g2 : 30 < m
  · have g2' : (30 : Int) < (m : Int) := by omega
    go_enter Tryd.func4, Tryd.ntmps4
    go_wp2_with fail
    rw [← HU.out]
    refine (works_any _ hTU).mono ?_
    rintro e w5 ⟨rfl, hb5⟩
    go_wp2
    go_ret
    exact ⟨rfl, hu.trans (hb5.mono hu.size)⟩
  have g2' : ¬ (30 : Int) < (m : Int) := by omega
  by_cases g3 : 30 < k
  · have g3' : (30 : Int) < (k : Int) := by omega
    go_enter Tryd.func4, Tryd.ntmps4
    go_wp2_with fail
    rw [← HU.out]
    refine (works_any _ hTU).mono ?_
    rintro e w5 ⟨rfl, hb5⟩
    go_wp2
    go_ret
    exact ⟨rfl, hu.trans (hb5.mono hu.size)⟩
  have g3' : ¬ (30 : Int) < (k : Int) := by omega
  by_cases c1 : verr f n = 0
  · by_cases c2 : verr G m = 0
    · by_cases c3 : verr K k = 0
      · obtain ⟨_, t⟩ := verr_zero c1
        obtain ⟨_, t'⟩ := verr_zero c2
        obtain ⟨_, t''⟩ := verr_zero c3
        rw [c1] at V1
        rw [c2] at V2
        rw [c3] at V3
        have hn : n ≤ 30 := by omega
        have hm : m ≤ 30 := by omega
        have hk : k ≤ 30 := by omega
        have HX : Hid ((n ≤ 30 ∧ Top f n) ∧ (m ≤ 30 ∧ Top G m) ∧ (k ≤ 30 ∧ Top K k)) := ⟨⟨hn, t⟩, ⟨hm, t'⟩, ⟨hk, t''⟩⟩
        have HS : Hid (Sl U ao n ca ba oa f ∧ Sl U bo m cb bb ob G ∧ Sl U co k cc bc oc K) := ⟨S, S', S''⟩
        have HB : Hid (V G m + V K k < B ^ 128 ∧ V f n * (V G m + V K k) < B ^ 128 ∧ V f n * V G m < B ^ 128 ∧ V K k * V f n < B ^ 128 ∧ V K k * V f n + V f n * V G m < B ^ 128) := (ring_sizes
          (Nat.lt_of_lt_of_le (V_lt S.ws n) (Nat.pow_le_pow_right B_pos hn)) (Nat.lt_of_lt_of_le (V_lt S'.ws m) (Nat.pow_le_pow_right B_pos hm)) (Nat.lt_of_lt_of_le (V_lt S''.ws k) (Nat.pow_le_pow_right B_pos hk)))
        clear S S' S'' t t' t'' c1 c2 c3 g1 g2 g3
        go_enter Tryd.func4, Tryd.ntmps4
        go_wp2_with fail
        rw [← HU.out]
        refine V1.mono ?_
        rintro e U ⟨rfl, rfl⟩
        go_wp2_with fail
        refine V2.mono ?_
        rintro e U ⟨rfl, rfl⟩
        go_wp2_with fail
        refine V3.mono ?_
        rintro e U ⟨rfl, rfl⟩
        go_wp2
        go_region_held3 (fun w' => w'.cell? ⟨w.heap.size, 0, none⟩ = some (.slice ao n ca) ∧ w'.cell? ⟨w.heap.size, 1, none⟩ = some (.slice bo m cb) ∧ w'.cell? ⟨w.heap.size, 2, none⟩ = some (.slice co k cc)) (simp [*, go_sem])
          (first
            | (go_at_call_of 9 (Value.slice ao n ca); refine (twin_any (HS.out.1.below ((Below.refl _ _).drew)) (by omega)).mono ?_; rintro e w1 ⟨ao1, c1, b1, rfl, S1, _, hb1⟩; have BU1 : Below U.heap.size U w1 := (Below.refl _ _).drew.trans (hb1.mono (Nat.le_refl _)); have k10 : w1.cell? ⟨w.heap.size, 0, none⟩ = some (.slice ao n ca) := (BU1.cell (p := ⟨w.heap.size, 0, none⟩) zu).trans k0; have k11 : w1.cell? ⟨w.heap.size, 1, none⟩ = some (.slice bo m cb) := (BU1.cell (p := ⟨w.heap.size, 1, none⟩) zu).trans k1; have k12 : w1.cell? ⟨w.heap.size, 2, none⟩ = some (.slice co k cc) := (BU1.cell (p := ⟨w.heap.size, 2, none⟩) zu).trans k2)
            | (go_at_call_of 9 (Value.slice bo m cb); refine (twin_any (HS.out.2.1.below (BU1)) (by omega)).mono ?_; rintro e w2 ⟨bo1, d1, e1, rfl, S2, _, hb2⟩; have BU2 : Below U.heap.size U w2 := BU1.trans (hb2.mono BU1.size); have k20 : w2.cell? ⟨w.heap.size, 0, none⟩ = some (.slice ao n ca) := (BU2.cell (p := ⟨w.heap.size, 0, none⟩) zu).trans k0; have k21 : w2.cell? ⟨w.heap.size, 1, none⟩ = some (.slice bo m cb) := (BU2.cell (p := ⟨w.heap.size, 1, none⟩) zu).trans k1; have k22 : w2.cell? ⟨w.heap.size, 2, none⟩ = some (.slice co k cc) := (BU2.cell (p := ⟨w.heap.size, 2, none⟩) zu).trans k2)
            | (go_at_call_of 9 (Value.slice co k cc); refine (twin_any (HS.out.2.2.below (BU2)) (by omega)).mono ?_; rintro e w3 ⟨co3, d3, e3, rfl, S3, _, hb3⟩; have BU3 : Below U.heap.size U w3 := BU2.trans (hb3.mono BU2.size); have k30 : w3.cell? ⟨w.heap.size, 0, none⟩ = some (.slice ao n ca) := (BU3.cell (p := ⟨w.heap.size, 0, none⟩) zu).trans k0; have k31 : w3.cell? ⟨w.heap.size, 1, none⟩ = some (.slice bo m cb) := (BU3.cell (p := ⟨w.heap.size, 1, none⟩) zu).trans k1; have k32 : w3.cell? ⟨w.heap.size, 2, none⟩ = some (.slice co k cc) := (BU3.cell (p := ⟨w.heap.size, 2, none⟩) zu).trans k2))
        have na1 : NatV w1 (.slice ao1 n c1) (V f n) := ⟨_, _, _, _, _, _, rfl, S1, HX.out.1.2, rfl, by omega⟩
        have nb2 : NatV w2 (.slice bo1 m d1) (V G m) := ⟨_, _, _, _, _, _, rfl, S2, HX.out.2.1.2, rfl, by omega⟩
        have nc3 : NatV w3 (.slice co3 k d3) (V K k) := ⟨_, _, _, _, _, _, rfl, S3, HX.out.2.2.2, rfl, by omega⟩
        have na3 := (na1.below hb2).below hb3
        have nb3 := nb2.below hb3
        have B3 : Below U.heap.size U w3 := BU3
        clear na1 nb2 hb1 hb2 hb3 S1 S2 S3 BU1 BU2 BU3 k10 k11 k12 k20 k21 k22 V1 V2 V3
        have AD := add_ok nb3 nc3 HB.out.1
        go_wp2_with fail
        refine AD.mono ?_
        rintro e w4 ⟨vs, rfl, ns4, hb4⟩
        have B4 : Below U.heap.size U w4 := B3.trans (hb4.mono B3.size)
        have na4 := na3.below hb4
        have nb4 := nb3.below hb4
        have nc4 := nc3.below hb4
        have M1 := mul_ok na4 ns4 HB.out.2.1
        clear AD na3 nb3 nc3 hb4 B3
        go_wp2_with fail
        refine M1.mono ?_
        rintro e w5 ⟨vp, rfl, np5, hb5⟩
        have B5 : Below U.heap.size U w5 := B4.trans (hb5.mono B4.size)
        have na5 := na4.below hb5
        have nb5 := nb4.below hb5
        have nc5 := nc4.below hb5
        have ns5 := ns4.below hb5
        have M2 := mul_ok na5 nb5 HB.out.2.2.1
        clear M1 na4 nb4 nc4 ns4 hb5 B4
        go_wp2_with fail
        refine M2.mono ?_
        rintro e w6 ⟨vx, rfl, nx6, hb6⟩
        have B6 : Below U.heap.size U w6 := B5.trans (hb6.mono B5.size)
        have na6 := na5.below hb6
        have nb6 := nb5.below hb6
        have nc6 := nc5.below hb6
        have ns6 := ns5.below hb6
        have np6 := np5.below hb6
        have M3 := mul_ok nc6 na6 HB.out.2.2.2.1
        clear M2 na5 nb5 nc5 ns5 np5 hb6 B5
        go_wp2_with fail
        refine M3.mono ?_
        rintro e w7 ⟨vy, rfl, ny7, hb7⟩
        have B7 : Below U.heap.size U w7 := B6.trans (hb7.mono B6.size)
        have nb7 := nb6.below hb7
        have ns7 := ns6.below hb7
        have np7 := np6.below hb7
        have nx7 := nx6.below hb7
        have A2 := add_ok ny7 nx7 HB.out.2.2.2.2
        clear M3 na6 nb6 nc6 ns6 np6 nx6 hb7 B6
        go_wp2_with fail
        refine A2.mono ?_
        rintro e w8 ⟨vq, rfl, nq8, hb8⟩
        have B8 : Below U.heap.size U w8 := B7.trans (hb8.mono B7.size)
        have nb8 := nb7.below hb8
        have ns8 := ns7.below hb8
        have np8 := np7.below hb8
        have SB := sub_ok ns8 nb8 (Nat.le_add_right _ _)
        clear A2 nb7 ns7 np7 nx7 ny7 hb8 B7
        go_wp2_with fail
        refine SB.mono ?_
        rintro e w9 ⟨vo, rfl, no9, hb9⟩
        have B9 : Below U.heap.size U w9 := B8.trans (hb9.mono B8.size)
        have nq9 := nq8.below hb9
        have np9 := np8.below hb9
        have d : V f n * (V G m + V K k) = V K k * V f n + V f n * V G m := by rw [Nat.mul_add, Nat.mul_comm (V K k), Nat.add_comm]
        rw [d] at np9
        rw [Nat.add_sub_cancel_left] at no9
        have SM := same_natv np9 nq9
        clear SB nb8 ns8 np8 nq8 hb9 B8 d
        go_wp2_with fail
        refine SM.mono ?_
        rintro e wA ⟨rfl, hbA⟩
        have BA : Below U.heap.size U wA := B9.trans (hbA.mono B9.size)
        have kA2 : wA.cell? ⟨w.heap.size, 2, none⟩ = some (.slice co k cc) := (BA.cell (p := ⟨w.heap.size, 2, none⟩) zu).trans k2
        have ncA : NatV wA (.slice co k cc) (V K k) := ⟨_, _, _, _, _, _, rfl, HS.out.2.2.below BA, HX.out.2.2.2, rfl, by omega⟩
        have SN := same_natv (no9.below hbA) ncA
        clear SM no9 nq9 np9 hbA B9 ncA
        go_wp2_with fail
        refine SN.mono ?_
        rintro e wB ⟨rfl, hbB⟩
        have BB : Below U.heap.size U wB := BA.trans (hbB.mono BA.size)
        clear SN hbB BA
        go_wp2_with fail
        refine (works_any _ (hTU.next BB)).mono ?_
        rintro e wC ⟨rfl, hbC⟩
        go_wp2
        go_ret
        exact ⟨rfl, hu.trans ((BB.trans (hbC.mono BB.size)).mono hu.size)⟩
      · have c3' : (((verr K k : Nat) : Int) == 0) = false := beq_eq_false_iff_ne.mpr (by omega)
        rw [c1] at V1
        rw [c2] at V2
        generalize verr K k = e3 at *
        go_enter Tryd.func4, Tryd.ntmps4
        go_wp2_with fail
        rw [← HU.out]
        refine V1.mono ?_
        rintro e w0 ⟨rfl, rfl⟩
        go_wp2_with fail
        refine V2.mono ?_
        rintro e w0' ⟨rfl, rfl⟩
        go_wp2_with fail
        refine V3.mono ?_
        rintro e w0'' ⟨rfl, rfl⟩
        go_wp2_with fail
        refine (works_any _ hTU).mono ?_
        rintro e w5 ⟨rfl, hb5⟩
        go_wp2
        go_ret
        exact ⟨rfl, hu.trans (hb5.mono hu.size)⟩
    · have c2' : (((verr G m : Nat) : Int) == 0) = false := beq_eq_false_iff_ne.mpr (by omega)
      rw [c1] at V1
      generalize verr G m = e2 at *
      go_enter Tryd.func4, Tryd.ntmps4
      go_wp2_with fail
      rw [← HU.out]
      refine V1.mono ?_
      rintro e w0 ⟨rfl, rfl⟩
      go_wp2_with fail
      refine V2.mono ?_
      rintro e w0' ⟨rfl, rfl⟩
      go_wp2_with fail
      refine (works_any _ hTU).mono ?_
      rintro e w5 ⟨rfl, hb5⟩
      go_wp2
      go_ret
      exact ⟨rfl, hu.trans (hb5.mono hu.size)⟩
  · have c1' : (((verr f n : Nat) : Int) == 0) = false := beq_eq_false_iff_ne.mpr (by omega)
    generalize verr f n = e1 at *
    go_enter Tryd.func4, Tryd.ntmps4
    go_wp2_with fail
    rw [← HU.out]
    refine V1.mono ?_
    rintro e w0 ⟨rfl, rfl⟩
    go_wp2_with fail
    refine (works_any _ hTU).mono ?_
    rintro e w5 ⟨rfl, hb5⟩
    go_wp2
    go_ret
    exact ⟨rfl, hu.trans (hb5.mono hu.size)⟩

end Go.Proofs.YtbmcegoebhbglabDoor
