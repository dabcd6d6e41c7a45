/-
  What product's nearest answers.
-/
import Derived.Test.YtohbggdkopmpfaaDoorPpA
import Derived.Test.YtohbggdkopmpfaaDoorPpB
namespace Go.Proofs.YtohbggdkopmpfaaDoor
open Go.RowKit

/-- The answer, once head is told. -/
theorem near_ans15 {f T : Nat} {L E t : Int} {X h b r k : Nat} (hf : 0 < f) (f6 : f < 63) (hT : 2 ≤ T) (h64 : h < 2 ^ 64) (hX : X = h * 2 ^ b + r) (hr : r < 2 ^ b) (hh : (X = 0 ∧ h = 0 ∧ r = 0) ∨ 2 ^ 63 ≤ h)
    (hk : (k : Int) = max (63 - (f : Int)) (L - (E + b))) : NrT f T L X 1 E t (pkA f T L (drp h k (if r = 0 then t else 1)) (E + b + k)) := by
  rcases hh with ⟨rfl, rfl, rfl⟩ | h63
  · have e : drp 0 k (if (0 : Nat) = 0 then t else 1) = 0 := by
      unfold drp
      split
      · rfl
      · rw [Nat.zero_div, Nat.zero_mod, if_neg]
        have := Nat.two_pow_pos (k - 1)
        omega
    rw [e]
    unfold pkA
    rw [if_pos rfl]
    exact NrT_nought Nat.one_pos (by omega)
  · obtain ⟨c1, c2⟩ := long_near (T := T) t hf f6 hT hX hr h63 h64 hk
    unfold pkA
    by_cases z : drp h k (if r = 0 then t else 1) = 0
    · rw [if_pos z]
      exact c1 z
    · rw [if_neg z]
      obtain ⟨y, hy, hp⟩ := c2 z
      rw [hp]
      by_cases q : y < T * 2 ^ f
      · rw [if_pos q]
        unfold rdE at hy
        rw [if_pos q] at hy
        exact hy
      · rw [if_neg q]
        unfold rdE at hy
        rw [if_neg q] at hy
        exact hy

set_option maxRecDepth 100000 in
set_option maxHeartbeats 2000000 in
theorem pnear_ok {s : Int} {g n f T : Nat} {L : Int} (hz : Fz s g n f T L) {X : Nat} (h0 : X = 0 ∨ 2 ^ 127 ≤ X) (h2 : X < 2 ^ 192) {E t : Int} (hE : -5000 ≤ E) (hE2 : E ≤ 5000) (ht : t = -1 ∨ t = 0 ∨ t = 1) (w : World) (hT : Tab w) :
    Calls Tryd.prog 13 #[.agg #[.int .i64 s, .int .i64 ((f : Int) + 1), .int .i64 L], lgV X, .int .i64 E, .int .i64 t] w fun e w' => ∃ x : Nat, e = .returned (.int .u64 (x : Int)) ∧ NrT f T L X 1 E t x ∧ Below w.heap.size w w' := by
  have HH := fun W => head_ok h0 h2 W
  have hf : 0 < f ∧ f ≤ 52 := by rcases hz with ⟨_, _, _, h, _⟩ | ⟨_, _, _, h, _⟩ <;> omega
  have hL : -1074 ≤ L ∧ L ≤ 0 := by rcases hz with ⟨_, _, _, _, _, h⟩ | ⟨_, _, _, _, _, h⟩ <;> omega
  have hT2 : 2 ≤ T := by rcases hz with ⟨_, _, _, _, h, _⟩ | ⟨_, _, _, _, h, _⟩ <;> omega
  have HZ : Hid (Fz s g n f T L) := hz
  have HT : Hid (Tab w) := hT
  obtain ⟨V, hV⟩ : ∃ V, lgV X = V := ⟨_, rfl⟩
  have hV2 : V = .agg #[.int .u64 (x2 X), .int .u64 (x1 X), .int .u64 (x0 X)] := by rw [← hV]; rfl
  rw [hV] at HH ⊢
  subst hV2
  have G0 : Hid (GrB ((w.alloc (.cells #[.int .i64 s, .int .i64 ((f : Int) + 1), .int .i64 L] 32)).alloc (.cells #[.int .u64 (x2 X), .int .u64 (x1 X), .int .u64 (x0 X)] 44)) w.heap.size _ _ _) := (GrB.new w (.int .i64 s) (.int .i64 ((f : Int) + 1)) (.int .i64 L) 32).al _
  have B0 : Hid (Below w.heap.size w ((w.alloc (.cells #[.int .i64 s, .int .i64 ((f : Int) + 1), .int .i64 L] 32)).alloc (.cells #[.int .u64 (x2 X), .int .u64 (x1 X), .int .u64 (x0 X)] 44))) := ((Below.refl _ _).alloc (Nat.le_refl _) _).alloc (by simp) _
  clear hV hz hT h0 h2
  generalize x2 X = a2 at *
  generalize x1 X = a1 at *
  generalize x0 X = a0 at *
  go_enter Tryd.func13, Tryd.ntmps13
  go_wp2_with fail
  refine (HH _).mono ?_
  rintro e w1 ⟨h, b, r, rfl, h64, hb128, hX, hr, hh, hb⟩
  have G1 : Hid (GrB w1 w.heap.size _ _ _) := G0.out.step hb
  have B1 : Hid (Below w.heap.size w w1) := B0.out.trans (hb.mono B0.out.size)
  clear hb G0 B0 HH
  obtain ⟨k, hk⟩ : ∃ k : Nat, (k : Int) = max (63 - (f : Int)) (L - (E + b)) := ⟨(max (63 - (f : Int)) (L - (E + b))).toNat, by omega⟩
  have ANS : Hid (NrT f T L X 1 E t (pkA f T L (drp h k (if r = 0 then t else 1)) (E + b + k))) := near_ans15 hf.1 (by omega) hT2 h64 hX hr hh hk
  have ht2 : (if r = 0 then t else 1) = -1 ∨ (if r = 0 then t else 1) = 0 ∨ (if r = 0 then t else 1) = 1 := by split <;> omega
  have HD := fun W => pdrop_any (m := h) (D := k) (by omega) (by omega) ht2 W
  have HP := fun W hW => ppack_any HZ.out (m := drp h k (if r = 0 then t else 1)) (p := E + b + k) (drp_lt _ h64 (by omega)) (by omega) ((f : Int) + 1) L W hW
  generalize pkA f T L (drp h k (if r = 0 then t else 1)) (E + b + k) = y at *
  generalize drp h k (if r = 0 then t else 1) = dd at *
  have e1 : IntKind.i64.wrap (E + (b : Int)) = E + b := IntWalk.i64_in _ ⟨by omega, by omega⟩
  have e2 : IntKind.i64.wrap (64 - ((f : Int) + 1)) = 63 - (f : Int) := by rw [show 64 - ((f : Int) + 1) = 63 - (f : Int) from by omega]; exact IntWalk.i64_in _ ⟨by omega, by omega⟩
  have e3 : IntKind.i64.wrap (L - (E + (b : Int))) = L - (E + b) := IntWalk.i64_in _ ⟨by omega, by omega⟩
  have e4 : (if 63 - (f : Int) < L - (E + (b : Int)) then L - (E + (b : Int)) else 63 - (f : Int)) = (k : Int) := by rw [hk]; split <;> omega
  have e5 : IntKind.i64.wrap (E + (b : Int) + (k : Int)) = E + b + k := IntWalk.i64_in _ ⟨by omega, by omega⟩
  have HE : Hid _ := e4
  clear e4 hX hr hh hT2
  obtain ⟨l1, c0, c1, c2, _, _, _⟩ := G1.out
  by_cases r0 : r = 0
  · have r1 : decide (r ≠ 0) = false := by simpa using r0
    rw [r1]
    rw [if_pos r0] at HD
    clear r1 r0 ht2 hk
    go_upto_region 6 with fail
    rw [e2, e3, HE.out] at *
    have TD : Hid (Tab w1.drew) := HT.out.below B1.out.drew HT.out.pos
    go_region_held3 (fun w' => w'.cell? ⟨w.heap.size, 0, none⟩ = some (.int .i64 s) ∧ w'.cell? ⟨w.heap.size, 1, none⟩ = some (.int .i64 ((f : Int) + 1)) ∧ w'.cell? ⟨w.heap.size, 2, none⟩ = some (.int .i64 L)) (simp [*, go_sem])
      (first
        | (go_at_call 25; refine (HD _).mono ?_; rintro x1 w2 ⟨rfl, hh⟩; obtain ⟨hc2, hf2⟩ := bcell hh; have s2 := hh.size; have k0 := hc2 w.heap.size 0 (by simpa using l1); have k1 := hc2 w.heap.size 1 (by simpa using l1); have k2 := hc2 w.heap.size 2 (by simpa using l1); have T2 : Hid (Tab w2) := TD.out.next hh; have B2 : Hid (Below w.heap.size w w2) := B1.out.drew.trans (hh.mono B1.out.drew.size); have l2 : w.heap.size < w2.heap.size := Nat.lt_of_lt_of_le l1 s2)
        | (go_at_call 24; refine (HP _ T2.out).mono ?_; rintro x1 w3 ⟨rfl, hh3⟩; obtain ⟨hc3, hf3⟩ := bcell hh3; have j0 := hc3 w.heap.size 0 l2; have j1 := hc3 w.heap.size 1 l2; have j2 := hc3 w.heap.size 2 l2; have B3 : Hid (Below w.heap.size w w3) := B2.out.trans (hh3.mono B2.out.size)))
    all_goals
      go_wp2
      go_ret
      exact ⟨y, rfl, ANS.out, B3.out⟩
  · have r1 : decide (r ≠ 0) = true := by simpa using r0
    rw [r1]
    rw [if_neg r0] at HD
    clear r1 r0 ht2 hk
    go_upto_region 6 with fail
    rw [e2, e3, HE.out] at *
    have TD : Hid (Tab w1.drew) := HT.out.below B1.out.drew HT.out.pos
    go_region_held3 (fun w' => w'.cell? ⟨w.heap.size, 0, none⟩ = some (.int .i64 s) ∧ w'.cell? ⟨w.heap.size, 1, none⟩ = some (.int .i64 ((f : Int) + 1)) ∧ w'.cell? ⟨w.heap.size, 2, none⟩ = some (.int .i64 L)) (simp [*, go_sem])
      (first
        | (go_at_call 25; refine (HD _).mono ?_; rintro x1 w2 ⟨rfl, hh⟩; obtain ⟨hc2, hf2⟩ := bcell hh; have s2 := hh.size; have k0 := hc2 w.heap.size 0 (by simpa using l1); have k1 := hc2 w.heap.size 1 (by simpa using l1); have k2 := hc2 w.heap.size 2 (by simpa using l1); have T2 : Hid (Tab w2) := TD.out.next hh; have B2 : Hid (Below w.heap.size w w2) := B1.out.drew.trans (hh.mono B1.out.drew.size); have l2 : w.heap.size < w2.heap.size := Nat.lt_of_lt_of_le l1 s2)
        | (go_at_call 24; refine (HP _ T2.out).mono ?_; rintro x1 w3 ⟨rfl, hh3⟩; obtain ⟨hc3, hf3⟩ := bcell hh3; have j0 := hc3 w.heap.size 0 l2; have j1 := hc3 w.heap.size 1 l2; have j2 := hc3 w.heap.size 2 l2; have B3 : Hid (Below w.heap.size w w3) := B2.out.trans (hh3.mono B2.out.size)))
    all_goals
      go_wp2
      go_ret
      exact ⟨y, rfl, ANS.out, B3.out⟩
end Go.Proofs.YtohbggdkopmpfaaDoor
