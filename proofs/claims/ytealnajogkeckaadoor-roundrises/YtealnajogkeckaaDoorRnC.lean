/-
  What nearest of round answers.
-/
import Derived.Test.YtealnajogkeckaaDoorRnB
import Derived.Test.YtealnajogkeckaaDoorBtJ
namespace Go.Proofs.YtealnajogkeckaaDoor
open Go.RowKit

/-- Bits and an error, by the answer. -/
def anV (g : Nat) (c : Bool) (p : Nat × Bool) : Value := .tuple #[.int .u64 ((sgd g c p.1 : Nat) : Int), if p.2 then .iface 76 (.int .i64 4) else .nilIface]
theorem zero_z {s : Int} {g n f T : Nat} {L : Int} (h : Fz s g n f T L) (c : Bool) (w : World) : Calls Tryd.prog 66 #[.bool c, .int .i64 s] w fun e w' => e = .returned (.tuple #[.int .u64 ((sgd g c 0 : Nat) : Int), .nilIface]) ∧ Below w.heap.size w w' := by
  rcases h with ⟨rfl, rfl, rfl, rfl, rfl, rfl⟩ | ⟨rfl, rfl, rfl, rfl, rfl, rfl⟩
  · exact bzero_32 c w
  · exact bzero_64 c w
theorem inf_z {s : Int} {g n f T : Nat} {L : Int} (h : Fz s g n f T L) (c : Bool) (w : World) : Calls Tryd.prog 68 #[.bool c, .int .i64 s] w fun e w' => e = .returned (.tuple #[.int .u64 ((sgd g c (T * 2 ^ f) : Nat) : Int), .nilIface]) ∧ Below w.heap.size w w' := by
  rcases h with ⟨rfl, rfl, rfl, rfl, rfl, rfl⟩ | ⟨rfl, rfl, rfl, rfl, rfl, rfl⟩
  · exact binf_32 c w
  · exact binf_64 c w
theorem pack_z {s : Int} {g n f T : Nat} {L : Int} (h : Fz s g n f T L) (c : Bool) {m : Nat} {p : Int} (hm : m < 18446744073709551616) (m0 : m ≠ 0) (hp0 : -9223372036854775808 ≤ p) (w : World) (hT : Tab w) : Calls Tryd.prog 67 #[.agg #[.bool c, .int .i64 2, .int .u64 (m : Int), .int .i64 p], .int .i64 s] w fun e w' => e = .returned (match pk f (T : Int) L m p with | some b => .tuple #[.int .u64 ((sgd g c b : Nat) : Int), .nilIface] | none => .tuple #[.int .u64 0, .iface 76 (.int .i64 4)]) ∧ Below w.heap.size w w' := by
  rcases h with ⟨rfl, rfl, rfl, rfl, rfl, rfl⟩ | ⟨rfl, rfl, rfl, rfl, rfl, rfl⟩
  · rw [show (((255 : Nat) : Int)) = 255 from rfl]
    cases h : pk 23 255 (-149) m p with
    | none => exact pk_of_32 w hT fun W hW => pack_none_32 c hm m0 hp0 h W hW
    | some b => exact pk_of_32 w hT fun W hW => pack_some_32 c hm m0 hp0 h W hW
  · rw [show (((2047 : Nat) : Int)) = 2047 from rfl]
    cases h : pk 52 2047 (-1074) m p with
    | none => exact pk_of_64 w hT fun W hW => pack_none_64 c hm m0 hp0 h W hW
    | some b => exact pk_of_64 w hT fun W hW => pack_some_64 c hm m0 hp0 h W hW
theorem dpK_lt {m D : Nat} {more : Bool} (hm : m < 18446744073709551616) : dpK m D more < 18446744073709551616 := by
  unfold dpK
  by_cases h : D = 0
  · subst h
    unfold dpU
    simpa using hm
  · have a : m / 2 ^ D ≤ m / 2 := Nat.div_le_div_left (by rw [show D = D - 1 + 1 from by omega, Nat.pow_succ]; have := Nat.two_pow_pos (D - 1); omega) (by omega)
    split <;> omega
set_option maxRecDepth 100000 in
set_option maxHeartbeats 1000000 in
theorem near_zero {s : Int} {g n f T : Nat} {L : Int} (hz : Fz s g n f T L) {m : Nat} {e : Int} (c : Bool) (more : Bool) (hm : m < 18446744073709551616) (h0 : -4398046511104 ≤ e) (h1 : e ≤ 4398046511104) (k0 : dpK m (dpD f L m e).toNat more = 0) (w : World) : Calls Tryd.prog 35 #[.agg #[.int .i64 s, .int .i64 ((f : Int) + 1), .int .i64 L], .bool c, .int .u64 (m : Int), .int .i64 e, .bool more] w fun e w' => e = .returned (.tuple #[.int .u64 ((sgd g c 0 : Nat) : Int), .nilIface]) ∧ Below w.heap.size w w' := by
  have HL := fun W => len64_any (m : Int) ⟨by omega, by omega⟩ W
  rw [show blen (m : Int) = (ln m : Int) from blen_ln m hm] at HL
  have hf : f ≤ 52 := by rcases hz with ⟨_, _, _, h, _⟩ | ⟨_, _, _, h, _⟩ <;> omega
  have hL : -1074 ≤ L ∧ L ≤ 0 := by rcases hz with ⟨_, _, _, _, _, h⟩ | ⟨_, _, _, _, _, h⟩ <;> omega
  have hl : ln m ≤ 64 := (ln_iff m 64).2 (by omega)
  obtain ⟨D, hD⟩ : ∃ D : Nat, (dpD f L m e).toNat = D := ⟨_, rfl⟩
  have hD' : dpD f L m e = (D : Int) := by rw [← hD]; unfold dpD; omega
  have hD2 : D < 9223372036854775808 := by rw [← hD]; unfold dpD; omega
  have HD := fun W => dropped_any hm hD2 more W
  have E : (if (if 0 < IntKind.i64.wrap ((ln m : Int) - ((f : Int) + 1)) then IntKind.i64.wrap ((ln m : Int) - ((f : Int) + 1)) else 0) < IntKind.i64.wrap (L - e) then IntKind.i64.wrap (L - e) else if 0 < IntKind.i64.wrap ((ln m : Int) - ((f : Int) + 1)) then IntKind.i64.wrap ((ln m : Int) - ((f : Int) + 1)) else 0) = (D : Int) := by
    rw [IntWalk.i64_in ((ln m : Int) - ((f : Int) + 1)) ⟨by omega, by omega⟩, IntWalk.i64_in (L - e) ⟨by omega, by omega⟩, ← hD']
    unfold dpD
    split <;> split <;> omega
  have HZ := fun W => zero_z hz c W
  rw [hD] at k0
  generalize sgd g c 0 = y at *
  rw [k0] at HD
  rw [show ((0 : Nat) : Int) = 0 from rfl] at HD
  have HE : Hid _ := E
  clear E hD hD' hD2 hL hl hf hz k0
  generalize ln m = l at *
  go_enter Tryd.func35, Tryd.ntmps35
  go_upto_region 1 with fail
  go_region_held3 (fun w' => w'.cell? ⟨w.heap.size, 0, none⟩ = some (.int .i64 s) ∧ w'.cell? ⟨w.heap.size, 1, none⟩ = some (.int .i64 ((f : Int) + 1)) ∧ w'.cell? ⟨w.heap.size, 2, none⟩ = some (.int .i64 L)) (simp [*, go_sem])
    (first
      | (go_at_call 60; refine (HL _).mono ?_; rintro x1 w2 ⟨rfl, hh⟩; subst hh))
  rw [HE.out]
  clear HE
  have B0 : Hid (Below w.heap.size w (w.alloc (.cells #[.int .i64 s, .int .i64 ((f : Int) + 1), .int .i64 L] 64)).drew) := ((Below.refl _ _).alloc (Nat.le_refl _) _).drew
  have G0 : Hid (GrB (w.alloc (.cells #[.int .i64 s, .int .i64 ((f : Int) + 1), .int .i64 L] 64)).drew w.heap.size _ _ _) := (GrB.new w _ _ _ _).step (Below.refl _ _).drew
  generalize (w.alloc (.cells #[.int .i64 s, .int .i64 ((f : Int) + 1), .int .i64 L] 64)).drew = v at *
  go_wp2_with fail
  refine (HD _).mono ?_
  rintro e w1 ⟨rfl, hb⟩
  have B1 : Hid (Below w.heap.size w w1) := B0.out.trans (hb.mono B0.out.size)
  have G1 : Hid (GrB w1 w.heap.size _ _ _) := G0.out.step hb
  clear hb B0 G0
  obtain ⟨_, a0, a1, a2, _, _, _⟩ := G1.out
  go_wp2_with fail
  refine (HZ _).mono ?_
  rintro e w2 ⟨rfl, hb⟩
  have B2 : Hid (Below w.heap.size w w2) := B1.out.trans (hb.mono B1.out.size)
  clear hb B1 G1
  go_wp2
  go_ret2
  exact ⟨rfl, B2.out⟩
set_option maxRecDepth 100000 in
set_option maxHeartbeats 1000000 in
theorem near_some {s : Int} {g n f T : Nat} {L : Int} (hz : Fz s g n f T L) {m : Nat} {e : Int} (c : Bool) (more : Bool) (hm : m < 18446744073709551616) (h0 : -4398046511104 ≤ e) (h1 : e ≤ 4398046511104) {b : Nat} (k0 : dpK m (dpD f L m e).toNat more ≠ 0) (hp : pk f (T : Int) L (dpK m (dpD f L m e).toNat more) (e + dpD f L m e) = some b) (w : World) (hT : Tab w) : Calls Tryd.prog 35 #[.agg #[.int .i64 s, .int .i64 ((f : Int) + 1), .int .i64 L], .bool c, .int .u64 (m : Int), .int .i64 e, .bool more] w fun e w' => e = .returned (.tuple #[.int .u64 ((sgd g c b : Nat) : Int), .nilIface]) ∧ Below w.heap.size w w' := by
  have HL := fun W => len64_any (m : Int) ⟨by omega, by omega⟩ W
  rw [show blen (m : Int) = (ln m : Int) from blen_ln m hm] at HL
  have hf : f ≤ 52 := by rcases hz with ⟨_, _, _, h, _⟩ | ⟨_, _, _, h, _⟩ <;> omega
  have hL : -1074 ≤ L ∧ L ≤ 0 := by rcases hz with ⟨_, _, _, _, _, h⟩ | ⟨_, _, _, _, _, h⟩ <;> omega
  have hl : ln m ≤ 64 := (ln_iff m 64).2 (by omega)
  obtain ⟨D, hD⟩ : ∃ D : Nat, (dpD f L m e).toNat = D := ⟨_, rfl⟩
  have hD' : dpD f L m e = (D : Int) := by rw [← hD]; unfold dpD; omega
  have hD2 : D < 9223372036854775808 := by rw [← hD]; unfold dpD; omega
  have HD := fun W => dropped_any hm hD2 more W
  have E : (if (if 0 < IntKind.i64.wrap ((ln m : Int) - ((f : Int) + 1)) then IntKind.i64.wrap ((ln m : Int) - ((f : Int) + 1)) else 0) < IntKind.i64.wrap (L - e) then IntKind.i64.wrap (L - e) else if 0 < IntKind.i64.wrap ((ln m : Int) - ((f : Int) + 1)) then IntKind.i64.wrap ((ln m : Int) - ((f : Int) + 1)) else 0) = (D : Int) := by
    rw [IntWalk.i64_in ((ln m : Int) - ((f : Int) + 1)) ⟨by omega, by omega⟩, IntWalk.i64_in (L - e) ⟨by omega, by omega⟩, ← hD']
    unfold dpD
    split <;> split <;> omega
  rw [hD] at k0
  rw [hD, hD'] at hp
  have kl : dpK m D more < 18446744073709551616 := dpK_lt hm
  have HP : ∀ W, Tab W → Calls Tryd.prog 67 #[.agg #[.bool c, .int .i64 2, .int .u64 ((dpK m D more : Nat) : Int), .int .i64 (e + (D : Int))], .int .i64 s] W fun e w' => e = .returned (.tuple #[.int .u64 ((sgd g c b : Nat) : Int), .nilIface]) ∧ Below W.heap.size W w' := fun W hW => by
    have h := pack_z (p := e + (D : Int)) hz c kl k0 (by omega) W hW
    rw [hp] at h
    exact h
  have q0 : (((dpK m D more : Nat) : Int) == 0) = false := by simp; omega
  have ei : -9223372036854775808 ≤ e + (D : Int) ∧ e + (D : Int) < 9223372036854775808 := by rw [← hD']; unfold dpD; omega
  obtain ⟨ei1, ei2⟩ := ei
  have HT : Hid (Tab w) := hT
  generalize sgd g c b = y at *
  have HE : Hid _ := E
  clear E hD hD' hD2 hL hl hf hz kl k0 hp hT
  generalize ln m = l at *
  generalize dpK m D more = k at *
  go_enter Tryd.func35, Tryd.ntmps35
  go_upto_region 1 with fail
  go_region_held3 (fun w' => w'.cell? ⟨w.heap.size, 0, none⟩ = some (.int .i64 s) ∧ w'.cell? ⟨w.heap.size, 1, none⟩ = some (.int .i64 ((f : Int) + 1)) ∧ w'.cell? ⟨w.heap.size, 2, none⟩ = some (.int .i64 L)) (simp [*, go_sem])
    (first
      | (go_at_call 60; refine (HL _).mono ?_; rintro x1 w2 ⟨rfl, hh⟩; subst hh))
  rw [HE.out]
  clear HE
  have B0 : Hid (Below w.heap.size w (w.alloc (.cells #[.int .i64 s, .int .i64 ((f : Int) + 1), .int .i64 L] 64)).drew) := ((Below.refl _ _).alloc (Nat.le_refl _) _).drew
  have G0 : Hid (GrB (w.alloc (.cells #[.int .i64 s, .int .i64 ((f : Int) + 1), .int .i64 L] 64)).drew w.heap.size _ _ _) := (GrB.new w _ _ _ _).step (Below.refl _ _).drew
  generalize (w.alloc (.cells #[.int .i64 s, .int .i64 ((f : Int) + 1), .int .i64 L] 64)).drew = v at *
  go_wp2_with fail
  refine (HD _).mono ?_
  rintro e w1 ⟨rfl, hb⟩
  have B1 : Hid (Below w.heap.size w w1) := B0.out.trans (hb.mono B0.out.size)
  have G1 : Hid (GrB w1 w.heap.size _ _ _) := G0.out.step hb
  clear hb B0 G0
  obtain ⟨_, a0, a1, a2, _, _, _⟩ := G1.out
  go_wp2_with fail
  refine (HP _ (HT.out.below B1.out HT.out.pos)).mono ?_
  rintro e w2 ⟨rfl, hb⟩
  have B2 : Hid (Below w.heap.size w w2) := B1.out.trans (hb.mono B1.out.size)
  clear hb B1 G1
  go_wp2
  go_ret2
  exact ⟨rfl, B2.out⟩
set_option maxRecDepth 100000 in
set_option maxHeartbeats 1000000 in
theorem near_none {s : Int} {g n f T : Nat} {L : Int} (hz : Fz s g n f T L) {m : Nat} {e : Int} (c : Bool) (more : Bool) (hm : m < 18446744073709551616) (h0 : -4398046511104 ≤ e) (h1 : e ≤ 4398046511104) (k0 : dpK m (dpD f L m e).toNat more ≠ 0) (hp : pk f (T : Int) L (dpK m (dpD f L m e).toNat more) (e + dpD f L m e) = none) (w : World) (hT : Tab w) : Calls Tryd.prog 35 #[.agg #[.int .i64 s, .int .i64 ((f : Int) + 1), .int .i64 L], .bool c, .int .u64 (m : Int), .int .i64 e, .bool more] w fun e w' => e = .returned (.tuple #[.int .u64 ((sgd g c (T * 2 ^ f) : Nat) : Int), .iface 76 (.int .i64 4)]) ∧ Below w.heap.size w w' := by
  have HL := fun W => len64_any (m : Int) ⟨by omega, by omega⟩ W
  rw [show blen (m : Int) = (ln m : Int) from blen_ln m hm] at HL
  have hf : f ≤ 52 := by rcases hz with ⟨_, _, _, h, _⟩ | ⟨_, _, _, h, _⟩ <;> omega
  have hL : -1074 ≤ L ∧ L ≤ 0 := by rcases hz with ⟨_, _, _, _, _, h⟩ | ⟨_, _, _, _, _, h⟩ <;> omega
  have hl : ln m ≤ 64 := (ln_iff m 64).2 (by omega)
  obtain ⟨D, hD⟩ : ∃ D : Nat, (dpD f L m e).toNat = D := ⟨_, rfl⟩
  have hD' : dpD f L m e = (D : Int) := by rw [← hD]; unfold dpD; omega
  have hD2 : D < 9223372036854775808 := by rw [← hD]; unfold dpD; omega
  have HD := fun W => dropped_any hm hD2 more W
  have E : (if (if 0 < IntKind.i64.wrap ((ln m : Int) - ((f : Int) + 1)) then IntKind.i64.wrap ((ln m : Int) - ((f : Int) + 1)) else 0) < IntKind.i64.wrap (L - e) then IntKind.i64.wrap (L - e) else if 0 < IntKind.i64.wrap ((ln m : Int) - ((f : Int) + 1)) then IntKind.i64.wrap ((ln m : Int) - ((f : Int) + 1)) else 0) = (D : Int) := by
    rw [IntWalk.i64_in ((ln m : Int) - ((f : Int) + 1)) ⟨by omega, by omega⟩, IntWalk.i64_in (L - e) ⟨by omega, by omega⟩, ← hD']
    unfold dpD
    split <;> split <;> omega
  rw [hD] at k0
  rw [hD, hD'] at hp
  have kl : dpK m D more < 18446744073709551616 := dpK_lt hm
  have HP : ∀ W, Tab W → Calls Tryd.prog 67 #[.agg #[.bool c, .int .i64 2, .int .u64 ((dpK m D more : Nat) : Int), .int .i64 (e + (D : Int))], .int .i64 s] W fun e w' => e = .returned (.tuple #[.int .u64 0, .iface 76 (.int .i64 4)]) ∧ Below W.heap.size W w' := fun W hW => by
    have h := pack_z (p := e + (D : Int)) hz c kl k0 (by omega) W hW
    rw [hp] at h
    exact h
  have HI := fun W => inf_z hz c W
  have q0 : (((dpK m D more : Nat) : Int) == 0) = false := by simp; omega
  have ei : -9223372036854775808 ≤ e + (D : Int) ∧ e + (D : Int) < 9223372036854775808 := by rw [← hD']; unfold dpD; omega
  obtain ⟨ei1, ei2⟩ := ei
  have HT : Hid (Tab w) := hT
  generalize sgd g c (T * 2 ^ f) = y at *
  have HE : Hid _ := E
  clear E hD hD' hD2 hL hl hf hz kl k0 hp hT
  generalize ln m = l at *
  generalize dpK m D more = k at *
  go_enter Tryd.func35, Tryd.ntmps35
  go_upto_region 1 with fail
  go_region_held3 (fun w' => w'.cell? ⟨w.heap.size, 0, none⟩ = some (.int .i64 s) ∧ w'.cell? ⟨w.heap.size, 1, none⟩ = some (.int .i64 ((f : Int) + 1)) ∧ w'.cell? ⟨w.heap.size, 2, none⟩ = some (.int .i64 L)) (simp [*, go_sem])
    (first
      | (go_at_call 60; refine (HL _).mono ?_; rintro x1 w2 ⟨rfl, hh⟩; subst hh))
  rw [HE.out]
  clear HE
  have B0 : Hid (Below w.heap.size w (w.alloc (.cells #[.int .i64 s, .int .i64 ((f : Int) + 1), .int .i64 L] 64)).drew) := ((Below.refl _ _).alloc (Nat.le_refl _) _).drew
  have G0 : Hid (GrB (w.alloc (.cells #[.int .i64 s, .int .i64 ((f : Int) + 1), .int .i64 L] 64)).drew w.heap.size _ _ _) := (GrB.new w _ _ _ _).step (Below.refl _ _).drew
  generalize (w.alloc (.cells #[.int .i64 s, .int .i64 ((f : Int) + 1), .int .i64 L] 64)).drew = v at *
  go_wp2_with fail
  refine (HD _).mono ?_
  rintro e w1 ⟨rfl, hb⟩
  have B1 : Hid (Below w.heap.size w w1) := B0.out.trans (hb.mono B0.out.size)
  have G1 : Hid (GrB w1 w.heap.size _ _ _) := G0.out.step hb
  clear hb B0 G0
  obtain ⟨_, a0, a1, a2, _, _, _⟩ := G1.out
  go_wp2_with fail
  refine (HP _ (HT.out.below B1.out HT.out.pos)).mono ?_
  rintro e w2 ⟨rfl, hb⟩
  have B2 : Hid (Below w.heap.size w w2) := B1.out.trans (hb.mono B1.out.size)
  have G2 : Hid (GrB w2 w.heap.size _ _ _) := G1.out.step hb
  clear hb B1 G1 a0 a1 a2
  obtain ⟨_, a0, a1, a2, _, _, _⟩ := G2.out
  go_wp2_with fail
  refine (HI _).mono ?_
  rintro e w3 ⟨rfl, hb⟩
  have B3 : Hid (Below w.heap.size w w3) := B2.out.trans (hb.mono B2.out.size)
  clear hb B2 G2
  go_wp2
  go_ret2
  exact ⟨rfl, B3.out⟩
theorem near_any {s : Int} {g n f T : Nat} {L : Int} (hz : Fz s g n f T L) {m : Nat} {e : Int} (c : Bool) (more : Bool) (hm : m < 18446744073709551616) (h0 : -4398046511104 ≤ e) (h1 : e ≤ 4398046511104) (w : World) (hT : Tab w) : Calls Tryd.prog 35 #[.agg #[.int .i64 s, .int .i64 ((f : Int) + 1), .int .i64 L], .bool c, .int .u64 (m : Int), .int .i64 e, .bool more] w fun x w' => x = .returned (anV g c (ndA f T L m e more)) ∧ Below w.heap.size w w' := by
  unfold ndA
  by_cases k0 : dpK m (dpD f L m e).toNat more = 0
  · rw [if_pos k0]
    exact near_zero hz c more hm h0 h1 k0 w
  · rw [if_neg k0]
    cases hp : pk f (T : Int) L (dpK m (dpD f L m e).toNat more) (e + dpD f L m e) with
    | none => exact near_none hz c more hm h0 h1 k0 hp w hT
    | some b => exact near_some hz c more hm h0 h1 k0 hp w hT
end Go.Proofs.YtealnajogkeckaaDoor
