/-
  What finite and fraction of round answer.
-/
import Derived.Test.YtealnajogkeckaaDoorRnD
import Derived.Test.YtealnajogkeckaaDoorRnC
import Derived.Deep.DeepCutAuto
namespace Go.Proofs.YtealnajogkeckaaDoor
open Go.RowKit

theorem unp_z {s : Int} {g n f T : Nat} {L : Int} (h : Fz s g n f T L) {b : Nat} (hb : b < 2 * g) (w : World) : Calls Tryd.prog 59 #[.int .u64 (b : Int), .int .i64 s] w fun e w' => e = .returned (.tuple #[.agg #[.bool (uN g n b), .int .i64 (cl n (mg g b)), .int .u64 ((uM n f (mg g b) : Nat) : Int), .int .i64 (uE n f L (mg g b))], .nilIface]) ∧ Below w.heap.size w w' := by
  rcases h with ⟨rfl, rfl, rfl, rfl, rfl, rfl⟩ | ⟨rfl, rfl, rfl, rfl, rfl, rfl⟩
  · exact unp_32 hb w
  · exact unp_64 hb w
set_option maxRecDepth 100000 in
set_option maxHeartbeats 1000000 in
theorem finite_err {s b : Int} {k : Int} {w : World} (H : ∀ W, Calls Tryd.prog 59 #[.int .u64 b, .int .i64 s] W fun e w' => e = .returned (.tuple #[.agg #[.bool false, .int .i64 0, .int .u64 0, .int .i64 0], .iface 76 (.int .i64 k)]) ∧ Below W.heap.size W w') : Calls Tryd.prog 39 #[.int .u64 b, .int .i64 s] w fun e w' => e = .returned (.tuple #[.agg #[.bool false, .int .i64 0, .int .u64 0, .int .i64 0], .iface 76 (.int .i64 k)]) ∧ Below w.heap.size w w' := by
  go_enter Tryd.func39, Tryd.ntmps39
  go_wp2_with fail
  refine (H _).mono ?_
  rintro e w1 ⟨rfl, hb⟩
  have X1 : Hid (FlB w1 w.heap.size _ _ _ _) := (FlB.new w (.bool false) (.int .i64 0) (.int .u64 0) (.int .i64 0) 80).step hb
  have B1 : Hid (Below w.heap.size w w1) := ((Below.refl _ _).alloc (Nat.le_refl _) _).trans (hb.mono (by simp))
  clear hb
  obtain ⟨l, a0, a1, a2, a3, f0, f1, f2, f3⟩ := X1.out
  go_wp2
  exact bodyPost_ret (v := .tuple #[.agg #[.bool false, .int .i64 0, .int .u64 0, .int .i64 0], .iface 76 (.int .i64 k)]) (by simp [results, Tryd.results39, go_sem, World.cell?_setCell_same, World.cell?_setCell_other, World.cell?_alloc_lt, *]) rfl ⟨rfl, ((((B1.out.setCell (Nat.le_refl _) _).setCell (Nat.le_refl _) _).setCell (Nat.le_refl _) _).setCell (Nat.le_refl _) _).alloc (by simp; omega) _⟩
set_option maxRecDepth 100000 in
set_option maxHeartbeats 1000000 in
theorem finite_no {s b : Int} {x0 : Bool} {k x2 x3 : Int} {w : World} (k1 : (k == 1) = false) (k2 : (k == 2) = false) (H : ∀ W, Calls Tryd.prog 59 #[.int .u64 b, .int .i64 s] W fun e w' => e = .returned (.tuple #[.agg #[.bool x0, .int .i64 k, .int .u64 x2, .int .i64 x3], .nilIface]) ∧ Below W.heap.size W w') : Calls Tryd.prog 39 #[.int .u64 b, .int .i64 s] w fun e w' => e = .returned (.tuple #[.agg #[.bool false, .int .i64 0, .int .u64 0, .int .i64 0], .iface 76 (.int .i64 1)]) ∧ Below w.heap.size w w' := by
  go_enter Tryd.func39, Tryd.ntmps39
  go_wp2_with fail
  refine (H _).mono ?_
  rintro e w1 ⟨rfl, hb⟩
  have X1 : Hid (FlB w1 w.heap.size _ _ _ _) := (FlB.new w (.bool false) (.int .i64 0) (.int .u64 0) (.int .i64 0) 80).step hb
  have B1 : Hid (Below w.heap.size w w1) := ((Below.refl _ _).alloc (Nat.le_refl _) _).trans (hb.mono (by simp))
  clear hb
  obtain ⟨l, a0, a1, a2, a3, f0, f1, f2, f3⟩ := X1.out
  go_wp2
  exact bodyPost_ret (v := .tuple #[.agg #[.bool false, .int .i64 0, .int .u64 0, .int .i64 0], .iface 76 (.int .i64 1)]) (by simp [results, Tryd.results39, go_sem, World.cell?_setCell_same, World.cell?_setCell_other, World.cell?_alloc_lt, *]) rfl ⟨rfl, ((((B1.out.setCell (Nat.le_refl _) _).setCell (Nat.le_refl _) _).setCell (Nat.le_refl _) _).setCell (Nat.le_refl _) _).alloc (by simp; omega) _⟩
set_option maxRecDepth 100000 in
set_option maxHeartbeats 1000000 in
theorem finite_fine {s b : Int} {x0 : Bool} {x2 x3 : Int} {w : World} (H : ∀ W, Calls Tryd.prog 59 #[.int .u64 b, .int .i64 s] W fun e w' => e = .returned (.tuple #[.agg #[.bool x0, .int .i64 2, .int .u64 x2, .int .i64 x3], .nilIface]) ∧ Below W.heap.size W w') : Calls Tryd.prog 39 #[.int .u64 b, .int .i64 s] w fun e w' => e = .returned (.tuple #[.agg #[.bool x0, .int .i64 2, .int .u64 x2, .int .i64 x3], .nilIface]) ∧ Below w.heap.size w w' := by
  go_enter Tryd.func39, Tryd.ntmps39
  go_wp2_with fail
  refine (H _).mono ?_
  rintro e w1 ⟨rfl, hb⟩
  have X1 : Hid (FlB w1 w.heap.size _ _ _ _) := (FlB.new w (.bool false) (.int .i64 0) (.int .u64 0) (.int .i64 0) 80).step hb
  have B1 : Hid (Below w.heap.size w w1) := ((Below.refl _ _).alloc (Nat.le_refl _) _).trans (hb.mono (by simp))
  clear hb
  obtain ⟨l, a0, a1, a2, a3, f0, f1, f2, f3⟩ := X1.out
  go_wp2
  exact bodyPost_ret (v := .tuple #[.agg #[.bool x0, .int .i64 2, .int .u64 x2, .int .i64 x3], .nilIface]) (by simp [results, Tryd.results39, go_sem, World.cell?_setCell_same, World.cell?_setCell_other, World.cell?_alloc_lt, *]) rfl ⟨rfl, ((((B1.out.setCell (Nat.le_refl _) _).setCell (Nat.le_refl _) _).setCell (Nat.le_refl _) _).setCell (Nat.le_refl _) _).alloc (by simp; omega) _⟩
set_option maxRecDepth 100000 in
set_option maxHeartbeats 1000000 in
theorem finite_zero {s : Int} {g n f T : Nat} {L : Int} (hz : Fz s g n f T L) {b : Int} {x0 : Bool} {x2 x3 : Int} {w : World} (H : ∀ W, Calls Tryd.prog 59 #[.int .u64 b, .int .i64 s] W fun e w' => e = .returned (.tuple #[.agg #[.bool x0, .int .i64 1, .int .u64 x2, .int .i64 x3], .nilIface]) ∧ Below W.heap.size W w') : Calls Tryd.prog 39 #[.int .u64 b, .int .i64 s] w fun e w' => e = .returned (.tuple #[.agg #[.bool x0, .int .i64 1, .int .u64 x2, .int .i64 L], .nilIface]) ∧ Below w.heap.size w w' := by
  have HG := fun W => gridOf_z hz W
  clear hz
  go_enter Tryd.func39, Tryd.ntmps39
  go_wp2_with fail
  refine (H _).mono ?_
  rintro e w1 ⟨rfl, hb⟩
  have X1 : Hid (FlB w1 w.heap.size _ _ _ _) := (FlB.new w (.bool false) (.int .i64 0) (.int .u64 0) (.int .i64 0) 80).step hb
  have B1 : Hid (Below w.heap.size w w1) := ((Below.refl _ _).alloc (Nat.le_refl _) _).trans (hb.mono (by simp))
  clear hb
  go_wp2_with fail
  refine (HG _).mono ?_
  rintro e w2 ⟨rfl, hb⟩
  have X2 : Hid (FlB w2 w.heap.size _ _ _ _) := (X1.out.al _).step hb
  have Y2 : Hid (FlB w2 w1.heap.size _ _ _ _) := (FlB.new w1 _ _ _ _ _).step hb
  have B2 : Hid (Below w.heap.size w w2) := (B1.out.alloc B1.out.size _).trans (hb.mono (by have := B1.out.size; simp; omega))
  have s12 : w.heap.size < w1.heap.size := X1.out.lt
  have X3 : Hid (FlB (w2.alloc (.cells #[.int .i64 s, .int .i64 ((f : Int) + 1), .int .i64 L] 64)) w.heap.size _ _ _ _) := X2.out.al _
  have Y3 : Hid (FlB (w2.alloc (.cells #[.int .i64 s, .int .i64 ((f : Int) + 1), .int .i64 L] 64)) w1.heap.size _ _ _ _) := Y2.out.al _
  have s23 : w1.heap.size < w2.heap.size := Y2.out.lt
  have B3 : Hid (Below w.heap.size w (w2.alloc (.cells #[.int .i64 s, .int .i64 ((f : Int) + 1), .int .i64 L] 64))) := B2.out.alloc B2.out.size _
  clear hb X1 B1 X2 Y2 B2
  have Z3 : Hid (GrB (w2.alloc (.cells #[.int .i64 s, .int .i64 ((f : Int) + 1), .int .i64 L] 64)) w2.heap.size _ _ _) := GrB.new w2 _ _ _ _
  go_upto_region 8 with fail
  generalize w2.alloc (.cells #[.int .i64 s, .int .i64 ((f : Int) + 1), .int .i64 L] 64) = v at *
  have n1 : w.heap.size ≠ w1.heap.size := by omega
  have n2 : w1.heap.size ≠ w.heap.size := by omega
  obtain ⟨_, a0, a1, a2, a3, f0, f1, f2, f3⟩ := X3.out
  obtain ⟨_, c0, c1, c2, c3, g0, g1, g2, g3⟩ := Y3.out
  obtain ⟨_, _, _, z2, _, _, _⟩ := Z3.out
  go_wp2
  exact bodyPost_ret (v := .tuple #[.agg #[.bool x0, .int .i64 1, .int .u64 x2, .int .i64 L], .nilIface]) (by simp [results, Tryd.results39, go_sem, World.cell?_setCell_same, World.cell?_setCell_other, *]) rfl ⟨rfl, (((((B3.out.setCell (by show w.heap.size ≤ w1.heap.size; omega) _).setCell (Nat.le_refl _) _).setCell (Nat.le_refl _) _).setCell (Nat.le_refl _) _).setCell (Nat.le_refl _) _)⟩
theorem fin_yes {s : Int} {g n f T : Nat} {L : Int} (hz : Fz s g n f T L) {b : Nat} (hb : b < 2 * g) (hm : mg g b < n) (w : World) : Calls Tryd.prog 39 #[.int .u64 (b : Int), .int .i64 s] w fun e w' => e = .returned (.tuple #[.agg #[.bool (ng g b), .int .i64 (cl n (mg g b)), .int .u64 ((mt f (mg g b) : Nat) : Int), .int .i64 (xp f L (mg g b))], .nilIface]) ∧ Below w.heap.size w w' := by
  have H := fun W => unp_z hz hb W
  unfold uN uM uE at H
  rcases cl_cases n (mg g b) with ⟨q, k⟩ | ⟨_, _, k⟩ | ⟨_, q, k⟩ | ⟨q, k⟩
  · rw [k] at H ⊢
    rw [if_neg (by decide), if_neg (by decide), if_neg (by decide)] at H
    have e1 : mt f (mg g b) = 0 := by rw [q]; unfold mt; rw [if_pos (Nat.zero_div _)]
    have e2 : xp f L (mg g b) = L := by rw [q]; unfold xp; rw [if_pos (Nat.zero_div _)]
    rw [e1, e2]
    exact finite_zero hz H
  · rw [k] at H ⊢
    rw [if_neg (by decide), if_pos rfl, if_pos rfl] at H
    exact finite_fine H
  · omega
  · omega
theorem fin_no {s : Int} {g n f T : Nat} {L : Int} (hz : Fz s g n f T L) {b : Nat} (hb : b < 2 * g) (hm : ¬ mg g b < n) (w : World) : Calls Tryd.prog 39 #[.int .u64 (b : Int), .int .i64 s] w fun e w' => e = .returned (.tuple #[.agg #[.bool false, .int .i64 0, .int .u64 0, .int .i64 0], .iface 76 (.int .i64 1)]) ∧ Below w.heap.size w w' := by
  have H := fun W => unp_z hz hb W
  rcases cl_cases n (mg g b) with ⟨q, k⟩ | ⟨_, _, k⟩ | ⟨_, q, k⟩ | ⟨q, k⟩
  · rw [q] at hm
    have : 0 < n := by rcases hz with ⟨_, _, h, _⟩ | ⟨_, _, h, _⟩ <;> omega
    omega
  · omega
  · rw [k] at H
    exact finite_no (by decide) (by decide) H
  · rw [k] at H
    exact finite_no (by decide) (by decide) H
theorem fin_size {s : Int} (h : Sn s) (b : Int) (w : World) : Calls Tryd.prog 39 #[.int .u64 b, .int .i64 s] w fun e w' => e = .returned (.tuple #[.agg #[.bool false, .int .i64 0, .int .u64 0, .int .i64 0], .iface 76 (.int .i64 5)]) ∧ Below w.heap.size w w' := finite_err fun W => unp_no h b W
theorem fin_big {b : Nat} (h : 4294967296 ≤ b) (w : World) : Calls Tryd.prog 39 #[.int .u64 (b : Int), .int .i64 32] w fun e w' => e = .returned (.tuple #[.agg #[.bool false, .int .i64 0, .int .u64 0, .int .i64 0], .iface 76 (.int .i64 1)]) ∧ Below w.heap.size w w' := finite_err fun W => unp_big h W
/-- The shifts of a float's fraction. -/
def FrP (z : Nat) (e : Int) (t a b : Nat) : Prop := (t : Int) = max 0 (min (z : Int) (-e)) ∧ (a : Int) = max 0 e ∧ (b : Int) = max 0 (-e - (t : Int))
set_option maxRecDepth 100000 in
set_option maxHeartbeats 1000000 in
theorem frac_zero (e : Int) (w : World) : Calls Tryd.prog 40 #[.int .u64 0, .int .i64 e] w fun x w' => ∃ v2, x = .returned (.tuple #[.slice none 0 0, v2]) ∧ NatV w' v2 1 ∧ Below w.heap.size w w' := by
  have H := fun W => of_any 1 (by unfold B; decide) W
  go_enter Tryd.func40, Tryd.ntmps40
  go_wp2_with fail
  refine (H _).mono ?_
  rintro x w1 ⟨v, rfl, n1, b1⟩
  have N1 : Hid (NatV w1 v 1 ∧ Below w.heap.size w w1) := ⟨n1, b1⟩
  clear n1 b1
  go_wp2
  go_ret2
  exact ⟨v, rfl, N1.out.1, N1.out.2⟩
set_option maxRecDepth 100000 in
set_option maxHeartbeats 1000000 in
theorem frac_some {m : Nat} {e : Int} (hm : m < 18446744073709551616) (m0 : m ≠ 0) (h0 : -1100 ≤ e) (h1 : e ≤ 1000) (w : World) (hT : Tab w) : Calls Tryd.prog 40 #[.int .u64 (m : Int), .int .i64 e] w fun x w' => ∃ (v1 v2 : Value) (t a b : Nat), x = .returned (.tuple #[v1, v2]) ∧ NatV w' v1 (m / 2 ^ t * 2 ^ a) ∧ NatV w' v2 (1 * 2 ^ b) ∧ FrP (Lib.ctz 64 m) e t a b ∧ Below w.heap.size w w' := by
  have HZ := tz64_any (m : Int) ⟨by omega, by omega⟩ w hT
  have z1 : Lib.ctz 64 m < 64 := by
    obtain ⟨_, _, z1⟩ := ctz_odd m0 hm
    exact z1
  obtain ⟨z, hz⟩ : ∃ z, z = Lib.ctz 64 m := ⟨_, rfl⟩
  rw [← hz] at z1
  have hz' : ctzW (m : Int) = (z : Int) := by unfold ctzW; rw [Int.toNat_natCast, hz]
  rw [hz'] at HZ
  rw [← hz]
  have n0 : ((m : Int) == 0) = false := by simp; omega
  clear hz hz' m0 hT
  go_enter Tryd.func40, Tryd.ntmps40
  go_upto_region 3 with fail
  go_cut [6] (fun s wx => wx = w ∧ ∃ t : Nat, s = .int .i64 (t : Int) ∧ (t : Int) = max 0 (min (z : Int) (-e)))
  case first =>
    go_wp2_with fail
    refine HZ.mono ?_
    rintro x w1 ⟨rfl, rfl⟩
    clear HZ
    go_wp2
    all_goals go_meet
    all_goals first
      | (refine ⟨rfl, 0, rfl, ?_⟩; omega)
      | (refine ⟨rfl, z, rfl, ?_⟩; omega)
      | (refine ⟨rfl, (-e).toNat, by rw [Int.toNat_of_nonneg (by omega)], ?_⟩; omega)
  case rest =>
  clear HZ
  obtain ⟨hcw, t, rfl, ht⟩ := hcut
  subst wc
  have t63 : t ≤ 63 := by omega
  have HT : Hid ((t : Int) = max 0 (min (z : Int) (-e))) := ht
  clear ht
  have k1 : m / 2 ^ t < 18446744073709551616 := Nat.lt_of_le_of_lt (Nat.div_le_self _ _) hm
  have HO := fun W => of_any (m / 2 ^ t) k1 W
  have es : (m : Int) / 2 ^ t = ((m / 2 ^ t : Nat) : Int) := by push_cast; rfl
  have HS : Hid ((m : Int) / 2 ^ t = ((m / 2 ^ t : Nat) : Int)) := es
  have HK : Hid (bl (m / 2 ^ t) ≤ 64) := bl_mono_le k1
  have H1 : Hid (bl 1 ≤ 64) := (by decide : bl 1 ≤ 64)
  have HO1 : ∀ W, Calls Tryd.prog 24 #[.int .u64 1] W fun e w' => ∃ v, e = .returned v ∧ NatV w' v 1 ∧ Below W.heap.size W w' := fun W => of_any 1 (by unfold B; decide) W
  clear k1 es
  go_upto_region 4 with fail
  go_cut [7, 8] (fun u v wx => v = .nilIface ∧ ∃ a : Nat, NatV wx u (m / 2 ^ t * 2 ^ a) ∧ Below w.heap.size w wx ∧ (a : Int) = max 0 (e))
  case first =>
    by_cases c : 0 < e
    · obtain ⟨a, ha⟩ : ∃ a : Nat, (a : Int) = e := ⟨(e).toNat, by omega⟩
      have h8 : a ≤ 8192 := by omega
      have e0 : Hid (bl (m / 2 ^ t) + a ≤ 64 * 128) := (by have := HK.out; omega : bl (m / 2 ^ t) + a ≤ 64 * 128)
      have HA : Hid ((a : Int) = e) := ha
      clear ha
      go_wp2_with fail
      all_goals first | (exfalso; omega) | skip
      rw [HS.out]
      refine (HO _).mono ?_
      rintro x wa ⟨va, rfl, na, ba⟩
      have T := shl_ok na a (pow_fit e0.out) (by omega)
      have N1 : Hid (Below w.heap.size w wa) := ba
      clear na ba
      rw [HA.out] at T
      go_wp2_with fail
      all_goals first | (exfalso; omega) | skip
      refine T.mono ?_
      rintro x wb ⟨vb, rfl, nb, bb⟩
      have N2 : Hid (NatV wb vb (m / 2 ^ t * 2 ^ a) ∧ Below w.heap.size w wb) := ⟨nb, N1.out.trans (bb.mono N1.out.size)⟩
      clear nb bb T N1
      go_wp2
      go_meet
      exact ⟨rfl, a, N2.out.1, N2.out.2, by have := HA.out; omega⟩
    · have e0 : Hid (bl (m / 2 ^ t) + 0 ≤ 64 * 128) := (by have := HK.out; omega : bl (m / 2 ^ t) + 0 ≤ 64 * 128)
      go_wp2_with fail
      all_goals first | (exfalso; omega) | skip
      rw [HS.out]
      refine (HO _).mono ?_
      rintro x wa ⟨va, rfl, na, ba⟩
      have T := shl_ok na 0 (pow_fit e0.out) (by omega)
      have N1 : Hid (Below w.heap.size w wa) := ba
      clear na ba
      rw [show ((0 : Nat) : Int) = 0 from rfl] at T
      go_wp2_with fail
      all_goals first | (exfalso; omega) | skip
      refine T.mono ?_
      rintro x wb ⟨vb, rfl, nb, bb⟩
      have N2 : Hid (NatV wb vb (m / 2 ^ t * 2 ^ 0) ∧ Below w.heap.size w wb) := ⟨nb, N1.out.trans (bb.mono N1.out.size)⟩
      clear nb bb T N1
      go_wp2
      go_meet
      exact ⟨rfl, 0, N2.out.1, N2.out.2, by omega⟩
  case rest =>
  obtain ⟨rfl, a, na, ba, ha⟩ := hcut
  have N3 : Hid (NatV wc u7 (m / 2 ^ t * 2 ^ a) ∧ Below w.heap.size w wc ∧ (a : Int) = max 0 e) := ⟨na, ba, ha⟩
  clear na ba ha HO HS
  go_upto_region 5 with fail
  go_cut [9, 10] (fun u v wx => v = .nilIface ∧ ∃ b : Nat, NatV wx u (1 * 2 ^ b) ∧ Below w.heap.size w wx ∧ NatV wx u7 (m / 2 ^ t * 2 ^ a) ∧ (b : Int) = max 0 (-e - (t : Int)))
  case first =>
    by_cases c : 0 < -e - (t : Int)
    · obtain ⟨b, hb⟩ : ∃ b : Nat, (b : Int) = -e - (t : Int) := ⟨(-e - (t : Int)).toNat, by omega⟩
      have h8 : b ≤ 8192 := by omega
      have e0 : Hid (bl (1) + b ≤ 64 * 128) := (by have := H1.out; omega : bl (1) + b ≤ 64 * 128)
      have HA : Hid ((b : Int) = -e - (t : Int)) := hb
      clear hb
      go_wp2_with fail
      all_goals first | (exfalso; omega) | skip
      skip
      refine (HO1 _).mono ?_
      rintro x wa ⟨va, rfl, na, ba⟩
      have T := shl_ok na b (pow_fit e0.out) (by omega)
      have N1 : Hid (Below wc.heap.size wc wa) := ba
      clear na ba
      rw [HA.out] at T
      go_wp2_with fail
      all_goals first | (exfalso; omega) | skip
      refine T.mono ?_
      rintro x wb ⟨vb, rfl, nb, bb⟩
      have N2 : Hid (NatV wb vb (1 * 2 ^ b) ∧ Below wc.heap.size wc wb) := ⟨nb, N1.out.trans (bb.mono N1.out.size)⟩
      clear nb bb T N1
      go_wp2
      go_meet
      exact ⟨rfl, b, N2.out.1, N3.out.2.1.trans (N2.out.2.mono N3.out.2.1.size), N3.out.1.below N2.out.2, by have := HA.out; omega⟩
    · have e0 : Hid (bl (1) + 0 ≤ 64 * 128) := (by have := H1.out; omega : bl (1) + 0 ≤ 64 * 128)
      go_wp2_with fail
      all_goals first | (exfalso; omega) | skip
      skip
      refine (HO1 _).mono ?_
      rintro x wa ⟨va, rfl, na, ba⟩
      have T := shl_ok na 0 (pow_fit e0.out) (by omega)
      have N1 : Hid (Below wc.heap.size wc wa) := ba
      clear na ba
      rw [show ((0 : Nat) : Int) = 0 from rfl] at T
      go_wp2_with fail
      all_goals first | (exfalso; omega) | skip
      refine T.mono ?_
      rintro x wb ⟨vb, rfl, nb, bb⟩
      have N2 : Hid (NatV wb vb (1 * 2 ^ 0) ∧ Below wc.heap.size wc wb) := ⟨nb, N1.out.trans (bb.mono N1.out.size)⟩
      clear nb bb T N1
      go_wp2
      go_meet
      exact ⟨rfl, 0, N2.out.1, N3.out.2.1.trans (N2.out.2.mono N3.out.2.1.size), N3.out.1.below N2.out.2, by omega⟩
  case rest =>
  obtain ⟨rfl, b, nb, bb, nb2, hb⟩ := hcut
  have N4 : Hid (NatV wc u7 (m / 2 ^ t * 2 ^ a) ∧ NatV wc u9 (1 * 2 ^ b) ∧ FrP z e t a b ∧ Below w.heap.size w wc) := ⟨nb2, nb, ⟨HT.out, N3.out.2.2, hb⟩, bb⟩
  clear nb bb nb2 hb N3
  go_wp2
  go_ret2
  exact ⟨u7, u9, t, a, b, rfl, N4.out.1, N4.out.2.1, N4.out.2.2.1, N4.out.2.2.2⟩
end Go.Proofs.YtealnajogkeckaaDoor
