/-
  What the calls of wide.Right (where the table of math/bits lies as the program's text lays it) and of the document's Lead and Trail answer, for all numbers of two words and all distances; nothing that was there turns.
-/
import Derived.Test.YtmbhmiidelcieaaDoorShift2
namespace Go.Proofs.YtmbhmiidelcieaaDoor
open Go.RowKit

/-- A box with a number. -/
structure BInv (N : Nat) (w wr : World) (h l : Int) : Prop where
  box0 : wr.cell? ⟨N, 0, none⟩ = some (.int .u64 h)
  box1 : wr.cell? ⟨N, 1, none⟩ = some (.int .u64 l)
  fz0 : ∀ o, wr.frozen? ⟨N, o, none⟩ = false
  below : Below N w wr
  size : N + 1 ≤ wr.heap.size

theorem BInv.init (w : World) (h l : Int) : BInv w.heap.size w (w.alloc (.cells #[.int .u64 h, .int .u64 l] 24)) h l :=
  ⟨by simp, by simp, fun o => World.frozen?_alloc_new _ _ _ _, (Below.refl _ _).alloc (Nat.le_refl _) _, by simp⟩

theorem BInv.step {N : Nat} {w wr wa : World} {h l : Int} (I : BInv N w wr h l) (hb : Below wr.heap.size wr wa) (h' l' : Int) : BInv N w ((wa.setCell ⟨N, 0, none⟩ (.int .u64 h')).setCell ⟨N, 1, none⟩ (.int .u64 l')) h' l' := by
  have hs := I.size
  have c0 : wa.cell? ⟨N, 0, none⟩ = some (.int .u64 h) := (hb.cell (p := ⟨N, 0, none⟩) hs).trans I.box0
  have c1 : wa.cell? ⟨N, 1, none⟩ = some (.int .u64 l) := (hb.cell (p := ⟨N, 1, none⟩) hs).trans I.box1
  refine ⟨?_, ?_, ?_, ?_, ?_⟩
  · rw [World.cell?_setCell_other _ _ _ _ (by simp)]
    exact World.cell?_setCell_same _ _ _ c0
  · exact World.cell?_setCell_same _ _ _ ((World.cell?_setCell_other _ _ _ _ (by simp)).trans c1)
  · intro o; simp only [World.frozen?_setCell]; exact (hb.frozen (p := ⟨N, o, none⟩) hs).trans (I.fz0 o)
  · exact ((I.below.trans (hb.mono (by omega))).setCell (Nat.le_refl _) _).setCell (Nat.le_refl _) _
  · have := hb.size; simp only [World.size_setCell]; omega

set_option maxHeartbeats 1000000 in
theorem rlead_any (h l : Int) (h1 : Word h) (h2 : Word l) (w : World) :
    Calls Tryd.prog 12 #[.agg #[.int .u64 h, .int .u64 l]] w fun e w' => e = .returned (.int .i64 (ldz h l)) ∧ Below w.heap.size w w' := by
  go_enter Tryd.func12, Tryd.ntmps12
  go_wp2
  go_loopw [3] (fun i wr => ∃ k : Nat, i = .int .i64 k ∧ k ≤ 128 ∧ val h l * 2 ^ k < 340282366920938463463374607431768211456 ∧ BInv w.heap.size w wr (hiW (val h l * 2 ^ k)) (loW (val h l * 2 ^ k))) (fun i _ => 128 - (intOf i).toNat)
  case atStart =>
    refine ⟨0, rfl, by omega, by rw [Nat.pow_zero, Nat.mul_one]; exact val_lt h1 h2, ?_⟩
    rw [Nat.pow_zero, Nat.mul_one, hiW_val h1 h2, loW_val h1 h2]
    exact BInv.init w h l
  case round =>
    obtain ⟨k, rfl, hk, hlt, I⟩ := hrel
    have g1 : Word (hiW (val h l * 2 ^ k)) := hiW_word hlt
    have g2 := loW_word (val h l * 2 ^ k)
    have tp := hi_top (val h l * 2 ^ k)
    have vh := val_hl (val h l * 2 ^ k)
    obtain ⟨x, hx⟩ : ∃ x, hiW (val h l * 2 ^ k) = x := ⟨_, rfl⟩
    obtain ⟨y, hy⟩ : ∃ y, loW (val h l * 2 ^ k) = y := ⟨_, rfl⟩
    rw [hx] at g1 tp I vh
    rw [hy] at g2 I vh
    have HT : Hid (x / 9223372036854775808 = 0 ↔ val h l * 2 ^ k < 170141183460469231731687303715884105728) := tp
    have HV : Hid (val x y = val h l * 2 ^ k) := vh
    have HLT : Hid (val h l * 2 ^ k < 340282366920938463463374607431768211456) := hlt
    clear hx hy tp vh hlt
    have b0 := I.box0
    have b1 := I.box1
    have f0 := I.fz0
    have z0 := I.size
    have p0 : w.heap.size < wr.heap.size := by omega
    have x0 := g1.1
    have HI : Hid (BInv w.heap.size w wr x y) := I
    clear I
    obtain ⟨t, ht⟩ : ∃ t, x / 9223372036854775808 = t := ⟨_, rfl⟩
    have HTT : Hid (x / 9223372036854775808 = t) := ht
    by_cases c : (k : Int) < 128
    · by_cases d : t = 0
      · have d' : (t == 0) = true := by simpa using d
        have lt2 : val h l * 2 ^ (k + 1) < 340282366920938463463374607431768211456 := by
          have q := HT.out.mp (HTT.out.trans d)
          rw [Nat.pow_succ, ← Nat.mul_assoc]; omega
        have e : shl (val x y) 1 = val h l * 2 ^ (k + 1) := by
          unfold shl
          rw [HV.out, show (1 : Int).toNat = 1 by rfl, Nat.mul_assoc, ← Nat.pow_add, Nat.mod_eq_of_lt lt2]
        have HE : Hid (shl (val x y) 1 = val h l * 2 ^ (k + 1)) := e
        have HL2 : Hid (val h l * 2 ^ (k + 1) < 340282366920938463463374607431768211456) := lt2
        clear d lt2 e
        go_wp2_with (go_at_call 10; refine (rleft_any x y 1 g1 g2 _).mono ?_; rintro e wa ⟨rfl, hba⟩; obtain ⟨hca, hfa⟩ := bcell hba)
        go_roundw
        case rel =>
          refine ⟨k + 1, by go_num, by omega, HL2.out, ?_⟩
          rw [← HE.out]
          exact HI.out.step hba _ _
        case measure => simp [intOf]; omega
      · have d' : (t == 0) = false := by simpa using d
        have hL : (k : Int) = ldz h l := ldz_top h1 h2 (by
          by_cases q : val h l * 2 ^ k < 170141183460469231731687303715884105728
          · exact absurd (HTT.out.symm.trans (HT.out.mpr q)) d
          · omega) HLT.out
        have HL : Hid ((k : Int) = ldz h l) := hL
        clear hL
        go_wp2
        go_ret
        exact ⟨ret_i64' HL.out, HI.out.below⟩
    · have c' : decide ((k : Int) < 128) = false := by simpa using c
      have hk2 : k = 128 := by omega
      have hz : val h l = 0 := by
        have q := HLT.out
        rw [hk2] at q
        by_cases z : val h l = 0
        · exact z
        · exfalso
          have m := Nat.mul_le_mul_right (2 ^ 128) (show 1 ≤ val h l by omega)
          omega
      have hL : (k : Int) = ldz h l := by
        have a := hiW_val h1 h2
        have b := loW_val h1 h2
        rw [hz] at a b
        rw [← a, ← b, hk2]
        decide
      have HL : Hid ((k : Int) = ldz h l) := hL
      clear hL hz hk2
      go_wp2
      go_ret
      exact ⟨ret_i64' HL.out, HI.out.below⟩

set_option maxHeartbeats 1000000 in
theorem rtrail_any (h l : Int) (h1 : Word h) (h2 : Word l) (w : World) :
    Calls Tryd.prog 14 #[.agg #[.int .u64 h, .int .u64 l]] w fun e w' => e = .returned (.int .i64 (trl (val h l))) ∧ Below w.heap.size w w' := by
  have hv := val_lt h1 h2
  go_enter Tryd.func14, Tryd.ntmps14
  go_wp2
  go_loopw [3] (fun i wr => ∃ k : Nat, i = .int .i64 k ∧ k ≤ 128 ∧ val h l % 2 ^ k = 0 ∧ BInv w.heap.size w wr (hiW (val h l / 2 ^ k)) (loW (val h l / 2 ^ k))) (fun i _ => 128 - (intOf i).toNat)
  case atStart =>
    refine ⟨0, rfl, by omega, by rw [Nat.pow_zero, Nat.mod_one], ?_⟩
    rw [Nat.pow_zero, Nat.div_one, hiW_val h1 h2, loW_val h1 h2]
    exact BInv.init w h l
  case round =>
    obtain ⟨k, rfl, hk, hmod, I⟩ := hrel
    have g1 : Word (hiW (val h l / 2 ^ k)) := hiW_word (Nat.lt_of_le_of_lt (Nat.div_le_self _ _) hv)
    have g2 := loW_word (val h l / 2 ^ k)
    have lb := lo_bit (v := val h l / 2 ^ k)
    have vh := val_hl (val h l / 2 ^ k)
    obtain ⟨x, hx⟩ : ∃ x, hiW (val h l / 2 ^ k) = x := ⟨_, rfl⟩
    obtain ⟨y, hy⟩ : ∃ y, loW (val h l / 2 ^ k) = y := ⟨_, rfl⟩
    rw [hx] at g1 I vh
    rw [hy] at g2 I vh lb
    obtain ⟨z, hz⟩ : ∃ z, bits BinOp.and IntKind.u64 y 1 = z := ⟨_, rfl⟩
    have HL : Hid (z = ((val h l / 2 ^ k % 2 : Nat) : Int)) := hz.symm.trans lb
    have HV : Hid (val x y = val h l / 2 ^ k) := vh
    have HM : Hid (val h l % 2 ^ k = 0) := hmod
    clear hx hy vh lb hmod
    have b0 := I.box0
    have b1 := I.box1
    have f0 := I.fz0
    have z0 := I.size
    have p0 : w.heap.size < wr.heap.size := by omega
    have HI : Hid (BInv w.heap.size w wr x y) := I
    clear I
    by_cases c : (k : Int) < 128
    · by_cases d : z = 0
      · have d' : (z == 0) = true := by simpa using d
        have e : shr (val x y) 1 = val h l / 2 ^ (k + 1) := by
          unfold shr
          rw [HV.out, show (1 : Int).toNat = 1 by rfl, shr_step]
        have m2 : val h l % 2 ^ (k + 1) = 0 := (cut_step _ _).mpr ⟨HM.out, by have := HL.out; omega⟩
        have HE : Hid (shr (val x y) 1 = val h l / 2 ^ (k + 1)) := e
        have HM2 : Hid (val h l % 2 ^ (k + 1) = 0) := m2
        clear d e m2
        go_wp2_with (go_at_call 8; refine (rright_any x y 1 g1 g2 _).mono ?_; rintro e wa ⟨rfl, hba⟩; obtain ⟨hca, hfa⟩ := bcell hba)
        go_roundw
        case rel =>
          refine ⟨k + 1, by go_num, by omega, HM2.out, ?_⟩
          rw [← HE.out]
          exact HI.out.step hba _ _
        case measure => simp [intOf]; omega
      · have d' : (z == 0) = false := by simpa using d
        have hL : (k : Int) = trl (val h l) := trl_odd hv HM.out (by have := HL.out; omega)
        have HK : Hid ((k : Int) = trl (val h l)) := hL
        clear hL
        go_wp2
        go_ret
        exact ⟨ret_i64' HK.out, HI.out.below⟩
    · have c' : decide ((k : Int) < 128) = false := by simpa using c
      have hz : val h l = 0 := zero_of_cut hv (by omega) HM.out
      have hL : (k : Int) = trl (val h l) := by rw [hz, trl_zero]; omega
      have HK : Hid ((k : Int) = trl (val h l)) := hL
      clear hL hz
      go_wp2
      go_ret
      exact ⟨ret_i64' HK.out, HI.out.below⟩

set_option maxHeartbeats 1000000 in
theorem wright_any (h l n : Int) (h1 : Word h) (h2 : Word l) (w : World) (hT : Tab w) :
    Calls Tryd.prog 7 #[.agg #[.int .u64 h, .int .u64 l], .int .i64 n] w fun e w' => e = .returned (.tuple #[.agg #[.int .u64 (hiW (shr (val h l) n)), .int .u64 (loW (shr (val h l) n))], .bool (cutB (val h l) n)]) ∧ Below w.heap.size w w' := by
  have hT1 : ∀ o p, Tab ((w.alloc o).alloc p) := fun o p => hT.below (((Below.refl _ _).alloc (Nat.le_refl _) _).alloc (by simp) _) hT.pos
  by_cases c : n ≤ 0
  · go_enter Tryd.func7, Tryd.ntmps7
    go_wp2
    have e : n.toNat = 0 := by omega
    refine bodyPost_ret (v := .tuple #[.agg #[.int .u64 h, .int .u64 l], .bool false]) (by simp [results, Tryd.results7, go_sem]) rfl ⟨?_, ((Below.refl _ _).alloc (Nat.le_refl _) _).alloc (by simp) _⟩
    unfold shr cutB
    rw [e, Nat.pow_zero, Nat.div_one, hiW_val h1 h2, loW_val h1 h2, Nat.mod_one]
    rfl
  · have hn : 0 < n := by omega
    have q : ((h == 0) = true ∧ (l == 0) = true ∧ val h l = 0) ∨ (((h == 0) = true ∧ (l == 0) = false ∨ (h == 0) = false) ∧ val h l ≠ 0) := by
      have a := h1.1; have b := h2.1
      by_cases x : h = 0 <;> by_cases y : l = 0
      · exact Or.inl ⟨by simpa using x, by simpa using y, by unfold val; omega⟩
      · exact Or.inr ⟨Or.inl ⟨by simpa using x, by simpa using y⟩, by unfold val; omega⟩
      · exact Or.inr ⟨Or.inr (by simpa using x), by unfold val; omega⟩
      · exact Or.inr ⟨Or.inr (by simpa using x), by unfold val; omega⟩
    rcases q with ⟨q1, q2, q3⟩ | ⟨q, q3⟩
    · have hC : cutB (val h l) n = false := by unfold cutB; rw [q3]; simp
      have HC : Hid (cutB (val h l) n = false) := hC
      clear hC q3
      go_enter Tryd.func7, Tryd.ntmps7
      go_wp2_with (go_at_call 27; refine (wdown_any h l n h1 h2 hn _).mono ?_; rintro e wa ⟨rfl, hba⟩; obtain ⟨hca, hfa⟩ := bcell hba; simp at hca hfa)
      refine bodyPost_ret (v := .tuple #[.agg #[.int .u64 (hiW (shr (val h l) n)), .int .u64 (loW (shr (val h l) n))], .bool false]) (by simp [results, Tryd.results7, go_sem, hca]) rfl ⟨by rw [HC.out], ?_⟩
      exact (((((Below.refl _ _).alloc (Nat.le_refl _) _).alloc (by simp) _).trans (hba.mono (by simp; omega))).setCell (by simp) _).setCell (by simp) _
    · have hC := cut_trl (val_lt h1 h2) q3 n hn
      have HC : Hid (decide (trl (val h l) < n) = cutB (val h l) n) := hC
      clear hC q3
      rcases q with ⟨q1, q2⟩ | q1
      all_goals
        go_enter Tryd.func7, Tryd.ntmps7
        go_wp2_with (first
          | (go_at_call 13; refine (wtrail_any h l h1 h2 _ (hT1 _ _)).mono ?_; rintro e wt ⟨rfl, hbt⟩; obtain ⟨hct, hft⟩ := bcell hbt; have st := hbt.size; simp at hct hft st; have s0 : w.heap.size < wt.heap.size := (by omega); have s1 : w.heap.size + 1 < wt.heap.size := (by omega))
          | (go_at_call 27; refine (wdown_any h l n h1 h2 hn _).mono ?_; rintro e wa ⟨rfl, hba⟩; obtain ⟨hca, hfa⟩ := bcell hba; have sa := hba.size))
        have c0 : wa.cell? ⟨w.heap.size + 1, 0, none⟩ = some (.int .u64 0) := by rw [hca _ _ (by omega), hct _ _ (by omega)]; simp
        have c1 : wa.cell? ⟨w.heap.size + 1, 1, none⟩ = some (.int .u64 0) := by rw [hca _ _ (by omega), hct _ _ (by omega)]; simp
        refine bodyPost_ret (v := .tuple #[.agg #[.int .u64 (hiW (shr (val h l) n)), .int .u64 (loW (shr (val h l) n))], .bool (decide (trl (val h l) < n))]) (by simp [results, Tryd.results7, go_sem, c0, c1]) rfl ⟨by rw [HC.out], ?_⟩
        exact ((((((Below.refl _ _).alloc (Nat.le_refl _) _).alloc (by simp) _).trans (hbt.mono (by simp; omega))).trans (hba.mono (by omega))).setCell (by simp) _).setCell (by simp) _

end Go.Proofs.YtmbhmiidelcieaaDoor
