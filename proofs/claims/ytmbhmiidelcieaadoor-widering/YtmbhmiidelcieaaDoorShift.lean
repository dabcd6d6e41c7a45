/-
  What the calls of wide.Left, wide.down and of the document's Left and Right answer, for all numbers of two words and all distances; nothing that was there turns.
-/
import Derived.Test.YtmbhmiidelcieaaDoorShM
import Derived.RegionTactic
import Derived.ChangeAlike
import Derived.BigRegion
namespace Go.Proofs.YtmbhmiidelcieaaDoor
open Go.RowKit

theorem ret_n {x x' y y' : Int} (hx : x = x') (hy : y = y') : Ending.returned (.agg #[.int .u64 x, .int .u64 y]) = .returned (.agg #[.int .u64 x', .int .u64 y']) := by rw [hx, hy]
theorem ret_nb2 {x x' y y' : Int} {b b' : Bool} (hx : x = x') (hy : y = y') (hb : b = b') :
    Ending.returned (.tuple #[.agg #[.int .u64 x, .int .u64 y], .bool b]) = .returned (.tuple #[.agg #[.int .u64 x', .int .u64 y'], .bool b']) := by rw [hx, hy, hb]

set_option maxHeartbeats 1000000 in
theorem wleft_any (h l n : Int) (h1 : Word h) (h2 : Word l) (w : World) :
    Calls Tryd.prog 9 #[.agg #[.int .u64 h, .int .u64 l], .int .i64 n] w fun e w' => e = .returned (.agg #[.int .u64 (hiW (shl (val h l) n)), .int .u64 (loW (shl (val h l) n))]) ∧ Below w.heap.size w w' := by
  have l0 := h1.1
  have l1 := h2.1
  rcases (by omega : n ≤ 0 ∨ 128 ≤ n ∨ (64 ≤ n ∧ n < 128) ∨ (0 < n ∧ n < 64)) with c | c | ⟨c, d⟩ | ⟨c, d⟩
  · go_enter Tryd.func9, Tryd.ntmps9
    go_wp2
    have hv := val_lt h1 h2
    have e : shl (val h l) n = val h l := by unfold shl; rw [show n.toNat = 0 by omega, Nat.pow_zero, Nat.mul_one, Nat.mod_eq_of_lt hv]
    refine bodyPost_ret (v := .agg #[.int .u64 h, .int .u64 l]) (by simp [results, Tryd.results9, go_sem]) rfl ⟨ret_n (by rw [e, hiW_val h1 h2]) (by rw [e, loW_val h1 h2]), ((Below.refl _ _).alloc (Nat.le_refl _) _).alloc (by simp) _⟩
  · go_enter Tryd.func9, Tryd.ntmps9
    go_wp2
    have e : shl (val h l) n = 0 := shl_none _ _ (by omega)
    refine bodyPost_ret (v := .agg #[.int .u64 0, .int .u64 0]) (by simp [results, Tryd.results9, go_sem]) rfl ⟨ret_n (by rw [e, hiW_zero]) (by rw [e, loW_zero]), ((Below.refl _ _).alloc (Nat.le_refl _) _).alloc (by simp) _⟩
  · go_enter Tryd.func9, Tryd.ntmps9
    go_wp2
    obtain ⟨e1, e2⟩ := shl_words64 h1 h2 n.toNat (by omega)
    rw [show n.toNat - 64 = (n - 64).toNat by omega] at e1
    refine bodyPost_ret (v := .agg #[.int .u64 (IntKind.u64.wrap (l * 2 ^ (n - 64).toNat)), .int .u64 0]) (by simp [results, Tryd.results9, go_sem]) rfl ⟨ret_n e1 e2, ((Below.refl _ _).alloc (Nat.le_refl _) _).alloc (by simp) _⟩
  · go_enter Tryd.func9, Tryd.ntmps9
    go_wp2
    go_region
    all_goals
      go_wp2
      obtain ⟨e1, e2⟩ := shl_words h1 h2 n.toNat (by omega)
      rw [show 64 - n.toNat = (64 - n).toNat by omega] at e1
      refine bodyPost_ret (v := .agg #[.int .u64 (bits BinOp.or IntKind.u64 (IntKind.u64.wrap (h * 2 ^ n.toNat)) (l / 2 ^ (64 - n).toNat)), .int .u64 (IntKind.u64.wrap (l * 2 ^ n.toNat))]) (by simp [results, Tryd.results9, go_sem]) rfl ⟨ret_n e1 e2, (((Below.refl _ _).alloc (Nat.le_refl _) _).alloc (by simp) _).drew⟩

set_option maxHeartbeats 1000000 in
theorem wdown_any (h l n : Int) (h1 : Word h) (h2 : Word l) (hn : 0 < n) (w : World) :
    Calls Tryd.prog 27 #[.agg #[.int .u64 h, .int .u64 l], .int .i64 n] w fun e w' => e = .returned (.agg #[.int .u64 (hiW (shr (val h l) n)), .int .u64 (loW (shr (val h l) n))]) ∧ Below w.heap.size w w' := by
  have l0 := h1.1
  have l1 := h2.1
  rcases (by omega : 128 ≤ n ∨ (64 ≤ n ∧ n < 128) ∨ (0 < n ∧ n < 64)) with c | ⟨c, d⟩ | ⟨c, d⟩
  · go_enter Tryd.func27, Tryd.ntmps27
    go_wp2
    have e : shr (val h l) n = 0 := (shr_none (val_lt h1 h2) _ (by omega)).1
    refine bodyPost_ret (v := .agg #[.int .u64 0, .int .u64 0]) (by simp [results, Tryd.results27, go_sem]) rfl ⟨ret_n (by rw [e, hiW_zero]) (by rw [e, loW_zero]), ((Below.refl _ _).alloc (Nat.le_refl _) _).alloc (by simp) _⟩
  · go_enter Tryd.func27, Tryd.ntmps27
    go_wp2
    obtain ⟨e1, e2⟩ := shr_words64 h1 h2 n.toNat (by omega)
    rw [show n.toNat - 64 = (n - 64).toNat by omega] at e2
    refine bodyPost_ret (v := .agg #[.int .u64 0, .int .u64 (h / 2 ^ (n - 64).toNat)]) (by simp [results, Tryd.results27, go_sem]) rfl ⟨ret_n e1 e2, ((Below.refl _ _).alloc (Nat.le_refl _) _).alloc (by simp) _⟩
  · go_enter Tryd.func27, Tryd.ntmps27
    go_wp2
    go_region
    all_goals
      go_wp2
      obtain ⟨e1, e2⟩ := shr_words h1 h2 n.toNat (by omega)
      rw [show 64 - n.toNat = (64 - n).toNat by omega] at e2
      refine bodyPost_ret (v := .agg #[.int .u64 (h / 2 ^ n.toNat), .int .u64 (bits BinOp.or IntKind.u64 (l / 2 ^ n.toNat) (IntKind.u64.wrap (h * 2 ^ (64 - n).toNat)))]) (by simp [results, Tryd.results27, go_sem]) rfl ⟨ret_n e1 e2, (((Below.refl _ _).alloc (Nat.le_refl _) _).alloc (by simp) _).drew⟩

set_option maxHeartbeats 1000000 in
theorem rleft_any (h l n : Int) (h1 : Word h) (h2 : Word l) (w : World) :
    Calls Tryd.prog 10 #[.agg #[.int .u64 h, .int .u64 l], .int .i64 n] w fun e w' => e = .returned (.agg #[.int .u64 (hiW (shl (val h l) n)), .int .u64 (loW (shl (val h l) n))]) ∧ Below w.heap.size w w' := by
  obtain ⟨v, hv, hh, hl⟩ : ∃ v : Nat, v < 340282366920938463463374607431768211456 ∧ hiW v = h ∧ loW v = l := ⟨val h l, val_lt h1 h2, hiW_val h1 h2, loW_val h1 h2⟩
  have hvv : val h l = v := by rw [← hh, ← hl, val_hl]
  rw [hvv]
  have HH : Hid (hiW v = h ∧ loW v = l) := ⟨hh, hl⟩
  clear hh hl hvv h1 h2
  go_enter Tryd.func10, Tryd.ntmps10
  go_wp2
  go_loopw [5] (fun i wr => ∃ k : Nat, i = .int .i64 k ∧ k ≤ 128 ∧ ((k : Int) ≤ n ∨ k = 0) ∧ LInv w.heap.size w wr (hiW (v * 2 ^ k % 340282366920938463463374607431768211456)) (loW (v * 2 ^ k % 340282366920938463463374607431768211456))) (fun i _ => 128 - (intOf i).toNat)
  case atStart =>
    refine ⟨0, rfl, by omega, Or.inr rfl, ?_⟩
    rw [Nat.pow_zero, Nat.mul_one, Nat.mod_eq_of_lt hv, HH.out.1, HH.out.2]
    exact LInv.init w h l
  case round =>
    obtain ⟨k, rfl, hk, hkn, I⟩ := hrel
    have g1 : Word (hiW (v * 2 ^ k % 340282366920938463463374607431768211456)) := hiW_word (Nat.mod_lt _ (by omega))
    have g2 := loW_word (v * 2 ^ k % 340282366920938463463374607431768211456)
    have st := shl_words g1 g2 1 (by omega)
    rw [val_hl, shl_step] at st
    obtain ⟨x, hx⟩ : ∃ x, hiW (v * 2 ^ k % 340282366920938463463374607431768211456) = x := ⟨_, rfl⟩
    obtain ⟨y, hy⟩ : ∃ y, loW (v * 2 ^ k % 340282366920938463463374607431768211456) = y := ⟨_, rfl⟩
    have HX : Hid (hiW (v * 2 ^ k % 340282366920938463463374607431768211456) = x ∧ loW (v * 2 ^ k % 340282366920938463463374607431768211456) = y) := ⟨hx, hy⟩
    rw [hx, hy] at I st
    rw [hx] at g1
    rw [hy] at g2
    clear hx hy
    have b0 := I.box0
    have b1 := I.box1
    have f0 := I.fz0
    have r0 := I.res0
    have r1 := I.res1
    have f1 := I.fz1
    have x0 := g1.1
    have y0 := g2.1
    have HI : Hid (LInv w.heap.size w wr x y) := I
    have HS := (show Hid _ from st)
    clear I st
    by_cases c : (k : Int) < n ∧ (k : Int) < 128
    · obtain ⟨c1, c2⟩ := c
      go_wp2
      go_roundw
      case rel =>
        refine ⟨k + 1, by go_num, by omega, Or.inl (by omega), ?_⟩
        have J := HI.out.step (hiW (v * 2 ^ (k + 1) % 340282366920938463463374607431768211456)) (loW (v * 2 ^ (k + 1) % 340282366920938463463374607431768211456))
        rw [← HS.out.1, ← HS.out.2] at J ⊢
        exact J
      case measure => simp [intOf]; omega
    · have ex := shl_exit (v := v) (k := k) (n := n) hkn (by omega)
      have HE : Hid (x = hiW (shl v n) ∧ y = loW (shl v n)) := ⟨by rw [← ex, HX.out.1], by rw [← ex, HX.out.2]⟩
      clear ex
      have d : decide ((k : Int) < n) = false ∨ ((k : Int) < n ∧ ¬ (k : Int) < 128) := by
        by_cases q : (k : Int) < n
        · exact Or.inr ⟨q, fun z => c ⟨q, z⟩⟩
        · exact Or.inl (by simpa using q)
      clear c
      rcases d with d | ⟨d, d'⟩
      all_goals
        go_wp2
        refine bodyPost_ret (v := .agg #[.int .u64 x, .int .u64 y]) (by simp [results, Tryd.results10, go_sem, r0, r1]) rfl ⟨ret_n HE.out.1 HE.out.2, (HI.out.below.setCell (by simp) _).setCell (by simp) _⟩

end Go.Proofs.YtmbhmiidelcieaaDoor
