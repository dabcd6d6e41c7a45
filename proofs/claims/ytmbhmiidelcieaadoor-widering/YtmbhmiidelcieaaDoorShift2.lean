/-
  What the calls of the document's Right, of math/bits.TrailingZeros64 (where its table lies as the program's text lays it), wide.Trail and wide.Right answer, for all numbers of two words and all distances; nothing that was there turns.
-/
import Derived.Test.YtmbhmiidelcieaaDoorShM2
import Derived.Test.YtmbhmiidelcieaaDoorShift
namespace Go.Proofs.YtmbhmiidelcieaaDoor
open Go.RowKit

theorem cut_rel {v k : Nat} {b : Bool} {z : Int} (hb : decide (v % 2 ^ k ≠ 0) = b) (hz : z = ((v / 2 ^ k % 2 : Nat) : Int)) : (b || (z == 1)) = decide (v % 2 ^ (k + 1) ≠ 0) := by
  have c := cut_step v k
  rw [← hb, hz, Bool.eq_iff_iff]
  simp only [Bool.or_eq_true, decide_eq_true_eq, beq_iff_eq, ne_eq, c]
  omega

set_option maxHeartbeats 1000000 in
theorem rright_any (h l n : Int) (h1 : Word h) (h2 : Word l) (w : World) :
    Calls Tryd.prog 8 #[.agg #[.int .u64 h, .int .u64 l], .int .i64 n] w fun e w' => e = .returned (.tuple #[.agg #[.int .u64 (hiW (shr (val h l) n)), .int .u64 (loW (shr (val h l) n))], .bool (cutB (val h l) n)]) ∧ Below w.heap.size w w' := by
  obtain ⟨v, hv, hh, hl⟩ : ∃ v : Nat, v < 340282366920938463463374607431768211456 ∧ hiW v = h ∧ loW v = l := ⟨val h l, val_lt h1 h2, hiW_val h1 h2, loW_val h1 h2⟩
  have hvv : val h l = v := by rw [← hh, ← hl, val_hl]
  rw [hvv]
  have HH : Hid (hiW v = h ∧ loW v = l) := ⟨hh, hl⟩
  clear hh hl hvv h1 h2
  go_enter Tryd.func8, Tryd.ntmps8
  go_wp2
  go_loopw [6, 7] (fun b i wr => ∃ k : Nat, i = .int .i64 k ∧ (∃ b' : Bool, b = .bool b' ∧ decide (v % 2 ^ k ≠ 0) = b') ∧ k ≤ 128 ∧ ((k : Int) ≤ n ∨ k = 0) ∧ LInv w.heap.size w wr (hiW (v / 2 ^ k)) (loW (v / 2 ^ k))) (fun _ i _ => 128 - (intOf i).toNat)
  case atStart =>
    refine ⟨0, rfl, ⟨_, rfl, by simp [Nat.mod_one]⟩, by omega, Or.inr rfl, ?_⟩
    rw [Nat.pow_zero, Nat.div_one, HH.out.1, HH.out.2]
    exact LInv.init w h l
  case round =>
    obtain ⟨k, rfl, ⟨b, rfl, hb⟩, hk, hkn, I⟩ := hrel
    have g1 : Word (hiW (v / 2 ^ k)) := hiW_word (Nat.lt_of_le_of_lt (Nat.div_le_self _ _) hv)
    have g2 := loW_word (v / 2 ^ k)
    have st := shr_words g1 g2 1 (by omega)
    rw [val_hl, shr_step] at st
    have lb := lo_bit (v := v / 2 ^ k)
    obtain ⟨x, hx⟩ : ∃ x, hiW (v / 2 ^ k) = x := ⟨_, rfl⟩
    obtain ⟨y, hy⟩ : ∃ y, loW (v / 2 ^ k) = y := ⟨_, rfl⟩
    have HX : Hid (hiW (v / 2 ^ k) = x ∧ loW (v / 2 ^ k) = y) := ⟨hx, hy⟩
    rw [hx, hy] at I st
    rw [hx] at g1
    rw [hy] at g2 lb
    clear hx hy
    have HB : Hid (decide (v % 2 ^ k ≠ 0) = b) := hb
    have b0 := I.box0
    have b1 := I.box1
    have f0 := I.fz0
    have r0 := I.res0
    have r1 := I.res1
    have f1 := I.fz1
    have x0 := g1.1
    have y0 := g2.1
    have HI : Hid (LInv w.heap.size w wr x y) := I
    have HS := (show Hid _ from st)
    obtain ⟨z, hz⟩ : ∃ z, bits BinOp.and IntKind.u64 y 1 = z := ⟨_, rfl⟩
    have HL : Hid (z = ((v / 2 ^ k % 2 : Nat) : Int)) := hz.symm.trans lb
    clear I st lb hb
    by_cases c : (k : Int) < n ∧ (k : Int) < 128
    · obtain ⟨c1, c2⟩ := c
      have hb2 : b = true ∨ (b = false ∧ (z == 1) = true) ∨ (b = false ∧ (z == 1) = false) := by
        cases b <;> cases (z == 1) <;> simp
      rcases hb2 with rfl | ⟨rfl, e⟩ | ⟨rfl, e⟩
      all_goals
        go_wp2
        go_roundw
        case rel =>
          refine ⟨k + 1, by go_num, ⟨_, rfl, ?_⟩, by omega, Or.inl (by omega), ?_⟩
          · have R := cut_rel HB.out HL.out
            rw [← R]
            first | rw [e] | skip
            rfl
          · have J := HI.out.step (hiW (v / 2 ^ (k + 1))) (loW (v / 2 ^ (k + 1)))
            rw [← HS.out.1, ← HS.out.2] at J ⊢
            exact J
        case measure => simp [intOf]; omega
    · obtain ⟨ex1, ex2⟩ := shr_exit hv (k := k) (n := n) hkn (by omega)
      have HE : Hid (x = hiW (shr v n) ∧ y = loW (shr v n) ∧ b = cutB v n) := ⟨by rw [← ex1, HX.out.1], by rw [← ex1, HX.out.2], by rw [← ex2, HB.out]⟩
      clear ex1 ex2
      have d : decide ((k : Int) < n) = false ∨ ((k : Int) < n ∧ ¬ (k : Int) < 128) := by
        by_cases q : (k : Int) < n
        · exact Or.inr ⟨q, fun z => c ⟨q, z⟩⟩
        · exact Or.inl (by simpa using q)
      clear c
      rcases d with d | ⟨d, d'⟩
      all_goals
        go_wp2
        refine bodyPost_ret (v := .tuple #[.agg #[.int .u64 x, .int .u64 y], .bool b]) (by simp [results, Tryd.results8, go_sem, r0, r1]) rfl ⟨ret_nb2 HE.out.1 HE.out.2.1 HE.out.2.2, (HI.out.below.setCell (by simp) _).setCell (by simp) _⟩

/-- The table of math/bits, in its variable. -/
def Tab (w : World) : Prop := ∀ j, j < 64 → w.cell? ⟨0, j, none⟩ = some (.int .u8 (Lib.deBruijn64tab.getD j 0))

theorem Tab.pos {w : World} (h : Tab w) : 0 < w.heap.size := by
  have c := h 0 (by omega)
  by_cases e : 0 < w.heap.size
  · exact e
  · exfalso
    have z : w.heap[0]? = none := Array.getElem?_eq_none (by omega)
    simp [World.cell?, z] at c
theorem Tab.below {w w' : World} {B : Nat} (h : Tab w) (hb : Below B w w') (hB : 0 < B) : Tab w' := fun j hj => (hb.cell (p := ⟨0, j, none⟩) hB).trans (h j hj)

set_option maxHeartbeats 1000000 in
theorem tz64_core (x : Int) (k idx : Nat) (w : World) (hx0 : (x == 0) = false)
    (key : IntKind.u64.wrap (bits BinOp.and IntKind.u64 x (IntKind.u64.wrap (-x)) * 285870213051353865) / 288230376151711744 = (idx : Int))
    (hi : idx < 64) (hk : k < 64) (hcell : w.cell? ⟨0, idx, none⟩ = some (.int .u8 k)) :
    Calls Tryd.prog 29 #[.int .u64 x] w fun e w' => e = .returned (.int .i64 k) ∧ w' = w := by
  go_enter Tryd.func29, Tryd.ntmps29
  go_wp2_with (simp only [key])
  go_ret
  exact ⟨rfl, rfl⟩

theorem tz64_zero (w : World) : Calls Tryd.prog 29 #[.int .u64 0] w fun e w' => e = .returned (.int .i64 64) ∧ w' = w := by
  go_enter Tryd.func29, Tryd.ntmps29
  go_wp2
  go_ret
  exact ⟨rfl, rfl⟩

theorem tz64_any (x : Int) (h : Word x) (w : World) (hT : Tab w) :
    Calls Tryd.prog 29 #[.int .u64 x] w fun e w' => e = .returned (.int .i64 (ctzW x)) ∧ w' = w := by
  by_cases c : x = 0
  · subst c; exact tz64_zero w
  · obtain ⟨y, rfl⟩ := Int.eq_ofNat_of_zero_le h.1
    have hy : y < 18446744073709551616 := by have := h.2; omega
    have hy0 : y ≠ 0 := by omega
    obtain ⟨hlow, hk⟩ := Lib.lowest_bit 64 y hy0 hy
    obtain ⟨hi, htab⟩ := Lib.deBruijn64_at _ hk
    have hcell := hT _ hi
    rw [htab] at hcell
    have e1 : IntKind.u64.wrap (-(y : Int)) = ((18446744073709551616 - y : Nat) : Int) := by rw [IntKind.wrap_u64]; omega
    have key : IntKind.u64.wrap (bits BinOp.and IntKind.u64 (y : Int) (IntKind.u64.wrap (-(y : Int))) * 285870213051353865) / 288230376151711744 = ((2 ^ Lib.ctz 64 y * 285870213051353865 % 18446744073709551616 / 288230376151711744 : Nat) : Int) := by
      have hlow' : y &&& (18446744073709551616 - y) = 2 ^ Lib.ctz 64 y := hlow
      rw [e1, bits_and_u64_nat y _ hy (by omega), hlow', IntKind.wrap_u64]
      generalize 2 ^ Lib.ctz 64 y = q
      omega
    exact tz64_core y _ _ w (by simp; omega) key hi hk hcell

theorem ret_i64' {a b : Int} (h : a = b) : Ending.returned (.int .i64 a) = .returned (.int .i64 b) := by rw [h]

set_option maxHeartbeats 400000 in
theorem wtrail_any (h l : Int) (h1 : Word h) (h2 : Word l) (w : World) (hT : Tab w) :
    Calls Tryd.prog 13 #[.agg #[.int .u64 h, .int .u64 l]] w fun e w' => e = .returned (.int .i64 (trl (val h l))) ∧ Below w.heap.size w w' := by
  have hT1 : ∀ o, Tab (w.alloc o) := fun o => hT.below ((Below.refl _ _).alloc (Nat.le_refl _) _) hT.pos
  by_cases c : l = 0
  · have c' : (l == 0) = true := by simpa using c
    have hL : trl (val h l) = 64 + ctzW h := by rw [c]; exact trl_high h1
    have b1 := ctzW_01 h1
    clear c
    go_enter Tryd.func13, Tryd.ntmps13
    go_wp2_with (go_at_call 29; refine (tz64_any h h1 _ (hT1 _)).mono ?_; rintro e w' ⟨rfl, rfl⟩)
    go_ret
    exact ⟨ret_i64' hL.symm, (Below.refl _ _).alloc (Nat.le_refl _) _⟩
  · have c' : (l == 0) = false := by simpa using c
    have hL : trl (val h l) = ctzW l := trl_low h1 h2 c
    go_enter Tryd.func13, Tryd.ntmps13
    go_wp2_with (go_at_call 29; refine (tz64_any l h2 _ (hT1 _)).mono ?_; rintro e w' ⟨rfl, rfl⟩)
    go_ret
    exact ⟨ret_i64' hL.symm, (Below.refl _ _).alloc (Nat.le_refl _) _⟩

end Go.Proofs.YtmbhmiidelcieaaDoor
