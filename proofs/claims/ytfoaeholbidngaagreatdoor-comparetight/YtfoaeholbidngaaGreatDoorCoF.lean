/-
  What the document's decimal of 0, Exact, above and Bounds of layer 16 answer.
-/
import Derived.Test.YtfoaeholbidngaaGreatDoorCoE
import Derived.Test.YtfoaeholbidngaaGreatDoorCo1
namespace Go.Proofs.YtfoaeholbidngaaGreatDoor
open Go.RowKit

theorem dg_nought : DG ⟨#[48]⟩ := by
  intro k h
  have e : k = 0 := by
    have : k < 1 := h
    omega
  subst e
  exact ⟨by show 48 ≤ (48 : UInt8).toNat; decide, by show (48 : UInt8).toNat ≤ 57; decide⟩
theorem dgt_nought : ∀ i, i < 1 → dgt ⟨#[48]⟩ i = 48 := by
  intro i hi
  have e : i = 0 := by omega
  subst e
  decide
set_option maxRecDepth 100000 in
set_option maxHeartbeats 1000000 in
theorem decimal_zero (w : World) : Calls Tryz.prog 51 #[.int .u64 0, .int .i64 0] w fun e w' => e = .returned (dcV ⟨#[]⟩ 0 false) ∧ Below w.heap.size w w' := by
  have SM := fun W => small_nat 0 (by unfold B; decide) W
  simp only [Int.cast_ofNat_Int] at SM
  have F0 : Hid (DcB (w.alloc (.cells #[.string ⟨#[]⟩, .int .i64 0, .bool false] 23)) w.heap.size (.string ⟨#[]⟩) (.int .i64 0) (.bool false) ∧ Below w.heap.size w (w.alloc (.cells #[.string ⟨#[]⟩, .int .i64 0, .bool false] 23))) := ⟨DcB.new w _ _ _ _, (Below.refl _ _).alloc (Nat.le_refl _) _⟩
  have MK := fun W => rmake_zero (t := ⟨#[48]⟩) (p := 1) (by decide) dg_nought (z := 1) rfl dgt_nought W
  unfold dcV at MK ⊢
  go_enter Tryz.func51, Tryz.ntmps51
  go_wp2_with fail
  refine (SM _).mono ?_
  rintro o w1 ⟨v1, rfl, n1, b1⟩
  have F1 : Hid (DcB w1 w.heap.size (.string ⟨#[]⟩) (.int .i64 0) (.bool false) ∧ Below w.heap.size w w1 ∧ Big.NatV w1 v1 0) := ⟨F0.out.1.step b1, F0.out.2.trans (b1.mono F0.out.2.size), n1⟩
  clear b1 n1 SM F0
  have UP := up_any F1.out.2.2 ((two_fits (s := 0) (k := 1000) (by omega)).le (by omega)) 0 (by omega)
  rw [Nat.zero_mul] at UP
  simp only [Int.cast_ofNat_Int] at UP
  go_wp2_with fail
  refine UP.mono ?_
  rintro o w3 ⟨v3, rfl, n3, b3⟩
  have F3 : Hid (DcB w3 w.heap.size (.string ⟨#[]⟩) (.int .i64 0) (.bool false) ∧ Below w.heap.size w w3 ∧ Big.NatV w3 v3 0) := ⟨F1.out.1.step b3, F1.out.2.1.trans (b3.mono F1.out.2.1.size), n3⟩
  clear b3 n3 UP F1
  have TL := tell_zero F3.out.2.2 10
  simp only [Int.cast_ofNat_Int] at TL
  go_wp2_with fail
  refine TL.mono ?_
  rintro o w3 ⟨rfl, rfl⟩
  clear TL
  go_wp2_with fail
  refine (MK _).mono ?_
  rintro o w5 ⟨rfl, b5⟩
  have F5 : Hid (DcB w5 w.heap.size (.string ⟨#[]⟩) (.int .i64 0) (.bool false) ∧ Below w.heap.size w w5) := ⟨F3.out.1.step b5, F3.out.2.1.trans (b5.mono F3.out.2.1.size)⟩
  clear b5 F3 MK
  obtain ⟨l5, a0, a1, a2, f0, f1, f2⟩ := F5.out.1
  go_wp2
  exact bodyPost_ret (v := .agg #[.string ⟨#[]⟩, .int .i64 0, .bool false]) (by simp [results, Tryz.results51, go_sem, World.cell?_setCell_same, World.cell?_setCell_other, *]) rfl ⟨rfl, (((F5.out.2.setCell (Nat.le_refl _) _).setCell (Nat.le_refl _) _).setCell (Nat.le_refl _) _).alloc (by simpa using F5.out.2.size) _⟩

/-- A decimal that is a number times a power of two; 0 has no digits. -/
def DcX (u : ByteArray) (P : Int) (m : Nat) (x : Int) : Prop := (m = 0 ∧ u = ⟨#[]⟩ ∧ P = 0) ∨ (0 < m ∧ VN u P false ∧ nrP P = P ∧ vE (frN u P) (frD u P) 0 m x)
theorem decimal_any {m : Nat} (hm : m < 18446744073709551616) {x : Int} (h0 : -1075 ≤ x) (h1 : x ≤ 1000) (hz : m = 0 → x = 0) (w : World) :
    Calls Tryz.prog 51 #[.int .u64 (m : Int), .int .i64 x] w fun e w' => ∃ u P, e = .returned (dcV u P false) ∧ DcX u P m x ∧ Below w.heap.size w w' := by
  rcases Nat.eq_zero_or_pos m with z | z
  · subst z
    obtain rfl := hz rfl
    refine (decimal_zero w).mono ?_
    rintro o w' ⟨rfl, hb⟩
    exact ⟨_, _, rfl, .inl ⟨rfl, rfl, rfl⟩, hb⟩
  · rcases Int.lt_or_le x 0 with c | c
    · obtain ⟨j, rfl⟩ : ∃ j : Nat, x = -(j : Int) := ⟨(-x).toNat, by omega⟩
      refine (decimal_dn z hm (by omega) (by omega) w).mono ?_
      rintro o w' ⟨u, P, rfl, a, b, d, hb⟩
      exact ⟨u, P, rfl, .inr ⟨z, a, b, d⟩, hb⟩
    · obtain ⟨j, rfl⟩ : ∃ j : Nat, x = (j : Int) := ⟨x.toNat, by omega⟩
      refine (decimal_up z hm (by omega) w).mono ?_
      rintro o w' ⟨u, P, rfl, a, b, d, hb⟩
      exact ⟨u, P, rfl, .inr ⟨z, a, b, d⟩, hb⟩
theorem uM_lim {s : Int} {g n f T : Nat} {L : Int} (hz : Fz s g n f T L) {m : Nat} (hm : m < n) : uM n f m < 9007199254740992 ∧ -1074 ≤ uE n f L m ∧ uE n f L m ≤ 971 ∧ (uM n f m = 0 → uE n f L m = 0) ∧ (uM n f m = mt f m) ∧ (m ≠ 0 → uE n f L m = xp f L m) := by
  obtain ⟨p1, p2, p3⟩ := parts_lim hz hm
  unfold uM uE
  rcases cl_cases n m with ⟨q, k⟩ | ⟨q, _, k⟩ | ⟨_, q, k⟩ | ⟨q, k⟩
  · rw [k, if_neg (by decide), if_neg (by decide)]
    exact ⟨by decide, by decide, by decide, fun _ => rfl, by rw [q, mt_nought], fun z => absurd q z⟩
  · rw [k, if_pos rfl, if_pos rfl]
    exact ⟨p1, p2, p3, fun z => absurd z (mt_pos q), rfl, fun _ => rfl⟩
  · omega
  · omega
set_option maxRecDepth 100000 in
set_option maxHeartbeats 1000000 in
theorem exact16_ok {s : Int} {g n f T : Nat} {L : Int} (hz : Fz s g n f T L) {b : Nat} (hb : b < 2 * g) (hm : mg g b < n) (w : World) :
    Calls Tryz.prog 25 #[.int .u64 (b : Int), .int .i64 s] w fun e w' => ∃ u P, e = .returned (.tuple #[dcV u P false, .int .i64 0]) ∧ DcX u P (uM n f (mg g b)) (uE n f L (mg g b)) ∧ Below w.heap.size w w' := by
  have UN := fun W => runp_z hz hb W
  have U := uM_lim hz hm
  have u1 := U.1
  have u2 := U.2.1
  have u3 := U.2.2.1
  have u4 := U.2.2.2.1
  clear U
  have DC := fun W => decimal_any (m := uM n f (mg g b)) (by omega) (by omega) (by omega) u4 W
  have c3 : (cl n (mg g b) == 3) = false := by rcases cl_cases n (mg g b) with ⟨_, k⟩ | ⟨_, _, k⟩ | ⟨_, q, k⟩ | ⟨q, k⟩ <;> first | (rw [k]; decide) | omega
  have c4 : (cl n (mg g b) == 4) = false := by rcases cl_cases n (mg g b) with ⟨_, k⟩ | ⟨_, _, k⟩ | ⟨_, q, k⟩ | ⟨q, k⟩ <;> first | (rw [k]; decide) | omega
  generalize uM n f (mg g b) = mm at *
  generalize uE n f L (mg g b) = xx at *
  generalize cl n (mg g b) = kk at *
  generalize uN g n b = nb at *
  clear hz hb hm u4
  have F0 : Hid (DcB (w.alloc (.cells #[.string ⟨#[]⟩, .int .i64 0, .bool false] 23)) w.heap.size (.string ⟨#[]⟩) (.int .i64 0) (.bool false) ∧ Below w.heap.size w (w.alloc (.cells #[.string ⟨#[]⟩, .int .i64 0, .bool false] 23))) := ⟨DcB.new w _ _ _ _, (Below.refl _ _).alloc (Nat.le_refl _) _⟩
  unfold dcV at *
  go_enter Tryz.func25, Tryz.ntmps25
  go_wp2_with fail
  refine (UN _).mono ?_
  rintro o w1 ⟨rfl, b1⟩
  have F1 : Hid (DcB (w1.alloc (.cells #[.bool nb, .int .i64 kk, .int .u64 (mm : Int), .int .i64 xx] 90)) w.heap.size (.string ⟨#[]⟩) (.int .i64 0) (.bool false) ∧ Below w.heap.size w (w1.alloc (.cells #[.bool nb, .int .i64 kk, .int .u64 (mm : Int), .int .i64 xx] 90))) := ⟨(F0.out.1.step b1).step ((Below.refl _ _).alloc (Nat.le_refl _) _), (F0.out.2.trans (b1.mono F0.out.2.size)).alloc (F0.out.2.trans (b1.mono F0.out.2.size)).size _⟩
  clear b1 F0 UN
  go_wp2_with fail
  refine (DC _).mono ?_
  rintro o w2 ⟨u, P, rfl, hx, b2⟩
  have F2 : Hid (DcB w2 w.heap.size (.string ⟨#[]⟩) (.int .i64 0) (.bool false) ∧ Below w.heap.size w w2 ∧ DcX u P mm xx) := ⟨F1.out.1.step b2, F1.out.2.trans (b2.mono F1.out.2.size), hx⟩
  clear b2 F1 DC hx
  obtain ⟨l5, a0, a1, a2, f0, f1, f2⟩ := F2.out.1
  go_wp2
  exact bodyPost_ret (v := .tuple #[.agg #[.string u, .int .i64 P, .bool false], .int .i64 0]) (by simp [results, Tryz.results25, go_sem, World.cell?_setCell_same, World.cell?_setCell_other, *]) rfl ⟨u, P, rfl, F2.out.2.2, ((F2.out.2.1.setCell (Nat.le_refl _) _).setCell (Nat.le_refl _) _).setCell (Nat.le_refl _) _⟩
end Go.Proofs.YtfoaeholbidngaaGreatDoor
