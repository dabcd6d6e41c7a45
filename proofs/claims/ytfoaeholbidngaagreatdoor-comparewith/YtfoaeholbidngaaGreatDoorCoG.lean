/-
  What the document's above and Bounds of layer 16 answer, and Exact's errors.
-/
import Derived.Test.YtfoaeholbidngaaGreatDoorCoF
import Derived.Deep.RegionHeld3
namespace Go.Proofs.YtfoaeholbidngaaGreatDoor
open Go.RowKit

theorem DcB.far {W : World} {K : Nat} {a b c : Value} (h : DcB W K a b c) (p : Addr) (v : Value) (n : K ≠ p.block) : DcB (W.setCell p v) K a b c := by
  have e : (W.setCell p v).heap[K]? = W.heap[K]? := Below.heap_setCell W p v K n
  have k := fun o => World.cell?_of_block (w := W) (w' := W.setCell p v) (a := ⟨K, o, none⟩) e
  have j := fun o => World.frozen?_of_block (w := W) (w' := W.setCell p v) (a := ⟨K, o, none⟩) e
  have z : K < (W.setCell p v).heap.size := by simpa using h.lt
  exact ⟨z, (k 0).trans h.a0, (k 1).trans h.a1, (k 2).trans h.a2, (j 0).trans h.f0, (j 1).trans h.f1, (j 2).trans h.f2⟩
theorem DcB.fill {W : World} {K : Nat} {a b c : Value} (h : DcB W K a b c) (x y z : Value) : DcB (((W.setCell ⟨K, 0, none⟩ x).setCell ⟨K, 1, none⟩ y).setCell ⟨K, 2, none⟩ z) K x y z := by
  obtain ⟨l, a0, a1, a2, f0, f1, f2⟩ := h
  refine ⟨by simpa using l, ?_, ?_, ?_, (World.frozen?_setCell ..).trans ((World.frozen?_setCell ..).trans ((World.frozen?_setCell ..).trans f0)), (World.frozen?_setCell ..).trans ((World.frozen?_setCell ..).trans ((World.frozen?_setCell ..).trans f1)), (World.frozen?_setCell ..).trans ((World.frozen?_setCell ..).trans ((World.frozen?_setCell ..).trans f2))⟩
  · exact (World.cell?_setCell_other _ ⟨K, 2, none⟩ ⟨K, 0, none⟩ z (by intro e; cases e)).trans ((World.cell?_setCell_other _ ⟨K, 1, none⟩ ⟨K, 0, none⟩ y (by intro e; cases e)).trans (World.cell?_setCell_same _ _ _ a0))
  · exact (World.cell?_setCell_other _ ⟨K, 2, none⟩ ⟨K, 1, none⟩ z (by intro e; cases e)).trans (World.cell?_setCell_same _ _ _ ((World.cell?_setCell_other _ ⟨K, 0, none⟩ ⟨K, 1, none⟩ x (by intro e; cases e)).trans a1))
  · exact World.cell?_setCell_same _ _ _ ((World.cell?_setCell_other _ ⟨K, 1, none⟩ ⟨K, 2, none⟩ y (by intro e; cases e)).trans ((World.cell?_setCell_other _ ⟨K, 0, none⟩ ⟨K, 2, none⟩ x (by intro e; cases e)).trans a2))
theorem DcB.al {W : World} {K : Nat} {a b c : Value} (h : DcB W K a b c) (o : Obj) : DcB (W.alloc o) K a b c := h.step ((Below.refl _ _).alloc (Nat.le_refl _) _)
set_option maxRecDepth 100000 in
set_option maxHeartbeats 1000000 in
theorem exact16_err {s b : Int} {x0 : Bool} {x1 x2 x3 k : Int} (k0 : (k == 0) = false) {w : World}
    (UN : ∀ W, Calls Tryz.prog 50 #[.int .u64 b, .int .i64 s] W fun e w' => e = .returned (.tuple #[.agg #[.bool x0, .int .i64 x1, .int .u64 x2, .int .i64 x3], .int .i64 k]) ∧ Below W.heap.size W w') :
    Calls Tryz.prog 25 #[.int .u64 b, .int .i64 s] w fun e w' => e = .returned (.tuple #[dcV ⟨#[]⟩ 0 false, .int .i64 k]) ∧ Below w.heap.size w w' := by
  have F0 : Hid (DcB (w.alloc (.cells #[.string ⟨#[]⟩, .int .i64 0, .bool false] 23)) w.heap.size (.string ⟨#[]⟩) (.int .i64 0) (.bool false) ∧ Below w.heap.size w (w.alloc (.cells #[.string ⟨#[]⟩, .int .i64 0, .bool false] 23))) := ⟨DcB.new w _ _ _ _, (Below.refl _ _).alloc (Nat.le_refl _) _⟩
  unfold dcV at *
  go_enter Tryz.func25, Tryz.ntmps25
  go_wp2_with fail
  refine (UN _).mono ?_
  rintro o w1 ⟨rfl, b1⟩
  have F1 : Hid (DcB w1 w.heap.size (.string ⟨#[]⟩) (.int .i64 0) (.bool false) ∧ Below w.heap.size w w1) := ⟨F0.out.1.step b1, F0.out.2.trans (b1.mono F0.out.2.size)⟩
  clear b1 F0 UN
  obtain ⟨l5, a0, a1, a2, f0, f1, f2⟩ := F1.out.1
  go_wp2
  exact bodyPost_ret (v := .tuple #[.agg #[.string ⟨#[]⟩, .int .i64 0, .bool false], .int .i64 k]) (by simp [results, Tryz.results25, go_sem, World.cell?_setCell_same, World.cell?_setCell_other, *]) rfl ⟨rfl, ((((F1.out.2.setCell (Nat.le_refl _) _).setCell (Nat.le_refl _) _).setCell (Nat.le_refl _) _).alloc (by simpa using F1.out.2.size) _)⟩
set_option maxRecDepth 100000 in
set_option maxHeartbeats 1000000 in
theorem exact16_inf {s b : Int} {x0 : Bool} {x2 x3 : Int} {w : World}
    (UN : ∀ W, Calls Tryz.prog 50 #[.int .u64 b, .int .i64 s] W fun e w' => e = .returned (.tuple #[.agg #[.bool x0, .int .i64 3, .int .u64 x2, .int .i64 x3], .int .i64 0]) ∧ Below W.heap.size W w') :
    Calls Tryz.prog 25 #[.int .u64 b, .int .i64 s] w fun e w' => e = .returned (.tuple #[dcV ⟨#[]⟩ 0 false, .int .i64 1]) ∧ Below w.heap.size w w' := by
  have F0 : Hid (DcB (w.alloc (.cells #[.string ⟨#[]⟩, .int .i64 0, .bool false] 23)) w.heap.size (.string ⟨#[]⟩) (.int .i64 0) (.bool false) ∧ Below w.heap.size w (w.alloc (.cells #[.string ⟨#[]⟩, .int .i64 0, .bool false] 23))) := ⟨DcB.new w _ _ _ _, (Below.refl _ _).alloc (Nat.le_refl _) _⟩
  unfold dcV at *
  go_enter Tryz.func25, Tryz.ntmps25
  go_wp2_with fail
  refine (UN _).mono ?_
  rintro o w1 ⟨rfl, b1⟩
  have F1 : Hid (DcB w1 w.heap.size (.string ⟨#[]⟩) (.int .i64 0) (.bool false) ∧ Below w.heap.size w w1) := ⟨F0.out.1.step b1, F0.out.2.trans (b1.mono F0.out.2.size)⟩
  clear b1 F0 UN
  obtain ⟨l5, a0, a1, a2, f0, f1, f2⟩ := F1.out.1
  go_wp2
  exact bodyPost_ret (v := .tuple #[.agg #[.string ⟨#[]⟩, .int .i64 0, .bool false], .int .i64 1]) (by simp [results, Tryz.results25, go_sem, World.cell?_setCell_same, World.cell?_setCell_other, *]) rfl ⟨rfl, ((((F1.out.2.setCell (Nat.le_refl _) _).setCell (Nat.le_refl _) _).setCell (Nat.le_refl _) _).alloc (by simpa using F1.out.2.size) _)⟩
set_option maxRecDepth 100000 in
set_option maxHeartbeats 1000000 in
theorem exact16_nan {s b : Int} {x0 : Bool} {x2 x3 : Int} {w : World}
    (UN : ∀ W, Calls Tryz.prog 50 #[.int .u64 b, .int .i64 s] W fun e w' => e = .returned (.tuple #[.agg #[.bool x0, .int .i64 4, .int .u64 x2, .int .i64 x3], .int .i64 0]) ∧ Below W.heap.size W w') :
    Calls Tryz.prog 25 #[.int .u64 b, .int .i64 s] w fun e w' => e = .returned (.tuple #[dcV ⟨#[]⟩ 0 false, .int .i64 1]) ∧ Below w.heap.size w w' := by
  have F0 : Hid (DcB (w.alloc (.cells #[.string ⟨#[]⟩, .int .i64 0, .bool false] 23)) w.heap.size (.string ⟨#[]⟩) (.int .i64 0) (.bool false) ∧ Below w.heap.size w (w.alloc (.cells #[.string ⟨#[]⟩, .int .i64 0, .bool false] 23))) := ⟨DcB.new w _ _ _ _, (Below.refl _ _).alloc (Nat.le_refl _) _⟩
  unfold dcV at *
  go_enter Tryz.func25, Tryz.ntmps25
  go_wp2_with fail
  refine (UN _).mono ?_
  rintro o w1 ⟨rfl, b1⟩
  have F1 : Hid (DcB w1 w.heap.size (.string ⟨#[]⟩) (.int .i64 0) (.bool false) ∧ Below w.heap.size w w1) := ⟨F0.out.1.step b1, F0.out.2.trans (b1.mono F0.out.2.size)⟩
  clear b1 F0 UN
  obtain ⟨l5, a0, a1, a2, f0, f1, f2⟩ := F1.out.1
  go_wp2
  exact bodyPost_ret (v := .tuple #[.agg #[.string ⟨#[]⟩, .int .i64 0, .bool false], .int .i64 1]) (by simp [results, Tryz.results25, go_sem, World.cell?_setCell_same, World.cell?_setCell_other, *]) rfl ⟨rfl, ((((F1.out.2.setCell (Nat.le_refl _) _).setCell (Nat.le_refl _) _).setCell (Nat.le_refl _) _).alloc (by simpa using F1.out.2.size) _)⟩
set_option maxRecDepth 100000 in
set_option maxHeartbeats 1000000 in
theorem above_zero {s : Int} {g n f T : Nat} {L : Int} (hz : Fz s g n f T L) (w : World) :
    Calls Tryz.prog 52 #[.int .u64 0, .int .i64 s] w fun e w' => ∃ u P, e = .returned (dcV u P false) ∧ DcX u P (hM f 0) (hX f L 0) ∧ Below w.heap.size w w' := by
  obtain ⟨en, hg, h2, g0⟩ := fz_parts hz
  have n0 : 0 < n := by rcases hz with ⟨_, _, rfl, _⟩ | ⟨_, _, rfl, _⟩ <;> decide
  have UN := fun W => runp_z hz (b := 0) (by omega) W
  rw [mg_self g0] at UN
  unfold uM uE at UN
  rw [cl_zero, if_neg (by decide), if_neg (by decide)] at UN
  simp only [Int.cast_ofNat_Int] at UN
  have DC := fun W => decimal_any (m := 1) (x := L - 1) (by decide) (by rcases hz with ⟨_, _, _, _, _, rfl⟩ | ⟨_, _, _, _, _, rfl⟩ <;> decide) (by rcases hz with ⟨_, _, _, _, _, rfl⟩ | ⟨_, _, _, _, _, rfl⟩ <;> decide) (fun z => absurd z (by decide)) W
  simp only [Int.cast_ofNat_Int] at DC
  have eH : hM f 0 = 1 ∧ hX f L 0 = L - 1 := by unfold hM hX; rw [mt_nought, xp_nought]; exact ⟨rfl, rfl⟩
  rw [eH.1, eH.2]
  have hs : (s = 32 ∧ L = -149) ∨ (s = 64 ∧ L = -1074) := by rcases hz with ⟨rfl, _, _, _, _, rfl⟩ | ⟨rfl, _, _, _, _, rfl⟩ <;> simp
  generalize uN g n 0 = nb at *
  clear eH en hg h2 g0 n0 hz
  have F0 : Hid (DcB (w.alloc (.cells #[.string ⟨#[]⟩, .int .i64 0, .bool false] 23)) w.heap.size (.string ⟨#[]⟩) (.int .i64 0) (.bool false) ∧ Below w.heap.size w (w.alloc (.cells #[.string ⟨#[]⟩, .int .i64 0, .bool false] 23))) := ⟨DcB.new w _ _ _ _, (Below.refl _ _).alloc (Nat.le_refl _) _⟩
  unfold dcV at *
  rcases hs with ⟨rfl, rfl⟩ | ⟨rfl, rfl⟩
  · go_enter Tryz.func52, Tryz.ntmps52
    go_wp2_with fail
    refine (UN _).mono ?_
    rintro o w1 ⟨rfl, b1⟩
    have F1 : Hid (DcB w1 w.heap.size (.string ⟨#[]⟩) (.int .i64 0) (.bool false) ∧ Below w.heap.size w w1) := ⟨F0.out.1.step b1, F0.out.2.trans (b1.mono F0.out.2.size)⟩
    clear b1 F0 UN
    have l1 := F1.out.1.lt
    rw [show (-149 : Int) - 1 = -150 from rfl] at DC
    go_wp2_with fail
    refine (DC _).mono ?_
    rintro o w2 ⟨u, P, rfl, hx, b2⟩
    have F2 : Hid (DcB w2 w.heap.size (.string ⟨#[]⟩) (.int .i64 0) (.bool false) ∧ Below w.heap.size w w2) := ⟨(F1.out.1.al _).step b2, (F1.out.2.alloc F1.out.2.size _).trans (b2.mono (by have := F1.out.2.size; simp; omega))⟩
    have HX : Hid _ := hx
    clear b2 F1 DC hx
    obtain ⟨l5, a0, a1, a2, f0, f1, f2⟩ := F2.out.1
    go_wp2
    exact bodyPost_ret (v := .agg #[.string u, .int .i64 P, .bool false]) (by simp [results, Tryz.results52, go_sem, World.cell?_setCell_same, World.cell?_setCell_other, *]) rfl ⟨u, P, rfl, HX.out, ((F2.out.2.setCell (Nat.le_refl _) _).setCell (Nat.le_refl _) _).setCell (Nat.le_refl _) _⟩
  · go_enter Tryz.func52, Tryz.ntmps52
    go_wp2_with fail
    refine (UN _).mono ?_
    rintro o w1 ⟨rfl, b1⟩
    have F1 : Hid (DcB w1 w.heap.size (.string ⟨#[]⟩) (.int .i64 0) (.bool false) ∧ Below w.heap.size w w1) := ⟨F0.out.1.step b1, F0.out.2.trans (b1.mono F0.out.2.size)⟩
    clear b1 F0 UN
    have l1 := F1.out.1.lt
    rw [show (-1074 : Int) - 1 = -1075 from rfl] at DC
    go_wp2_with fail
    refine (DC _).mono ?_
    rintro o w2 ⟨u, P, rfl, hx, b2⟩
    have F2 : Hid (DcB w2 w.heap.size (.string ⟨#[]⟩) (.int .i64 0) (.bool false) ∧ Below w.heap.size w w2) := ⟨(F1.out.1.al _).step b2, (F1.out.2.alloc F1.out.2.size _).trans (b2.mono (by have := F1.out.2.size; simp; omega))⟩
    have HX : Hid _ := hx
    clear b2 F1 DC hx
    obtain ⟨l5, a0, a1, a2, f0, f1, f2⟩ := F2.out.1
    go_wp2
    exact bodyPost_ret (v := .agg #[.string u, .int .i64 P, .bool false]) (by simp [results, Tryz.results52, go_sem, World.cell?_setCell_same, World.cell?_setCell_other, *]) rfl ⟨u, P, rfl, HX.out, ((F2.out.2.setCell (Nat.le_refl _) _).setCell (Nat.le_refl _) _).setCell (Nat.le_refl _) _⟩
set_option maxRecDepth 100000 in
set_option maxHeartbeats 1000000 in
theorem above_some {s : Int} {g n f T : Nat} {L : Int} (hz : Fz s g n f T L) {b : Nat} (b0 : b ≠ 0) (hb : b < n) (w : World) :
    Calls Tryz.prog 52 #[.int .u64 (b : Int), .int .i64 s] w fun e w' => ∃ u P, e = .returned (dcV u P false) ∧ DcX u P (hM f b) (hX f L b) ∧ Below w.heap.size w w' := by
  obtain ⟨en, hg, h2, g0⟩ := fz_parts hz
  have UN := fun W => runp_z hz (b := b) (by omega) W
  rw [mg_self (show b < g by omega)] at UN
  have U := uM_lim hz hb
  have eM : uM n f b = mt f b := U.2.2.2.2.1
  have eX : uE n f L b = xp f L b := U.2.2.2.2.2 b0
  obtain ⟨p1, p2, p3⟩ := parts_lim hz hb
  rw [eM, eX] at UN
  have DC := fun W => decimal_any (m := 2 * mt f b + 1) (x := xp f L b - 1) (by omega) (by omega) (by omega) (fun z => absurd z (by omega)) W
  rw [show ((2 * mt f b + 1 : Nat) : Int) = 2 * (mt f b : Int) + 1 from by omega] at DC
  have q0 : ((b : Int) == 0) = false := by rw [beq_eq_false_iff_ne]; omega
  unfold hM hX
  generalize uN g n b = nb at *
  generalize cl n b = kk at *
  generalize mt f b = mm at *
  generalize xp f L b = xx at *
  clear eM eX U en hg h2 g0 hz hb b0
  have F0 : Hid (DcB (w.alloc (.cells #[.string ⟨#[]⟩, .int .i64 0, .bool false] 23)) w.heap.size (.string ⟨#[]⟩) (.int .i64 0) (.bool false) ∧ Below w.heap.size w (w.alloc (.cells #[.string ⟨#[]⟩, .int .i64 0, .bool false] 23))) := ⟨DcB.new w _ _ _ _, (Below.refl _ _).alloc (Nat.le_refl _) _⟩
  unfold dcV at *
  go_enter Tryz.func52, Tryz.ntmps52
  go_wp2_with fail
  refine (UN _).mono ?_
  rintro o w1 ⟨rfl, b1⟩
  have F1 : Hid (DcB w1 w.heap.size (.string ⟨#[]⟩) (.int .i64 0) (.bool false) ∧ Below w.heap.size w w1) := ⟨F0.out.1.step b1, F0.out.2.trans (b1.mono F0.out.2.size)⟩
  clear b1 F0 UN
  have l1 := F1.out.1.lt
  go_wp2_with fail
  refine (DC _).mono ?_
  rintro o w2 ⟨u, P, rfl, hx, b2⟩
  have F2 : Hid (DcB w2 w.heap.size (.string ⟨#[]⟩) (.int .i64 0) (.bool false) ∧ Below w.heap.size w w2) := ⟨(F1.out.1.al _).step b2, (F1.out.2.alloc F1.out.2.size _).trans (b2.mono (by have := F1.out.2.size; simp; omega))⟩
  have HX : Hid _ := hx
  clear b2 F1 DC hx
  obtain ⟨l5, a0, a1, a2, f0, f1, f2⟩ := F2.out.1
  go_wp2
  exact bodyPost_ret (v := .agg #[.string u, .int .i64 P, .bool false]) (by simp [results, Tryz.results52, go_sem, World.cell?_setCell_same, World.cell?_setCell_other, *]) rfl ⟨u, P, rfl, HX.out, ((F2.out.2.setCell (Nat.le_refl _) _).setCell (Nat.le_refl _) _).setCell (Nat.le_refl _) _⟩
theorem above_any {s : Int} {g n f T : Nat} {L : Int} (hz : Fz s g n f T L) {b : Nat} (hb : b < n) (w : World) :
    Calls Tryz.prog 52 #[.int .u64 (b : Int), .int .i64 s] w fun e w' => ∃ u P, e = .returned (dcV u P false) ∧ DcX u P (hM f b) (hX f L b) ∧ Below w.heap.size w w' := by
  by_cases b0 : b = 0
  · subst b0
    exact above_zero hz w
  · exact above_some hz b0 hb w
set_option maxRecDepth 100000 in
set_option maxHeartbeats 1000000 in
theorem bounds16_err {s b k : Int} (k0 : (k == 0) = false) {w : World}
    (EX : ∀ W, Calls Tryz.prog 25 #[.int .u64 b, .int .i64 s] W fun e w' => e = .returned (.tuple #[dcV ⟨#[]⟩ 0 false, .int .i64 k]) ∧ Below W.heap.size W w') :
    Calls Tryz.prog 26 #[.int .u64 b, .int .i64 s] w fun e w' => e = .returned (.tuple #[dcV ⟨#[]⟩ 0 false, dcV ⟨#[]⟩ 0 false, .bool false, .int .i64 k]) ∧ Below w.heap.size w w' := by
  have F0 : Hid (DcB ((w.alloc (.cells #[.string ⟨#[]⟩, .int .i64 0, .bool false] 23)).alloc (.cells #[.string ⟨#[]⟩, .int .i64 0, .bool false] 23)) w.heap.size (.string ⟨#[]⟩) (.int .i64 0) (.bool false) ∧ DcB ((w.alloc (.cells #[.string ⟨#[]⟩, .int .i64 0, .bool false] 23)).alloc (.cells #[.string ⟨#[]⟩, .int .i64 0, .bool false] 23)) (w.heap.size + 1) (.string ⟨#[]⟩) (.int .i64 0) (.bool false) ∧ Below w.heap.size w ((w.alloc (.cells #[.string ⟨#[]⟩, .int .i64 0, .bool false] 23)).alloc (.cells #[.string ⟨#[]⟩, .int .i64 0, .bool false] 23))) := ⟨(DcB.new w _ _ _ _).al _, by have q := DcB.new (w.alloc (.cells #[.string ⟨#[]⟩, .int .i64 0, .bool false] 23)) (.string ⟨#[]⟩) (.int .i64 0) (.bool false) 23; simpa using q, ((Below.refl _ _).alloc (Nat.le_refl _) _).alloc (by simp) _⟩
  unfold dcV at *
  go_enter Tryz.func26, Tryz.ntmps26
  go_wp2_with fail
  refine (EX _).mono ?_
  rintro o w1 ⟨rfl, b1⟩
  have F1 : Hid (DcB w1 w.heap.size (.string ⟨#[]⟩) (.int .i64 0) (.bool false) ∧ DcB w1 (w.heap.size + 1) (.string ⟨#[]⟩) (.int .i64 0) (.bool false) ∧ Below w.heap.size w w1) := ⟨F0.out.1.step b1, F0.out.2.1.step b1, F0.out.2.2.trans (b1.mono F0.out.2.2.size)⟩
  clear b1 F0 EX
  obtain ⟨l5, a0, a1, a2, f0, f1, f2⟩ := F1.out.1
  obtain ⟨l6, c0, c1, c2, g0, g1, g2⟩ := F1.out.2.1
  go_wp2
  exact bodyPost_ret (v := .tuple #[.agg #[.string ⟨#[]⟩, .int .i64 0, .bool false], .agg #[.string ⟨#[]⟩, .int .i64 0, .bool false], .bool false, .int .i64 k]) (by simp [results, Tryz.results26, go_sem, World.cell?_setCell_same, World.cell?_setCell_other, *]) rfl ⟨rfl, ((((((F1.out.2.2.setCell (Nat.le_refl _) _).setCell (Nat.le_refl _) _).setCell (Nat.le_refl _) _).setCell (Nat.le_succ _) _).setCell (Nat.le_succ _) _).setCell (Nat.le_succ _) _).alloc (by simpa using F1.out.2.2.size) _⟩
set_option maxRecDepth 100000 in
set_option maxHeartbeats 2000000 in
theorem bounds16_zero {s : Int} {g n f T : Nat} {L : Int} (hz : Fz s g n f T L) {c : Nat} (hc : c < 2 * g) (ec : mg g c = 0) {w : World} :
    Calls Tryz.prog 26 #[.int .u64 (c : Int), .int .i64 s] w fun e w' => ∃ u P u' P', e = .returned (.tuple #[dcV u P false, dcV u' P' false, .bool true, .int .i64 0]) ∧ (u = ⟨#[]⟩ ∧ P = 0) ∧ DcX u' P' (hM f 0) (hX f L 0) ∧ Below w.heap.size w w' := by
  obtain ⟨en, hg, h2, g0⟩ := fz_parts hz
  have n0 : 0 < n := by rcases hz with ⟨_, _, rfl, _⟩ | ⟨_, _, rfl, _⟩ <;> decide
  have EX := fun W => exact16_ok hz (b := c) hc (by rw [ec]; omega) W
  have MG := fun W => rmag_z hz (b := c) hc W
  rw [ec] at MG
  have AH := fun W => above_any hz (b := 0) (by omega) W
  simp only [Int.cast_ofNat_Int] at MG AH
  obtain ⟨RH, hRH⟩ : ∃ RH : ByteArray → Int → Prop, RH = fun u P => DcX u P (hM f 0) (hX f L 0) := ⟨_, rfl⟩
  have HRH : Hid (∀ u P, RH u P ↔ DcX u P (hM f 0) (hX f L 0)) := fun u P => by rw [hRH]
  have AH2 : ∀ W, Calls Tryz.prog 52 #[.int .u64 0, .int .i64 s] W fun e w' => ∃ u P, e = .returned (dcV u P false) ∧ RH u P ∧ Below W.heap.size W w' := fun W => by rw [hRH]; exact AH W
  have EX2 : ∀ W, Calls Tryz.prog 25 #[.int .u64 (c : Int), .int .i64 s] W fun e w' => ∃ u P, e = .returned (.tuple #[dcV u P false, .int .i64 0]) ∧ Below W.heap.size W w' := fun W => (EX W).mono fun _ _ ⟨u, P, h1, _, h3⟩ => ⟨u, P, h1, h3⟩
  have c9 : c < 18446744073709551616 := by omega
  clear AH EX hRH en hg h2 g0 n0 hz hc ec
  have F0 : Hid (DcB ((w.alloc (.cells #[.string ⟨#[]⟩, .int .i64 0, .bool false] 23)).alloc (.cells #[.string ⟨#[]⟩, .int .i64 0, .bool false] 23)) w.heap.size (.string ⟨#[]⟩) (.int .i64 0) (.bool false) ∧ DcB ((w.alloc (.cells #[.string ⟨#[]⟩, .int .i64 0, .bool false] 23)).alloc (.cells #[.string ⟨#[]⟩, .int .i64 0, .bool false] 23)) (w.heap.size + 1) (.string ⟨#[]⟩) (.int .i64 0) (.bool false) ∧ Below w.heap.size w ((w.alloc (.cells #[.string ⟨#[]⟩, .int .i64 0, .bool false] 23)).alloc (.cells #[.string ⟨#[]⟩, .int .i64 0, .bool false] 23))) := ⟨(DcB.new w _ _ _ _).al _, by have q := DcB.new (w.alloc (.cells #[.string ⟨#[]⟩, .int .i64 0, .bool false] 23)) (.string ⟨#[]⟩) (.int .i64 0) (.bool false) 23; simpa using q, ((Below.refl _ _).alloc (Nat.le_refl _) _).alloc (by simp) _⟩
  unfold dcV at *
  go_enter Tryz.func26, Tryz.ntmps26
  go_wp2_with fail
  refine (EX2 _).mono ?_
  rintro o w1 ⟨ue, Pe, rfl, b1⟩
  have F1 : Hid (DcB (w1.alloc (.cells #[.string ue, .int .i64 Pe, .bool false] 23)) w.heap.size (.string ⟨#[]⟩) (.int .i64 0) (.bool false) ∧ DcB (w1.alloc (.cells #[.string ue, .int .i64 Pe, .bool false] 23)) (w.heap.size + 1) (.string ⟨#[]⟩) (.int .i64 0) (.bool false) ∧ Below w.heap.size w (w1.alloc (.cells #[.string ue, .int .i64 Pe, .bool false] 23))) := ⟨(F0.out.1.step b1).al _, (F0.out.2.1.step b1).al _, (F0.out.2.2.trans (b1.mono F0.out.2.2.size)).alloc (F0.out.2.2.trans (b1.mono F0.out.2.2.size)).size _⟩
  clear b1 F0 EX2
  go_wp2_with fail
  refine (MG _).mono ?_
  rintro o w2 ⟨rfl, rfl⟩
  clear MG
  have nl : w.heap.size + 1 < w1.heap.size + 1 := by have := F1.out.2.1.lt; simpa using this
  have F3 : Hid (DcB ((w1.alloc (.cells #[.string ue, .int .i64 Pe, .bool false] 23)).alloc (.cells #[.string ⟨#[]⟩, .int .i64 0, .bool false] 23)) w.heap.size (.string ⟨#[]⟩) (.int .i64 0) (.bool false) ∧ DcB ((w1.alloc (.cells #[.string ue, .int .i64 Pe, .bool false] 23)).alloc (.cells #[.string ⟨#[]⟩, .int .i64 0, .bool false] 23)) (w.heap.size + 1) (.string ⟨#[]⟩) (.int .i64 0) (.bool false) ∧ Below w.heap.size w ((w1.alloc (.cells #[.string ue, .int .i64 Pe, .bool false] 23)).alloc (.cells #[.string ⟨#[]⟩, .int .i64 0, .bool false] 23)) ∧ DcB ((w1.alloc (.cells #[.string ue, .int .i64 Pe, .bool false] 23)).alloc (.cells #[.string ⟨#[]⟩, .int .i64 0, .bool false] 23)) (w1.heap.size + 1) (.string ⟨#[]⟩) (.int .i64 0) (.bool false)) := ⟨F1.out.1.al _, F1.out.2.1.al _, F1.out.2.2.alloc F1.out.2.2.size _, by have q := DcB.new (w1.alloc (.cells #[.string ue, .int .i64 Pe, .bool false] 23)) (.string ⟨#[]⟩) (.int .i64 0) (.bool false) 23; simpa using q⟩
  clear F1
  go_upto_region 8 with fail
  generalize (w1.alloc (.cells #[.string ue, .int .i64 Pe, .bool false] 23)).alloc (.cells #[.string ⟨#[]⟩, .int .i64 0, .bool false] 23) = v at *
  have F4 : Hid (DcB v.drew w.heap.size (.string ⟨#[]⟩) (.int .i64 0) (.bool false) ∧ DcB v.drew (w.heap.size + 1) (.string ⟨#[]⟩) (.int .i64 0) (.bool false) ∧ Below w.heap.size w v.drew ∧ DcB v.drew (w1.heap.size + 1) (.string ⟨#[]⟩) (.int .i64 0) (.bool false)) := ⟨F3.out.1.step (Below.refl _ _).drew, F3.out.2.1.step (Below.refl _ _).drew, F3.out.2.2.1.drew, F3.out.2.2.2.step (Below.refl _ _).drew⟩
  obtain ⟨k1, _, _, _, f0, f1, f2⟩ := F3.out.1
  obtain ⟨k2, _, _, _, g0, g1, g2⟩ := F3.out.2.1
  obtain ⟨k3, l0, l1, l2, _, _, _⟩ := F3.out.2.2.2
  go_region_held3 (fun w' => w'.cell? ⟨w1.heap.size + 1, 0, none⟩ = some (.string ⟨#[]⟩) ∧ w'.cell? ⟨w1.heap.size + 1, 1, none⟩ = some (.int .i64 0) ∧ w'.cell? ⟨w1.heap.size + 1, 2, none⟩ = some (.bool false) ∧ w'.frozen? ⟨w.heap.size, 0, none⟩ = false ∧ w'.frozen? ⟨w.heap.size, 1, none⟩ = false ∧ w'.frozen? ⟨w.heap.size, 2, none⟩ = false ∧ w'.frozen? ⟨w.heap.size + 1, 0, none⟩ = false ∧ w'.frozen? ⟨w.heap.size + 1, 1, none⟩ = false ∧ w'.frozen? ⟨w.heap.size + 1, 2, none⟩ = false) (simp [*, go_sem, World.cell?_setCell_other])
    (first
      | (go_at_call 52; refine (AH2 _).mono ?_; rintro o w5 ⟨uh, Ph, rfl, hh, b5⟩; have HH : Hid (RH uh Ph) := hh; have F7 : Hid (DcB w5 w.heap.size (.string ⟨#[]⟩) (.int .i64 0) (.bool false) ∧ DcB w5 (w.heap.size + 1) (.string ⟨#[]⟩) (.int .i64 0) (.bool false) ∧ Below w.heap.size w w5 ∧ DcB w5 (w1.heap.size + 1) (.string ⟨#[]⟩) (.int .i64 0) (.bool false)) := ⟨F4.out.1.step b5, F4.out.2.1.step b5, F4.out.2.2.1.trans (b5.mono F4.out.2.2.1.size), F4.out.2.2.2.step b5⟩; clear b5 hh; obtain ⟨h1, p0, p1, p2, fa0, fa1, fa2⟩ := F7.out.1; obtain ⟨h2, r0, r1, r2, ga0, ga1, ga2⟩ := F7.out.2.1; obtain ⟨h3, s0, s1, s2, _, _, _⟩ := F7.out.2.2.2))
  go_wp2
  exact bodyPost_ret (v := .tuple #[.agg #[.string ⟨#[]⟩, .int .i64 0, .bool false], .agg #[.string uh, .int .i64 Ph, .bool false], .bool true, .int .i64 0]) (by simp [results, Tryz.results26, go_sem, World.cell?_setCell_same, World.cell?_setCell_other, *]) rfl ⟨⟨#[]⟩, 0, uh, Ph, rfl, ⟨rfl, rfl⟩, (HRH.out _ _).1 HH.out, (((((F7.out.2.2.1.setCell (Nat.le_refl _) _).setCell (Nat.le_refl _) _).setCell (Nat.le_refl _) _).setCell (Nat.le_succ _) _).setCell (Nat.le_succ _) _).setCell (Nat.le_succ _) _⟩
set_option maxRecDepth 100000 in
set_option maxHeartbeats 2000000 in
theorem bounds16_some {s : Int} {g n f T : Nat} {L : Int} (hz : Fz s g n f T L) {b : Nat} (b0 : b ≠ 0) (hb : b < n) {c : Nat} (hc : c < 2 * g) (ec : mg g c = b) {w : World} :
    Calls Tryz.prog 26 #[.int .u64 (c : Int), .int .i64 s] w fun e w' => ∃ u P u' P', e = .returned (.tuple #[dcV u P false, dcV u' P' false, .bool (decide (b % 2 = 0)), .int .i64 0]) ∧ DcX u P (hM f (b - 1)) (hX f L (b - 1)) ∧ DcX u' P' (hM f b) (hX f L b) ∧ Below w.heap.size w w' := by
  obtain ⟨en, hg, h2, g0⟩ := fz_parts hz
  have n0 : 0 < n := by rcases hz with ⟨_, _, rfl, _⟩ | ⟨_, _, rfl, _⟩ <;> decide
  have EX := fun W => exact16_ok hz (b := c) hc (by rw [ec]; omega) W
  have MG := fun W => rmag_z hz (b := c) hc W
  rw [ec] at MG
  have AH := fun W => above_any hz (b := b) (by omega) W
  have AL := fun W => above_any hz (b := b - 1) (by omega) W
  rw [show ((b - 1 : Nat) : Int) = (b : Int) - 1 from by omega] at AL
  have q0 : (0 : Int) < (b : Int) := by omega
  have q1 : b < 18446744073709551616 := by omega
  obtain ⟨RL, hRL⟩ : ∃ RL : ByteArray → Int → Prop, RL = fun u P => DcX u P (hM f (b - 1)) (hX f L (b - 1)) := ⟨_, rfl⟩
  have HRL : Hid (∀ u P, RL u P ↔ DcX u P (hM f (b - 1)) (hX f L (b - 1))) := fun u P => by rw [hRL]
  have AL2 : ∀ W, Calls Tryz.prog 52 #[.int .u64 ((b : Int) - 1), .int .i64 s] W fun e w' => ∃ u P, e = .returned (dcV u P false) ∧ RL u P ∧ Below W.heap.size W w' := fun W => by rw [hRL]; exact AL W
  clear AL hRL
  obtain ⟨RH, hRH⟩ : ∃ RH : ByteArray → Int → Prop, RH = fun u P => DcX u P (hM f b) (hX f L b) := ⟨_, rfl⟩
  have HRH : Hid (∀ u P, RH u P ↔ DcX u P (hM f b) (hX f L b)) := fun u P => by rw [hRH]
  have AH2 : ∀ W, Calls Tryz.prog 52 #[.int .u64 (b : Int), .int .i64 s] W fun e w' => ∃ u P, e = .returned (dcV u P false) ∧ RH u P ∧ Below W.heap.size W w' := fun W => by rw [hRH]; exact AH W
  have EX2 : ∀ W, Calls Tryz.prog 25 #[.int .u64 (c : Int), .int .i64 s] W fun e w' => ∃ u P, e = .returned (.tuple #[dcV u P false, .int .i64 0]) ∧ Below W.heap.size W w' := fun W => (EX W).mono fun _ _ ⟨u, P, h1, _, h3⟩ => ⟨u, P, h1, h3⟩
  have c9 : c < 18446744073709551616 := by omega
  clear AH EX hRH en hg h2 g0 n0 hz hc ec hb b0
  have F0 : Hid (DcB ((w.alloc (.cells #[.string ⟨#[]⟩, .int .i64 0, .bool false] 23)).alloc (.cells #[.string ⟨#[]⟩, .int .i64 0, .bool false] 23)) w.heap.size (.string ⟨#[]⟩) (.int .i64 0) (.bool false) ∧ DcB ((w.alloc (.cells #[.string ⟨#[]⟩, .int .i64 0, .bool false] 23)).alloc (.cells #[.string ⟨#[]⟩, .int .i64 0, .bool false] 23)) (w.heap.size + 1) (.string ⟨#[]⟩) (.int .i64 0) (.bool false) ∧ Below w.heap.size w ((w.alloc (.cells #[.string ⟨#[]⟩, .int .i64 0, .bool false] 23)).alloc (.cells #[.string ⟨#[]⟩, .int .i64 0, .bool false] 23))) := ⟨(DcB.new w _ _ _ _).al _, by have q := DcB.new (w.alloc (.cells #[.string ⟨#[]⟩, .int .i64 0, .bool false] 23)) (.string ⟨#[]⟩) (.int .i64 0) (.bool false) 23; simpa using q, ((Below.refl _ _).alloc (Nat.le_refl _) _).alloc (by simp) _⟩
  unfold dcV at *
  go_enter Tryz.func26, Tryz.ntmps26
  go_wp2_with fail
  refine (EX2 _).mono ?_
  rintro o w1 ⟨ue, Pe, rfl, b1⟩
  have F1 : Hid (DcB (w1.alloc (.cells #[.string ue, .int .i64 Pe, .bool false] 23)) w.heap.size (.string ⟨#[]⟩) (.int .i64 0) (.bool false) ∧ DcB (w1.alloc (.cells #[.string ue, .int .i64 Pe, .bool false] 23)) (w.heap.size + 1) (.string ⟨#[]⟩) (.int .i64 0) (.bool false) ∧ Below w.heap.size w (w1.alloc (.cells #[.string ue, .int .i64 Pe, .bool false] 23))) := ⟨(F0.out.1.step b1).al _, (F0.out.2.1.step b1).al _, (F0.out.2.2.trans (b1.mono F0.out.2.2.size)).alloc (F0.out.2.2.trans (b1.mono F0.out.2.2.size)).size _⟩
  clear b1 F0 EX2
  go_wp2_with fail
  refine (MG _).mono ?_
  rintro o w2 ⟨rfl, rfl⟩
  clear MG
  have nl : w.heap.size + 1 < w1.heap.size + 1 := by have := F1.out.2.1.lt; simpa using this
  have F3 : Hid (DcB ((w1.alloc (.cells #[.string ue, .int .i64 Pe, .bool false] 23)).alloc (.cells #[.string ⟨#[]⟩, .int .i64 0, .bool false] 23)) w.heap.size (.string ⟨#[]⟩) (.int .i64 0) (.bool false) ∧ DcB ((w1.alloc (.cells #[.string ue, .int .i64 Pe, .bool false] 23)).alloc (.cells #[.string ⟨#[]⟩, .int .i64 0, .bool false] 23)) (w.heap.size + 1) (.string ⟨#[]⟩) (.int .i64 0) (.bool false) ∧ Below w.heap.size w ((w1.alloc (.cells #[.string ue, .int .i64 Pe, .bool false] 23)).alloc (.cells #[.string ⟨#[]⟩, .int .i64 0, .bool false] 23)) ∧ DcB ((w1.alloc (.cells #[.string ue, .int .i64 Pe, .bool false] 23)).alloc (.cells #[.string ⟨#[]⟩, .int .i64 0, .bool false] 23)) (w1.heap.size + 1) (.string ⟨#[]⟩) (.int .i64 0) (.bool false)) := ⟨F1.out.1.al _, F1.out.2.1.al _, F1.out.2.2.alloc F1.out.2.2.size _, by have q := DcB.new (w1.alloc (.cells #[.string ue, .int .i64 Pe, .bool false] 23)) (.string ⟨#[]⟩) (.int .i64 0) (.bool false) 23; simpa using q⟩
  clear F1
  go_wp2_with fail
  all_goals first | (exfalso; omega) | skip
  refine (AL2 _).mono ?_
  rintro o w3 ⟨ul, Pl, rfl, hl, b3⟩
  have HL : Hid (RL ul Pl) := hl
  have F5 : Hid (DcB w3 w.heap.size (.string ⟨#[]⟩) (.int .i64 0) (.bool false) ∧ DcB w3 (w.heap.size + 1) (.string ⟨#[]⟩) (.int .i64 0) (.bool false) ∧ Below w.heap.size w w3 ∧ DcB w3 (w1.heap.size + 1) (.string ⟨#[]⟩) (.int .i64 0) (.bool false)) := ⟨F3.out.1.step b3, F3.out.2.1.step b3, F3.out.2.2.1.trans (b3.mono F3.out.2.2.1.size), F3.out.2.2.2.step b3⟩
  clear b3 F3 hl AL2
  obtain ⟨m3, l0, l1, l2, e0, e1, e2⟩ := F5.out.2.2.2
  go_upto_region 8 with fail
  have F6 : Hid (DcB (((w3.setCell ⟨w1.heap.size + 1, 0, none⟩ (.string ul)).setCell ⟨w1.heap.size + 1, 1, none⟩ (.int .i64 Pl)).setCell ⟨w1.heap.size + 1, 2, none⟩ (.bool false)) w.heap.size (.string ⟨#[]⟩) (.int .i64 0) (.bool false) ∧ DcB (((w3.setCell ⟨w1.heap.size + 1, 0, none⟩ (.string ul)).setCell ⟨w1.heap.size + 1, 1, none⟩ (.int .i64 Pl)).setCell ⟨w1.heap.size + 1, 2, none⟩ (.bool false)) (w.heap.size + 1) (.string ⟨#[]⟩) (.int .i64 0) (.bool false) ∧ Below w.heap.size w (((w3.setCell ⟨w1.heap.size + 1, 0, none⟩ (.string ul)).setCell ⟨w1.heap.size + 1, 1, none⟩ (.int .i64 Pl)).setCell ⟨w1.heap.size + 1, 2, none⟩ (.bool false)) ∧ DcB (((w3.setCell ⟨w1.heap.size + 1, 0, none⟩ (.string ul)).setCell ⟨w1.heap.size + 1, 1, none⟩ (.int .i64 Pl)).setCell ⟨w1.heap.size + 1, 2, none⟩ (.bool false)) (w1.heap.size + 1) (.string ul) (.int .i64 Pl) (.bool false)) := ⟨((F5.out.1.far _ _ (by show w.heap.size ≠ w1.heap.size + 1; omega)).far _ _ (by show w.heap.size ≠ w1.heap.size + 1; omega)).far _ _ (by show w.heap.size ≠ w1.heap.size + 1; omega), ((F5.out.2.1.far _ _ (by show w.heap.size + 1 ≠ w1.heap.size + 1; omega)).far _ _ (by show w.heap.size + 1 ≠ w1.heap.size + 1; omega)).far _ _ (by show w.heap.size + 1 ≠ w1.heap.size + 1; omega), ((F5.out.2.2.1.setCell (by show w.heap.size ≤ w1.heap.size + 1; omega) _).setCell (by show w.heap.size ≤ w1.heap.size + 1; omega) _).setCell (by show w.heap.size ≤ w1.heap.size + 1; omega) _, F5.out.2.2.2.fill _ _ _⟩
  clear l0 l1 l2 e0 e1 e2 m3 F5
  generalize ((w3.setCell ⟨w1.heap.size + 1, 0, none⟩ (.string ul)).setCell ⟨w1.heap.size + 1, 1, none⟩ (.int .i64 Pl)).setCell ⟨w1.heap.size + 1, 2, none⟩ (.bool false) = v at *
  have F4 : Hid (DcB v.drew w.heap.size (.string ⟨#[]⟩) (.int .i64 0) (.bool false) ∧ DcB v.drew (w.heap.size + 1) (.string ⟨#[]⟩) (.int .i64 0) (.bool false) ∧ Below w.heap.size w v.drew ∧ DcB v.drew (w1.heap.size + 1) (.string ul) (.int .i64 Pl) (.bool false)) := ⟨F6.out.1.step (Below.refl _ _).drew, F6.out.2.1.step (Below.refl _ _).drew, F6.out.2.2.1.drew, F6.out.2.2.2.step (Below.refl _ _).drew⟩
  obtain ⟨k1, _, _, _, f0, f1, f2⟩ := F6.out.1
  obtain ⟨k2, _, _, _, g0, g1, g2⟩ := F6.out.2.1
  obtain ⟨k3, l0, l1, l2, _, _, _⟩ := F6.out.2.2.2
  go_region_held3 (fun w' => w'.cell? ⟨w1.heap.size + 1, 0, none⟩ = some (.string ul) ∧ w'.cell? ⟨w1.heap.size + 1, 1, none⟩ = some (.int .i64 Pl) ∧ w'.cell? ⟨w1.heap.size + 1, 2, none⟩ = some (.bool false) ∧ w'.frozen? ⟨w.heap.size, 0, none⟩ = false ∧ w'.frozen? ⟨w.heap.size, 1, none⟩ = false ∧ w'.frozen? ⟨w.heap.size, 2, none⟩ = false ∧ w'.frozen? ⟨w.heap.size + 1, 0, none⟩ = false ∧ w'.frozen? ⟨w.heap.size + 1, 1, none⟩ = false ∧ w'.frozen? ⟨w.heap.size + 1, 2, none⟩ = false) (simp [*, go_sem, World.cell?_setCell_other])
    (first
      | (go_at_call 52; refine (AH2 _).mono ?_; rintro o w5 ⟨uh, Ph, rfl, hh, b5⟩; have HH : Hid (RH uh Ph) := hh; have F7 : Hid (DcB w5 w.heap.size (.string ⟨#[]⟩) (.int .i64 0) (.bool false) ∧ DcB w5 (w.heap.size + 1) (.string ⟨#[]⟩) (.int .i64 0) (.bool false) ∧ Below w.heap.size w w5 ∧ DcB w5 (w1.heap.size + 1) (.string ul) (.int .i64 Pl) (.bool false)) := ⟨F4.out.1.step b5, F4.out.2.1.step b5, F4.out.2.2.1.trans (b5.mono F4.out.2.2.1.size), F4.out.2.2.2.step b5⟩; clear b5 hh; obtain ⟨h1, p0, p1, p2, fa0, fa1, fa2⟩ := F7.out.1; obtain ⟨h2, r0, r1, r2, ga0, ga1, ga2⟩ := F7.out.2.1; obtain ⟨h3, s0, s1, s2, _, _, _⟩ := F7.out.2.2.2))
  go_wp2
  have par : ∀ k : Nat, ((k : Int).tmod 2 == 0) = decide (k % 2 = 0) := fun k => by
    rw [Int.tmod_eq_emod_of_nonneg (by omega), Bool.eq_iff_iff, beq_iff_eq, decide_eq_true_iff]
    omega
  exact bodyPost_ret (v := .tuple #[.agg #[.string ul, .int .i64 Pl, .bool false], .agg #[.string uh, .int .i64 Ph, .bool false], .bool ((b : Int).tmod 2 == 0), .int .i64 0]) (by simp [results, Tryz.results26, go_sem, World.cell?_setCell_same, World.cell?_setCell_other, *]) rfl ⟨ul, Pl, uh, Ph, by rw [par b], (HRL.out _ _).1 HL.out, (HRH.out _ _).1 HH.out, (((((F7.out.2.2.1.setCell (Nat.le_refl _) _).setCell (Nat.le_refl _) _).setCell (Nat.le_refl _) _).setCell (Nat.le_succ _) _).setCell (Nat.le_succ _) _).setCell (Nat.le_succ _) _⟩
end Go.Proofs.YtfoaeholbidngaaGreatDoor
