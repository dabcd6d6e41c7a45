/-
  Name and Find of fault and of the document, for every number and every text.
-/
import Derived.Test.YtelobjhmbabiaaaDoorFtN
namespace Go.Proofs.YtelobjhmbabiaaaDoor
open Go.RowKit

theorem str_ne {a b : ByteArray} (h : a ≠ b) : (a.toList == b.toList) = false := by
  rw [list_data, list_data]
  refine beq_eq_false_iff_ne.mpr fun q => h ?_
  exact ByteArray.ext (Array.toList_inj.mp q)
theorem str_eq (a : ByteArray) : (a.toList == a.toList) = true := by simp

set_option maxRecDepth 100000 in
set_option maxHeartbeats 2000000 in
theorem dname_any (n : Int) (w : World) : Calls Tryd.prog 16 #[.int .i64 n] w fun x w' => x = .returned (.string (nameR n)) ∧ Below w.heap.size w w' := by
  have N := fun W => names_any W
  obtain ⟨R, hR⟩ : ∃ R, nameR n = R := ⟨_, rfl⟩
  rw [hR]
  have HR : Hid (nameR n = R) := hR
  clear hR
  obtain ⟨C, hC⟩ : ∃ C, C = nmC := ⟨_, rfl⟩
  have HC : Hid (C = nmC) := hC
  rw [← hC] at N
  clear hC
  go_enter Tryd.func16, Tryd.ntmps16
  go_wp2_with fail
  refine (N _).mono ?_
  rintro x w1 ⟨rfl, hw1⟩
  have B1 : Hid (Below w.heap.size w w1 ∧ w.heap.size + 1 ≤ w1.heap.size) := by rw [hw1]; exact ⟨(Below.refl _ _).alloc (Nat.le_refl _) _, by simp⟩
  have HW : Hid (∀ j : Nat, w1.cell? ⟨w.heap.size, j, none⟩ = nmC[j]?) := fun j => by rw [hw1, HC.out]; exact Lib.cell_of_heap (heap_alloc_new w _) j
  clear hw1 N
  go_wp2
  go_loopw [7] (fun i wr => ∃ k : Nat, i = .int .i64 (k : Int) ∧ k ≤ 15 ∧ Hid (∀ j, j < k → no j ≠ n) ∧ Below w1.heap.size w1 wr) (fun i _ => 15 - (intOf i).toNat)
  case atStart => exact ⟨0, rfl, by omega, fun j hj => absurd hj (by omega), Below.refl _ _⟩
  case round =>
    obtain ⟨k, rfl, hk, HN, hb⟩ := hrel
    have BB : Hid (Below w1.heap.size w1 wr) := hb
    clear hb
    by_cases c1 : k < 15
    · obtain ⟨f1, f2⟩ := nmC_facts ⟨k, c1⟩
      simp only at f1 f2
      have a0 : wr.cell? ⟨w.heap.size, k * 2, none⟩ = some (.int .i64 (no k)) := ((BB.out.cell (p := ⟨w.heap.size, k * 2, none⟩) (by have := B1.out.2; show w.heap.size < _; omega)).trans (HW.out _)).trans f1
      have a1 : wr.cell? ⟨w.heap.size, k * 2 + 1, none⟩ = some (.string (nm k)) := ((BB.out.cell (p := ⟨w.heap.size, k * 2 + 1, none⟩) (by have := B1.out.2; show w.heap.size < _; omega)).trans (HW.out _)).trans f2
      clear f1 f2
      have i1 : (0 : Int) ≤ (k : Int) := by omega
      have i2 : (k : Int) < 15 := by omega
      have C1 : Hid (k < 15) := c1
      by_cases e1 : no k = n
      · have HX : Hid (nm k = R) := by rw [← HR.out, ← e1]; exact (nameR_all ⟨k, c1⟩).symm
        rw [e1] at a0
        rw [HX.out] at a1
        clear e1 c1
        go_wp2
        go_ret
        exact ⟨rfl, B1.out.1.trans ((BB.out.alloc BB.out.size _).mono B1.out.1.size)⟩
      · have HN2 : Hid (∀ j, j < k + 1 → no j ≠ n) := fun j hj => by
          by_cases z : j = k
          · rw [z]; exact e1
          · exact HN.out j (by omega)
        obtain ⟨q, hq⟩ : ∃ q, no k = q := ⟨_, rfl⟩
        rw [hq] at a0 e1
        obtain ⟨T, hT⟩ : ∃ T, nm k = T := ⟨_, rfl⟩
        rw [hT] at a1
        have e2 : (q == n) = false := by simpa using e1
        clear hq hT e1 c1
        go_wp2
        go_roundw
        case rel => exact ⟨k + 1, by go_num, by have := C1.out; omega, HN2, BB.out.alloc BB.out.size _⟩
        case measure => simp [intOf]; omega
    · have HX : Hid (R = ⟨#[]⟩) := by rw [← HR.out]; exact nameR_miss fun j hj => HN.out j (by omega)
      obtain rfl : k = 15 := by omega
      clear c1
      go_wp2
      go_ret
      exact ⟨by rw [HX.out]; rfl, B1.out.1.trans (BB.out.mono B1.out.1.size)⟩

set_option maxRecDepth 100000 in
set_option maxHeartbeats 2000000 in
theorem dfind_any (s : ByteArray) (w : World) : Calls Tryd.prog 14 #[.string s] w fun x w' => x = .returned (.tuple #[.int .i64 (findR s).1, .bool (findR s).2]) ∧ Below w.heap.size w w' := by
  have N := fun W => names_any W
  obtain ⟨R, hR⟩ : ∃ R, findR s = R := ⟨_, rfl⟩
  rw [hR]
  have HR : Hid (findR s = R) := hR
  clear hR
  obtain ⟨C, hC⟩ : ∃ C, C = nmC := ⟨_, rfl⟩
  have HC : Hid (C = nmC) := hC
  rw [← hC] at N
  clear hC
  go_enter Tryd.func14, Tryd.ntmps14
  go_wp2_with fail
  refine (N _).mono ?_
  rintro x w1 ⟨rfl, hw1⟩
  have B1 : Hid (Below w.heap.size w w1 ∧ w.heap.size + 1 ≤ w1.heap.size) := by rw [hw1]; exact ⟨(Below.refl _ _).alloc (Nat.le_refl _) _, by simp⟩
  have HW : Hid (∀ j : Nat, w1.cell? ⟨w.heap.size, j, none⟩ = nmC[j]?) := fun j => by rw [hw1, HC.out]; exact Lib.cell_of_heap (heap_alloc_new w _) j
  clear hw1 N
  go_wp2
  go_loopw [8] (fun i wr => ∃ k : Nat, i = .int .i64 (k : Int) ∧ k ≤ 15 ∧ Hid (∀ j, j < k → nm j ≠ s) ∧ Below w1.heap.size w1 wr) (fun i _ => 15 - (intOf i).toNat)
  case atStart => exact ⟨0, rfl, by omega, fun j hj => absurd hj (by omega), Below.refl _ _⟩
  case round =>
    obtain ⟨k, rfl, hk, HN, hb⟩ := hrel
    have BB : Hid (Below w1.heap.size w1 wr) := hb
    clear hb
    by_cases c1 : k < 15
    · obtain ⟨f1, f2⟩ := nmC_facts ⟨k, c1⟩
      simp only at f1 f2
      have a0 : wr.cell? ⟨w.heap.size, k * 2, none⟩ = some (.int .i64 (no k)) := ((BB.out.cell (p := ⟨w.heap.size, k * 2, none⟩) (by have := B1.out.2; show w.heap.size < _; omega)).trans (HW.out _)).trans f1
      have a1 : wr.cell? ⟨w.heap.size, k * 2 + 1, none⟩ = some (.string (nm k)) := ((BB.out.cell (p := ⟨w.heap.size, k * 2 + 1, none⟩) (by have := B1.out.2; show w.heap.size < _; omega)).trans (HW.out _)).trans f2
      clear f1 f2
      have i1 : (0 : Int) ≤ (k : Int) := by omega
      have i2 : (k : Int) < 15 := by omega
      have C1 : Hid (k < 15) := c1
      by_cases e1 : nm k = s
      · have HX : Hid (R = (no k, true)) := by rw [← HR.out, ← e1]; exact findR_all ⟨k, c1⟩
        rw [e1] at a1
        obtain ⟨q, hq⟩ : ∃ q, no k = q := ⟨_, rfl⟩
        rw [hq] at a0 HX
        clear e1 c1 hq
        go_wp2
        go_ret2
        exact ⟨by rw [HX.out]; rfl, B1.out.1.trans ((BB.out.alloc BB.out.size _).mono B1.out.1.size)⟩
      · have HN2 : Hid (∀ j, j < k + 1 → nm j ≠ s) := fun j hj => by
          by_cases z : j = k
          · rw [z]; exact e1
          · exact HN.out j (by omega)
        obtain ⟨q, hq⟩ : ∃ q, no k = q := ⟨_, rfl⟩
        rw [hq] at a0
        obtain ⟨T, hT⟩ : ∃ T, nm k = T := ⟨_, rfl⟩
        rw [hT] at a1 e1
        have e2 := str_ne e1
        clear e1
        clear hq hT c1
        go_wp2
        go_roundw
        case rel => exact ⟨k + 1, by go_num, by have := C1.out; omega, HN2, BB.out.alloc BB.out.size _⟩
        case measure => simp [intOf]; omega
    · have HX : Hid (R = (0, false)) := by rw [← HR.out]; exact findR_miss fun j hj => HN.out j (by omega)
      obtain rfl : k = 15 := by omega
      clear c1
      go_wp2
      go_ret2
      exact ⟨by rw [HX.out]; rfl, B1.out.1.trans (BB.out.mono B1.out.1.size)⟩

set_option maxRecDepth 100000 in
set_option maxHeartbeats 2000000 in
theorem rname_any (n : Int) (w : World) : Calls Tryd.prog 17 #[.int .i64 n] w fun x w' => x = .returned (.string (nameR n)) ∧ Below w.heap.size w w' := by
  have N := fun k (h : k < 15) W => number_any h W
  have WD := fun k (h : k < 15) W => word_any h W
  obtain ⟨R, hR⟩ : ∃ R, nameR n = R := ⟨_, rfl⟩
  rw [hR]
  have HR : Hid (nameR n = R) := hR
  clear hR
  go_enter Tryd.func17, Tryd.ntmps17
  go_wp2
  go_loopw [3] (fun i wr => ∃ k : Nat, i = .int .i64 (k : Int) ∧ k ≤ 15 ∧ Hid (∀ j, j < k → no j ≠ n) ∧ Below w.heap.size w wr) (fun i _ => 15 - (intOf i).toNat)
  case atStart => exact ⟨0, rfl, by omega, fun j hj => absurd hj (by omega), Below.refl _ _⟩
  case round =>
    obtain ⟨k, rfl, hk, HN, hb⟩ := hrel
    have BB : Hid (Below w.heap.size w wr) := hb
    clear hb
    by_cases c1 : k < 15
    · have N1 := fun W => N k c1 W
      have W1 := fun W => WD k c1 W
      have C1 : Hid (k < 15) := c1
      have i1 : (0 : Int) ≤ (k : Int) := by omega
      have i2 : (k : Int) < 15 := by omega
      clear N WD
      by_cases e1 : no k = n
      · have HX : Hid (nm k = R) := by rw [← HR.out, ← e1]; exact (nameR_all ⟨k, c1⟩).symm
        rw [e1] at N1
        rw [HX.out] at W1
        clear e1 c1
        go_wp2_with fail
        refine (N1 _).mono ?_
        rintro x w2 ⟨rfl, b2⟩
        have B2 : Hid (Below w.heap.size w w2) := BB.out.trans (b2.mono BB.out.size)
        clear b2
        go_wp2_with fail
        refine (W1 _).mono ?_
        rintro x w3 ⟨rfl, rfl⟩
        go_wp2
        go_ret
        exact ⟨rfl, B2.out⟩
      · have HN2 : Hid (∀ j, j < k + 1 → no j ≠ n) := fun j hj => by
          by_cases z : j = k
          · rw [z]; exact e1
          · exact HN.out j (by omega)
        obtain ⟨q, hq⟩ : ∃ q, no k = q := ⟨_, rfl⟩
        rw [hq] at N1 e1
        have e2 : (q == n) = false := by simpa using e1
        clear hq e1 c1
        go_wp2_with fail
        refine (N1 _).mono ?_
        rintro x w2 ⟨rfl, b2⟩
        have B2 : Hid (Below w.heap.size w w2) := BB.out.trans (b2.mono BB.out.size)
        clear b2
        go_wp2
        go_roundw
        case rel => exact ⟨k + 1, by go_num, by have := C1.out; omega, HN2, B2.out⟩
        case measure => simp [intOf]; omega
    · have HX : Hid (R = ⟨#[]⟩) := by rw [← HR.out]; exact nameR_miss fun j hj => HN.out j (by omega)
      obtain rfl : k = 15 := by omega
      clear c1
      go_wp2
      go_ret
      exact ⟨by rw [HX.out]; rfl, BB.out⟩

set_option maxRecDepth 100000 in
set_option maxHeartbeats 2000000 in
theorem rfind_any (s : ByteArray) (w : World) : Calls Tryd.prog 15 #[.string s] w fun x w' => x = .returned (.tuple #[.int .i64 (findR s).1, .bool (findR s).2]) ∧ Below w.heap.size w w' := by
  have N := fun k (h : k < 15) W => number_any h W
  have WD := fun k (h : k < 15) W => word_any h W
  obtain ⟨R, hR⟩ : ∃ R, findR s = R := ⟨_, rfl⟩
  rw [hR]
  have HR : Hid (findR s = R) := hR
  clear hR
  go_enter Tryd.func15, Tryd.ntmps15
  go_wp2
  go_loopw [4] (fun i wr => ∃ k : Nat, i = .int .i64 (k : Int) ∧ k ≤ 15 ∧ Hid (∀ j, j < k → nm j ≠ s) ∧ Below w.heap.size w wr) (fun i _ => 15 - (intOf i).toNat)
  case atStart => exact ⟨0, rfl, by omega, fun j hj => absurd hj (by omega), Below.refl _ _⟩
  case round =>
    obtain ⟨k, rfl, hk, HN, hb⟩ := hrel
    have BB : Hid (Below w.heap.size w wr) := hb
    clear hb
    by_cases c1 : k < 15
    · have N1 := fun W => N k c1 W
      have W1 := fun W => WD k c1 W
      have C1 : Hid (k < 15) := c1
      have i1 : (0 : Int) ≤ (k : Int) := by omega
      have i2 : (k : Int) < 15 := by omega
      clear N WD
      by_cases e1 : nm k = s
      · have HX : Hid (R = (no k, true)) := by rw [← HR.out, ← e1]; exact findR_all ⟨k, c1⟩
        obtain ⟨q, hq⟩ : ∃ q, no k = q := ⟨_, rfl⟩
        rw [hq] at N1 HX
        rw [e1] at W1
        clear e1 c1 hq
        go_wp2_with fail
        refine (W1 _).mono ?_
        rintro x w2 ⟨rfl, hw2⟩
        have hw3 := hw2.symm
        subst hw3
        go_wp2_with fail
        refine (N1 _).mono ?_
        rintro x w2 ⟨rfl, b2⟩
        have B2 : Hid (Below w.heap.size w w2) := BB.out.trans (b2.mono BB.out.size)
        clear b2
        go_wp2
        go_ret2
        exact ⟨by rw [HX.out]; rfl, B2.out⟩
      · have HN2 : Hid (∀ j, j < k + 1 → nm j ≠ s) := fun j hj => by
          by_cases z : j = k
          · rw [z]; exact e1
          · exact HN.out j (by omega)
        obtain ⟨q, hq⟩ : ∃ q, nm k = q := ⟨_, rfl⟩
        rw [hq] at W1 e1
        have e2 := str_ne e1
        clear hq c1 e1
        go_wp2_with fail
        refine (W1 _).mono ?_
        rintro x w2 ⟨rfl, hw2⟩
        have hw3 := hw2.symm
        subst hw3
        go_wp2
        go_roundw
        case rel => exact ⟨k + 1, by go_num, by have := C1.out; omega, HN2, BB.out⟩
        case measure => simp [intOf]; omega
    · have HX : Hid (R = (0, false)) := by rw [← HR.out]; exact findR_miss fun j hj => HN.out j (by omega)
      obtain rfl : k = 15 := by omega
      clear c1
      go_wp2
      go_ret2
      exact ⟨by rw [HX.out]; rfl, BB.out⟩
end Go.Proofs.YtelobjhmbabiaaaDoor
