/-
  The law ScanWhole: the walk.
-/
import Derived.Test.YtjgdbphhhplifaaDoorScK
import Derived.Test.YtjgdbphhhplifaaDoorScJ
namespace Go.Proofs.YtjgdbphhhplifaaDoor
open Go.RowKit

set_option maxRecDepth 100000 in
theorem whole_long (s : ByteArray) (hs : s.size ≤ 140737488351232) (h : 300 < s.size) (w : World) : Calls Tryd.prog 6 #[.string s] w fun o w' => o = .returned (.bool true) ∧ Below w.heap.size w w' := by
  have WK := fun V => works_any V
  have h1 : (300 : Int) < (s.size : Int) := by omega
  go_enter Tryd.func6, Tryd.ntmps6
  go_wp2_with fail
  refine (WK _).mono ?_
  rintro o w1 ⟨rfl, b1⟩
  go_wp2
  go_ret
  exact ⟨rfl, b1⟩
set_option maxRecDepth 100000 in
set_option maxHeartbeats 4000000 in
theorem whole_none (l : List UInt8) (h : l.length ≤ 300) (q : pfx l = none) (w : World) : Calls Tryd.prog 6 #[.string (bl l)] w fun o w' => o = .returned (.bool true) ∧ Below w.heap.size w w' := by
  have WK := fun V => works_any V
  have PX : ∀ W, Calls Tryd.prog 10 #[.string (bl l)] W fun e w' => e = .returned (.tuple #[.agg #[.bool false, .int .i64 0, .string ⟨#[]⟩, .int .i64 0, .bool false, .int .u64 0, .int .i64 0, .bool false], .int .i64 0, .iface 52 (.int .i64 3)]) ∧ Below W.heap.size W w' := fun W => by have := prefix_any2 l (by omega) W; rw [q] at this; exact this
  have VA : ∀ W, Calls Tryd.prog 13 #[.string (bl l)] W fun e w' => e = .returned (.bool false) ∧ Below W.heap.size W w' := fun W => by have := svalid_any l (by omega) W; rw [scn_none q] at this; exact this
  have HV : Hid (∀ k, 0 < k → k ≤ (bl l).size → ∀ W, Calls Tryd.prog 13 #[.string (bl (l.take k))] W fun e w' => e = .returned (.bool false) ∧ Below W.heap.size W w') := fun k _ hk W => by
    have hk' : k ≤ l.length := hk
    have := svalid_any (l.take k) (by rw [List.length_take]; omega) W
    have e : scn (l.take k) = none := by
      cases z : scn (l.take k) with
      | none => rfl
      | some p =>
        obtain ⟨_, _, h2, _⟩ := scn_ext hk' z
        rw [q] at h2; cases h2
    rw [e] at this
    exact this
  have HX : Hid (∀ k, (bl l).extract 0 k = bl (l.take k)) := bl_to l
  have hs : (bl l).size ≤ 300 := h
  obtain ⟨n, hn⟩ : ∃ n : Nat, n = 0 := ⟨0, rfl⟩
  have HN : Hid (n = 0) := hn
  have h1 : ¬ (300 : Int) < ((bl l).size : Int) := by rw [bl_size]; omega
  have hp : ¬ ((bl l).size : Int) < 0 := by omega
  clear q h hn
  generalize bl l = s at *
  go_enter Tryd.func6, Tryd.ntmps6
  go_wp2_with fail
  refine (PX _).mono ?_
  rintro o w1 ⟨rfl, b1⟩
  have B1 : Hid (Below w.heap.size w w1) := b1
  clear b1
  go_wp2
  go_loopw [8] (fun iv wr => ∃ k : Nat, 1 ≤ k ∧ k ≤ s.size + 1 ∧ iv = .int .i64 (k : Int) ∧ Hid (Below w.heap.size w wr)) (fun iv _ => s.size + 1 - (intOf iv).toNat)
  case atStart => exact ⟨1, Nat.le_refl _, by omega, by first | rfl | go_num, B1.out.alloc B1.out.size _⟩
  case round =>
    obtain ⟨k, k1, k2, rfl, BK⟩ := hrel
    by_cases c1 : k ≤ s.size
    · have i1 : (k : Int) ≤ (s.size : Int) := by omega
      have i0 : (0 : Int) ≤ (k : Int) := by omega
      have VK := HV.out k (by omega) c1
      have xk := HX.out k
      generalize bl (l.take k) = sk at *
      go_wp2_with fail
      refine (VK _).mono ?_
      rintro o w7 ⟨rfl, b7⟩
      have B7 : Hid (Below w.heap.size w w7) := BK.out.trans (b7.mono BK.out.size)
      clear b7
      go_wp2
      go_roundw
      case rel => exact ⟨k + 1, by omega, by omega, by go_num, B7⟩
      case measure => simp [intOf]; omega
    · have i1 : ¬ (k : Int) ≤ (s.size : Int) := by omega
      go_wp2_with fail
      refine (VA _).mono ?_
      rintro o w7 ⟨rfl, b7⟩
      have B7 : Hid (Below w.heap.size w w7) := BK.out.trans (b7.mono BK.out.size)
      clear b7
      by_cases z : s.size = 0
      · have z1 : (s.size : Int) = 0 := by omega
        go_wp2_with fail
        refine (WK _).mono ?_
        rintro o w8 ⟨rfl, b8⟩
        have B8 : Hid (Below w.heap.size w w8) := B7.out.trans (b8.mono B7.out.size)
        clear b8
        go_wp2
        go_ret
        exact ⟨rfl, B8.out⟩
      · have z1 : ((0 : Int) == (s.size : Int)) = false := beq_eq_false_iff_ne.mpr (by omega)
        go_wp2_with fail
        refine (WK _).mono ?_
        rintro o w8 ⟨rfl, b8⟩
        have B8 : Hid (Below w.heap.size w w8) := B7.out.trans (b8.mono B7.out.size)
        clear b8
        go_wp2
        go_ret
        exact ⟨rfl, B8.out⟩

set_option maxRecDepth 100000 in
set_option maxHeartbeats 4000000 in
theorem whole_some (l : List UInt8) (h : l.length ≤ 300) (p : Pt) (n : Nat) (q : pfx l = some (p, n)) (w : World) : Calls Tryd.prog 6 #[.string (bl l)] w fun o w' => o = .returned (.bool true) ∧ Below w.heap.size w w' := by
  have WK := fun V => works_any V
  have hnp := pfx_pos q
  have PX : ∀ W, Calls Tryd.prog 10 #[.string (bl l)] W fun e w' => e = .returned (.tuple #[ptV p, .int .i64 (n : Int), .nilIface]) ∧ Below W.heap.size W w' := fun W => by have := prefix_any2 l (by omega) W; rw [q] at this; exact this
  have SC : ∀ W, Calls Tryd.prog 8 #[.string (bl (l.take n))] W fun e w' => e = .returned (.tuple #[ptV p, .nilIface]) ∧ Below W.heap.size W w' := fun W => by have := scan_any (l.take n) (by rw [List.length_take]; omega) W; rw [scn_begin q] at this; exact this
  have VA : ∀ W, Calls Tryd.prog 13 #[.string (bl l)] W fun e w' => e = .returned (.bool (decide (n = l.length))) ∧ Below W.heap.size W w' := fun W => by
    have := svalid_any l (by omega) W
    rw [scn_some q] at this
    by_cases z : n = l.length
    · rw [if_pos z] at this; rw [decide_eq_true z]; exact this
    · rw [if_neg z] at this; rw [decide_eq_false z]; exact this
  have HV : Hid (∀ k, n < k → k ≤ (bl l).size → ∀ W, Calls Tryd.prog 13 #[.string (bl (l.take k))] W fun e w' => e = .returned (.bool false) ∧ Below W.heap.size W w') := fun k hnk hk W => by
    have hk' : k ≤ l.length := hk
    have := svalid_any (l.take k) (by rw [List.length_take]; omega) W
    have e : scn (l.take k) = none := by
      cases z : scn (l.take k) with
      | none => rfl
      | some p' =>
        obtain ⟨_, _, h2, h3⟩ := scn_ext hk' z
        rw [q] at h2
        injection h2 with h2; injection h2 with _ h2
        omega
    rw [e] at this
    exact this
  have HX : Hid (∀ k, (bl l).extract 0 k = bl (l.take k)) := bl_to l
  have xn := bl_to l n
  have hs : (bl l).size ≤ 300 := h
  have hns : n ≤ (bl l).size := hnp.2
  have h1 : ¬ (300 : Int) < ((bl l).size : Int) := by rw [bl_size]; omega
  have n0 : (0 : Int) < (n : Int) := by omega
  have n1 : decide ((n : Int) < 0) = false := decide_eq_false (by omega)
  have n2 : decide ((bl l).size < n) = false := decide_eq_false (by rw [bl_size]; omega)
  have n4 : decide (0 < n) = true := decide_eq_true (by omega)
  have n3 : (n : Int) ≤ ((bl l).size : Int) := by rw [bl_size]; omega
  have hd : decide (n = l.length) = decide (n = (bl l).size) := rfl
  rw [hd] at VA
  unfold ptV at PX SC
  have eT := str_eq (bl p.dd)
  have eN : ((bl p.dd).toList != (bl p.dd).toList) = false := by simp
  clear q h hnp hd
  generalize bl (l.take n) = sn at *
  generalize p.kind = v1 at *
  generalize bl p.dd = v2 at *
  generalize p.dp = v3 at *
  generalize p.dc = v4 at *
  generalize (p.mant : Int) = v5 at *
  generalize p.exp = v6 at *
  generalize p.cut = v7 at *
  generalize p.neg = v0 at *
  generalize bl l = s at *
  go_enter Tryd.func6, Tryd.ntmps6
  go_wp2_with fail
  refine (PX _).mono ?_
  rintro o w1 ⟨rfl, b1⟩
  have B1 : Hid (Below w.heap.size w w1) := b1
  clear b1
  have X1 : Hid (Bx (w1.alloc (.cells #[.bool v0, .int .i64 v1, .string v2, .int .i64 v3, .bool v4, .int .u64 v5, .int .i64 v6, .bool v7] 26)) w1.heap.size #[.bool v0, .int .i64 v1, .string v2, .int .i64 v3, .bool v4, .int .u64 v5, .int .i64 v6, .bool v7]) := Bx.new _ _ _
  go_wp2_with fail
  refine (SC _).mono ?_
  rintro o w2 ⟨rfl, b2⟩
  have B2 : Hid (Below w.heap.size w w2) := (B1.out.alloc B1.out.size _).trans (b2.mono (by have := B1.out.size; simp; omega))
  have X2 : Hid (Bx w2 w1.heap.size #[.bool v0, .int .i64 v1, .string v2, .int .i64 v3, .bool v4, .int .u64 v5, .int .i64 v6, .bool v7]) := X1.out.step b2
  clear b2 X1
  obtain ⟨l1, c1⟩ := X2.out
  have a10 : w2.cell? ⟨w1.heap.size, 0, none⟩ = some (.bool v0) := c1 0
  have a11 : w2.cell? ⟨w1.heap.size, 1, none⟩ = some (.int .i64 v1) := c1 1
  have a12 : w2.cell? ⟨w1.heap.size, 2, none⟩ = some (.string v2) := c1 2
  have a13 : w2.cell? ⟨w1.heap.size, 3, none⟩ = some (.int .i64 v3) := c1 3
  have a14 : w2.cell? ⟨w1.heap.size, 4, none⟩ = some (.bool v4) := c1 4
  have a15 : w2.cell? ⟨w1.heap.size, 5, none⟩ = some (.int .u64 v5) := c1 5
  have a16 : w2.cell? ⟨w1.heap.size, 6, none⟩ = some (.int .i64 v6) := c1 6
  have a17 : w2.cell? ⟨w1.heap.size, 7, none⟩ = some (.bool v7) := c1 7
  clear c1
  go_wp2
  go_loopw [8] (fun iv wr => ∃ k : Nat, n + 1 ≤ k ∧ k ≤ s.size + 1 ∧ iv = .int .i64 (k : Int) ∧ Hid (Below w.heap.size w wr)) (fun iv _ => s.size + 1 - (intOf iv).toNat)
  case atStart => exact ⟨n + 1, Nat.le_refl _, by omega, by first | rfl | go_num, B2.out.alloc B2.out.size _⟩
  case round =>
    obtain ⟨k, k1, k2, rfl, BK⟩ := hrel
    by_cases c1 : k ≤ s.size
    · have i1 : (k : Int) ≤ (s.size : Int) := by omega
      have i0 : (0 : Int) ≤ (k : Int) := by omega
      have VK := HV.out k (by omega) c1
      have xk := HX.out k
      generalize bl (l.take k) = sk at *
      go_wp2_with fail
      refine (VK _).mono ?_
      rintro o w7 ⟨rfl, b7⟩
      have B7 : Hid (Below w.heap.size w w7) := BK.out.trans (b7.mono BK.out.size)
      clear b7
      go_wp2
      go_roundw
      case rel => exact ⟨k + 1, by omega, by omega, by go_num, B7⟩
      case measure => simp [intOf]; omega
    · have i1 : ¬ (k : Int) ≤ (s.size : Int) := by omega
      go_wp2_with fail
      refine (VA _).mono ?_
      rintro o w7 ⟨rfl, b7⟩
      have B7 : Hid (Below w.heap.size w w7) := BK.out.trans (b7.mono BK.out.size)
      clear b7
      by_cases z : n = s.size
      · rw [decide_eq_true z] at *
        subst z
        go_wp2_with fail
        refine (WK _).mono ?_
        rintro o w8 ⟨rfl, b8⟩
        have B8 : Hid (Below w.heap.size w w8) := B7.out.trans (b8.mono B7.out.size)
        clear b8
        go_wp2
        go_ret
        exact ⟨rfl, B8.out⟩
      · have z1 : ((n : Int) == (s.size : Int)) = false := beq_eq_false_iff_ne.mpr (by omega)
        rw [decide_eq_false z] at *
        go_wp2_with fail
        refine (WK _).mono ?_
        rintro o w8 ⟨rfl, b8⟩
        have B8 : Hid (Below w.heap.size w w8) := B7.out.trans (b8.mono B7.out.size)
        clear b8
        go_wp2
        go_ret
        exact ⟨rfl, B8.out⟩

theorem whole_law (s : ByteArray) (hs : s.size ≤ 140737488351232) (w : World) : Calls Tryd.prog 6 #[.string s] w fun o w' => o = .returned (.bool true) ∧ Below w.heap.size w w' := by
  by_cases h : 300 < s.size
  · exact whole_long s hs h w
  · have hl : s.data.toList.length ≤ 300 := by have : s.data.toList.length = s.size := rfl; omega
    cases q : pfx s.data.toList with
    | none => exact whole_none s.data.toList hl q w
    | some x => exact whole_some s.data.toList hl x.1 x.2 q w
end Go.Proofs.YtjgdbphhhplifaaDoor
