/-
  How far digits go: reach; begin.
-/
import Derived.Test.YtoabdoognadijaaDoorUiR
namespace Go.Proofs.YtoabdoognadijaaDoor
open Go.RowKit

theorem joinB_start (b a : Nat) (s : ByteArray) : joinB b a s a = decide (0 < a) := by
  unfold joinB; rw [decide_eq_false (show ¬ a < a by omega), decide_eq_true (show a = a from rfl)]; simp
theorem joinB_next {b a : Nat} {s : ByteArray} {i : Nat} (ha : a ≤ i) (hi : i < s.size) : joinB b a s (i + 1) = isD b (s[i]'hi) := by
  unfold joinB; rw [decide_eq_true (show a < i + 1 by omega), decide_eq_false (show ¬ i + 1 = a by omega), Nat.add_sub_cancel, getD_at s hi]; simp
theorem bar_of {c : UInt8} (h : (c.toNat : Int) = 95) : c = 95 := by
  apply UInt8.toNat_inj.1
  show c.toNat = 95
  omega
set_option maxRecDepth 100000 in
set_option maxHeartbeats 2000000 in
theorem reach_any (s : ByteArray) (b a : Nat) (hb : b ≤ 36) (hs : s.size ≤ 9223372036854775806) (ha : a ≤ s.size) (w : World) :
    Calls Tryd.prog 76 #[.string s, .int .i64 (b : Int), .int .i64 (a : Int)] w fun e w' => e = .returned (.int .i64 ((a + rch b (decide (0 < a)) (s.data.toList.drop a) : Nat) : Int)) ∧ Below w.heap.size w w' := by
  have hmf : ∀ (fn : Fn) (first cap : Array Value) (w : World), (Instr.makeFunc fn first cap).run Tryd.prog w = .ok (.func fn first cap) w := fun _ _ _ _ => rfl
  obtain ⟨R, hR⟩ : ∃ R, a + rch b (decide (0 < a)) (s.data.toList.drop a) = R := ⟨_, rfl⟩
  rw [hR]
  have HR : Hid (a + rch b (decide (0 < a)) (s.data.toList.drop a) = R) := hR
  clear hR
  obtain ⟨W4, hW⟩ : ∃ W, ((((w.alloc (Obj.cells #[Value.string s] 9)).alloc (Obj.cells #[Value.int IntKind.i64 (b : Int)] 3)).alloc (Obj.cells #[Value.int IntKind.i64 (a : Int)] 3)).alloc
      (Obj.cells #[Value.func (Fn.func 90) #[] #[Value.pointer (some { block := w.heap.size, off := 0 }), Value.pointer (some { block := w.heap.size + 1, off := 0 })]] 37)) = W := ⟨_, rfl⟩
  have c1 : W4.cell? ⟨w.heap.size, 0, none⟩ = some (.string s) := by rw [← hW, World.cell?_alloc_past _ _ _ (by simp only [World.size_alloc]; omega), World.cell?_alloc_past _ _ _ (by simp only [World.size_alloc]; omega), World.cell?_alloc_past _ _ _ (by simp only [World.size_alloc]; omega), World.cell?_alloc_at _ _ _ _ rfl]; rfl
  have c2 : W4.cell? ⟨w.heap.size + 1, 0, none⟩ = some (.int .i64 (b : Int)) := by rw [← hW, World.cell?_alloc_past _ _ _ (by simp only [World.size_alloc]; omega), World.cell?_alloc_past _ _ _ (by simp only [World.size_alloc]; omega), World.cell?_alloc_at _ _ _ _ (by simp only [World.size_alloc])]; rfl
  have c3 : W4.cell? ⟨w.heap.size + 1 + 1, 0, none⟩ = some (.int .i64 (a : Int)) := by rw [← hW, World.cell?_alloc_past _ _ _ (by simp only [World.size_alloc]; omega), World.cell?_alloc_at _ _ _ _ (by simp only [World.size_alloc])]; rfl
  have c4 : W4.cell? ⟨w.heap.size + 1 + 1 + 1, 0, none⟩ = some (.func (.func 90) #[] #[.pointer (some ⟨w.heap.size, 0, none⟩), .pointer (some ⟨w.heap.size + 1, 0, none⟩)]) := by rw [← hW, World.cell?_alloc_at _ _ _ _ (by simp only [World.size_alloc])]; rfl
  have HB : Hid (Below w.heap.size w W4) := by
    show Below _ _ _
    rw [← hW]
    exact ((((Below.refl _ _).alloc (Nat.le_refl _) _).alloc (by simp) _).alloc (by simp; omega) _).alloc (by simp; omega) _
  have DG := fun i hi => digit_at s b i hb hi w.heap.size (w.heap.size + 1) W4 c1 c2
  have BT := fun i hi ha => between_at s b a i hb hi hs ha w.heap.size (w.heap.size + 1) (w.heap.size + 1 + 1) (w.heap.size + 1 + 1 + 1) W4 c1 c2 c3 c4
  have HBS : Hid (b ≤ 36) := hb
  clear hb
  go_enter Tryd.func76, Tryd.ntmps76
  go_wp2
  generalize w.heap.size + 1 + 1 + 1 = n4 at *
  generalize w.heap.size + 1 + 1 = n3 at *
  generalize w.heap.size + 1 = n2 at *
  go_loop [9] (fun iv => ∃ i : Nat, iv = .int .i64 (i : Int) ∧ a ≤ i ∧ i ≤ s.size ∧ Hid (R = i + rch b (joinB b a s i) (s.data.toList.drop i))) (fun iv => s.size - (intOf iv).toNat)
  case atStart => exact ⟨a, rfl, Nat.le_refl _, ha, by show R = _; rw [joinB_start, HR.out]⟩
  case round =>
    clear HR hW
    obtain ⟨i, rfl, hai, his, HI⟩ := hrel
    by_cases hlt : i < s.size
    · have hlt' : (i : Int) < (s.size : Int) := by omega
      have D1 := DG i hlt
      have B1 := BT i hlt hai
      have HDR : Hid (s.data.toList.drop i = (s[i]'hlt) :: s.data.toList.drop (i + 1)) := drop_at s hlt
      have HJN : Hid (joinB b a s (i + 1) = isD b (s[i]'hlt)) := joinB_next hai hlt
      clear DG BT
      cases P : isD b (s[i]'hlt) with
      | true =>
        rw [P] at D1
        have HN : Hid (R = (i + 1) + rch b (joinB b a s (i + 1)) (s.data.toList.drop (i + 1))) := by
          show R = _
          rw [HI.out, HDR.out, rch_digit P, HJN.out, P]; omega
        clear HI HDR HJN P
        go_wp2_with fail
        refine D1.mono ?_
        rintro e W4 ⟨rfl, rfl⟩
        go_wp2
        go_round
        case rel => exact ⟨i + 1, by go_num, by omega, by omega, HN⟩
        case measure => simp [intOf] <;> omega
      | false =>
        rw [P] at D1
        by_cases q : ((s[i]'hlt).toNat : Int) = 95
        · have hc := bar_of q
          cases N : btw b a s i with
          | true =>
            rw [N] at B1
            have N' : (joinB b a s i && hdD b (s.data.toList.drop (i + 1))) = true := N
            rw [Bool.and_eq_true] at N'
            have HN : Hid (R = (i + 1) + rch b (joinB b a s (i + 1)) (s.data.toList.drop (i + 1))) := by
              show R = _
              rw [HI.out, HDR.out, rch_bar P hc N'.1 N'.2, HJN.out, P]; omega
            clear HI HDR HJN P N N' hc
            go_wp2_with fail
            refine D1.mono ?_
            rintro e W4 ⟨rfl, rfl⟩
            go_wp2_with fail
            refine B1.mono ?_
            rintro e W4 ⟨rfl, rfl⟩
            go_wp2
            go_round
            case rel => exact ⟨i + 1, by go_num, by omega, by omega, HN⟩
            case measure => simp [intOf] <;> omega
          | false =>
            rw [N] at B1
            have N' : (joinB b a s i && hdD b (s.data.toList.drop (i + 1))) = false := N
            have HN : Hid (R = i) := by
              show R = _
              rw [HI.out, HDR.out, rch_bad P (fun z => by rw [z.2.1, z.2.2] at N'; cases N')]; omega
            clear HI HDR HJN P N N' hc
            go_wp2_with fail
            refine D1.mono ?_
            rintro e W4 ⟨rfl, rfl⟩
            go_wp2_with fail
            refine B1.mono ?_
            rintro e W4 ⟨rfl, rfl⟩
            go_wp2
            go_ret
            exact ⟨by rw [HN.out]; rfl, HB.out⟩
        · have HN : Hid (R = i) := by
            show R = _
            rw [HI.out, HDR.out, rch_bad P (fun z => q (by rw [z.1]; rfl))]; omega
          clear HI HDR HJN P B1
          go_wp2_with fail
          refine D1.mono ?_
          rintro e W4 ⟨rfl, rfl⟩
          go_wp2
          go_ret
          exact ⟨by rw [HN.out]; rfl, HB.out⟩
    · have HN : Hid (R = i) := by
        show R = _
        rw [HI.out, drop_end s hlt]; rfl
      have hlt' : ¬ (i : Int) < (s.size : Int) := by omega
      clear HI DG BT
      go_wp2
      go_ret
      exact ⟨by rw [HN.out]; rfl, HB.out⟩
end Go.Proofs.YtoabdoognadijaaDoor
