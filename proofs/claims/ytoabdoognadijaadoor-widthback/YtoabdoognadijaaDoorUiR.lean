/-
  uints' closures in reach: is there a digit at a place, may an underscore stand there; how far digits go: reach; begin.
-/
import Derived.Test.YtoabdoognadijaaDoorUiA
import Derived.Laws.EntriesVeiled
import Derived.Deep.RegionHeld3
import Derived.Deep.QuietTactic
namespace Go.Proofs.YtoabdoognadijaaDoor
open Go.RowKit

theorem byte_lt (c : UInt8) : c.toNat < 256 := UInt8.toNat_lt c

set_option maxRecDepth 100000 in
set_option maxHeartbeats 1000000 in
theorem digit_at (s : ByteArray) (b i : Nat) (hb : b ≤ 36) (hi : i < s.size) (bs bb : Nat) (w : World)
    (c1 : w.cell? ⟨bs, 0, none⟩ = some (.string s)) (c2 : w.cell? ⟨bb, 0, none⟩ = some (.int .i64 (b : Int))) :
    Calls Tryd.prog 90 #[.int .i64 (i : Int), .pointer (some ⟨bs, 0, none⟩), .pointer (some ⟨bb, 0, none⟩)] w fun e w' => e = .returned (.bool (isD b (s[i]'hi))) ∧ w' = w := by
  have V := fun W => bvalue_any (s[i]'hi).toNat (byte_lt _) W
  unfold isD
  by_cases q : dv (s[i]'hi).toNat < 36
  · rw [vN_pos q, vB_pos q] at V
    by_cases q2 : dv (s[i]'hi).toNat < b
    · rw [decide_eq_true q2]
      have q3 : (dv (s[i]'hi).toNat : Int) < (b : Int) := by omega
      generalize dv (s[i]'hi).toNat = d at *
      go_enter Tryd.func90, Tryd.ntmps90
      go_wp2_with fail
      refine (V _).mono ?_
      rintro e w ⟨rfl, rfl⟩
      go_wp2
      go_ret
      exact ⟨rfl, rfl⟩
    · rw [decide_eq_false q2]
      have q3 : ¬ (dv (s[i]'hi).toNat : Int) < (b : Int) := by omega
      generalize dv (s[i]'hi).toNat = d at *
      go_enter Tryd.func90, Tryd.ntmps90
      go_wp2_with fail
      refine (V _).mono ?_
      rintro e w ⟨rfl, rfl⟩
      go_wp2
      go_ret
      exact ⟨rfl, rfl⟩
  · rw [vN_neg q, vB_neg q] at V
    rw [decide_eq_false (by omega)]
    go_enter Tryd.func90, Tryd.ntmps90
    go_wp2_with fail
    refine (V _).mono ?_
    rintro e w ⟨rfl, rfl⟩
    go_wp2
    go_ret
    exact ⟨rfl, rfl⟩

/-- May an underscore stand at a place? -/
def joinB (b a : Nat) (s : ByteArray) (i : Nat) : Bool := decide (a < i) && isD b (s.data.toList.getD (i - 1) 95) || decide (i = a) && decide (0 < a)
def btw (b a : Nat) (s : ByteArray) (i : Nat) : Bool := joinB b a s i && hdD b (s.data.toList.drop (i + 1))
theorem getD_at (s : ByteArray) {i : Nat} (h : i < s.size) (d : UInt8) : s.data.toList.getD i d = s[i]'h := by
  rw [List.getD_eq_getElem?_getD, List.getElem?_eq_getElem (by simpa using h)]; rfl
theorem hdD_at {b : Nat} (s : ByteArray) {i : Nat} (h : i < s.size) : hdD b (s.data.toList.drop i) = isD b (s[i]'h) := by rw [drop_at s h]; rfl
theorem hdD_end {b : Nat} (s : ByteArray) {i : Nat} (h : ¬ i < s.size) : hdD b (s.data.toList.drop i) = false := by rw [drop_end s h]; rfl
set_option maxRecDepth 100000 in
set_option maxHeartbeats 2000000 in
theorem between_at (s : ByteArray) (b a i : Nat) (hb : b ≤ 36) (hi : i < s.size) (hs : s.size ≤ 9223372036854775806) (ha : a ≤ i) (bs bb ba bf : Nat) (w : World)
    (c1 : w.cell? ⟨bs, 0, none⟩ = some (.string s)) (c2 : w.cell? ⟨bb, 0, none⟩ = some (.int .i64 (b : Int))) (c3 : w.cell? ⟨ba, 0, none⟩ = some (.int .i64 (a : Int)))
    (c4 : w.cell? ⟨bf, 0, none⟩ = some (.func (.func 90) #[] #[.pointer (some ⟨bs, 0, none⟩), .pointer (some ⟨bb, 0, none⟩)])) :
    Calls Tryd.prog 91 #[.int .i64 (i : Int), .pointer (some ⟨ba, 0, none⟩), .pointer (some ⟨bf, 0, none⟩), .pointer (some ⟨bs, 0, none⟩)] w fun e w' => e = .returned (.bool (btw b a s i)) ∧ w' = w := by
  obtain ⟨R, hR⟩ : ∃ R, R = btw b a s i := ⟨_, rfl⟩
  rw [← hR]
  have HR : Hid (R = (joinB b a s i && hdD b (s.data.toList.drop (i + 1)))) := hR
  clear hR
  by_cases q : a < i
  · have D1 := digit_at s b (i - 1) hb (by omega) bs bb w c1 c2
    rw [← getD_at s (by omega) 95] at D1
    have HJ : Hid (joinB b a s i = isD b (s.data.toList.getD (i - 1) 95)) := by
      show joinB b a s i = _
      unfold joinB; rw [decide_eq_true q, decide_eq_false (show ¬ i = a by omega)]; simp
    have e1 : ((i - 1 : Nat) : Int) = (i : Int) - 1 := by omega
    rw [e1] at D1
    clear e1
    have hne : ¬ (i : Int) = (a : Int) := by omega
    generalize isD b (s.data.toList.getD (i - 1) 95) = P at *
    cases P with
    | false =>
      have HF : Hid (R = false) := by show _ = _; rw [HR.out, HJ.out]; rfl
      clear HR HJ
      go_enter Tryd.func91, Tryd.ntmps91
      go_wp2_with fail
      refine D1.mono ?_
      rintro e w ⟨rfl, rfl⟩
      go_wp2
      go_ret
      exact ⟨by rw [HF.out]; rfl, rfl⟩
    | true =>
      by_cases q2 : i + 1 < s.size
      · have D2 := digit_at s b (i + 1) hb q2 bs bb w c1 c2
        have HF : Hid (R = isD b (s[i + 1]'q2)) := by show _ = _; rw [HR.out, HJ.out, hdD_at s q2]; rfl
        clear HR HJ
        rw [Int.natCast_add, Int.natCast_one] at D2
        generalize isD b (s[i + 1]'q2) = N at *
        go_enter Tryd.func91, Tryd.ntmps91
        go_wp2_with fail
        refine D1.mono ?_
        rintro e w ⟨rfl, rfl⟩
        go_wp2_with fail
        refine D2.mono ?_
        rintro e w ⟨rfl, rfl⟩
        go_wp2
        go_ret
        exact ⟨by rw [HF.out]; rfl, rfl⟩
      · have HF : Hid (R = false) := by show _ = _; rw [HR.out, HJ.out, hdD_end s q2]; rfl
        clear HR HJ
        go_enter Tryd.func91, Tryd.ntmps91
        go_wp2_with fail
        refine D1.mono ?_
        rintro e w ⟨rfl, rfl⟩
        go_wp2
        go_ret
        exact ⟨by rw [HF.out]; rfl, rfl⟩
  · have hia : i = a := by omega
    subst hia
    by_cases z : 0 < i
    · have HJ : Hid (joinB b i s i = true) := by
        show joinB b i s i = true
        unfold joinB; rw [decide_eq_false q, decide_eq_true z]; simp
      by_cases q2 : i + 1 < s.size
      · have D2 := digit_at s b (i + 1) hb q2 bs bb w c1 c2
        have HF : Hid (R = isD b (s[i + 1]'q2)) := by show _ = _; rw [HR.out, HJ.out, hdD_at s q2]; rfl
        clear HR HJ
        rw [Int.natCast_add, Int.natCast_one] at D2
        generalize isD b (s[i + 1]'q2) = N at *
        go_enter Tryd.func91, Tryd.ntmps91
        go_wp2_with fail
        refine D2.mono ?_
        rintro e w ⟨rfl, rfl⟩
        go_wp2
        go_ret
        exact ⟨by rw [HF.out]; rfl, rfl⟩
      · have HF : Hid (R = false) := by show _ = _; rw [HR.out, HJ.out, hdD_end s q2]; rfl
        clear HR HJ
        go_enter Tryd.func91, Tryd.ntmps91
        go_wp2
        go_ret
        exact ⟨by rw [HF.out]; rfl, rfl⟩
    · have HF : Hid (R = false) := by
        show _ = _
        rw [HR.out]; unfold joinB; rw [decide_eq_false q, decide_eq_false z]; simp
      clear HR
      go_enter Tryd.func91, Tryd.ntmps91
      go_wp2
      go_ret
      exact ⟨by rw [HF.out]; rfl, rfl⟩
end Go.Proofs.YtoabdoognadijaaDoor
