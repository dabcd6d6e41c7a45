/-
  The document's Digit, Ahead, run, In: what they answer for every input.
-/
import Derived.Test.YtoabdoognadijaaDoorUiA
import Derived.Deep.QuietTactic
namespace Go.Proofs.YtoabdoognadijaaDoor
open Go.RowKit

set_option maxRecDepth 100000 in
set_option maxHeartbeats 1000000 in
theorem rdig_any (c : Nat) (hc : c < 256) (w : World) :
    Calls Tryd.prog 82 #[.int .u8 (c : Int)] w fun e w' => e = .returned (.int .i64 (dv c : Int)) ∧ w' = w := by
  by_cases a : 48 ≤ c ∧ c ≤ 57
  · have a0 := a
    obtain ⟨a1, a2⟩ := a
    have e : (dv c : Int) = (c : Int) - 48 := by unfold dv; rw [if_pos a0]; omega
    rw [e]
    clear e
    have b1 : (48 : Int) ≤ (c : Int) := by omega
    have b2 : (c : Int) ≤ 57 := by omega
    clear a0
    go_enter Tryd.func82, Tryd.ntmps82
    go_wp2
    all_goals first | omega | (go_ret; exact ⟨rfl, rfl⟩)
  · by_cases b : 97 ≤ c ∧ c ≤ 122
    · have b0 := b
      obtain ⟨b1, b2⟩ := b
      have e : (dv c : Int) = (c : Int) - 97 + 10 := by unfold dv; rw [if_neg a, if_pos b0]; omega
      rw [e]
      clear e
      have b3 : (97 : Int) ≤ (c : Int) := by omega
      have b4 : (c : Int) ≤ 122 := by omega
      have b5 : ¬ (c : Int) ≤ 57 := by omega
      have b6 : ¬ (c : Int) ≤ 90 := by omega
      clear a b0
      go_enter Tryd.func82, Tryd.ntmps82
      go_wp2
      all_goals first | omega | (go_ret; exact ⟨rfl, rfl⟩)
    · by_cases d : 65 ≤ c ∧ c ≤ 90
      · have d0 := d
        obtain ⟨d1, d2⟩ := d
        have e : (dv c : Int) = (c : Int) - 65 + 10 := by unfold dv; rw [if_neg a, if_neg b, if_pos d0]; omega
        rw [e]
        clear e
        have b1 : (65 : Int) ≤ (c : Int) := by omega
        have b2 : (c : Int) ≤ 90 := by omega
        have b3 : ¬ (c : Int) ≤ 57 := by omega
        have b4 : ¬ (97 : Int) ≤ (c : Int) := by omega
        have b5 : (c : Int) + 32 - 97 = (c : Int) - 65 := by omega
        clear a b d0
        go_enter Tryd.func82, Tryd.ntmps82
        go_wp2
        all_goals first | omega | (go_ret; exact ⟨rfl, rfl⟩)
      · have A : Hid (¬ (48 ≤ c ∧ c ≤ 57) ∧ ¬ (97 ≤ c ∧ c ≤ 122) ∧ ¬ (65 ≤ c ∧ c ≤ 90)) := ⟨a, b, d⟩
        have e : (dv c : Int) = 36 := by unfold dv; rw [if_neg a, if_neg b, if_neg d]; rfl
        rw [e]
        clear e
        clear a b d
        go_enter Tryd.func82, Tryd.ntmps82
        go_wp2
        all_goals first | (have := A.out; omega) | (go_ret; exact ⟨rfl, rfl⟩)
set_option maxRecDepth 100000 in
set_option maxHeartbeats 1000000 in
theorem ahead_any (s : ByteArray) (hs : s.size ≤ 9223372036854775807) (w : World) : Calls Tryd.prog 79 #[.string s] w fun e w' => e = .returned (.tuple #[.int .i64 (pfB (bt s 0) (bt s 1)), .int .i64 (pfN (bt s 0) (bt s 1))]) ∧ w' = w := by
  by_cases h : s.size < 2
  · have y : bt s 1 = 256 := bt_out (by omega)
    have e1 : pfB (bt s 0) (bt s 1) = 10 := by unfold pfB; rw [y, if_neg (by omega)]
    have e2 : pfN (bt s 0) (bt s 1) = 0 := by unfold pfN; rw [y, if_neg (by omega)]
    rw [e1, e2]
    clear e1 e2 y
    go_enter Tryd.func79, Tryd.ntmps79
    go_wp2
    go_ret2
    exact ⟨rfl, rfl⟩
  · have g0 : 0 < s.size := by omega
    have g1 : 1 < s.size := by omega
    rw [bt_in g0, bt_in g1]
    obtain ⟨x, hx⟩ : ∃ x : Nat, (s[0]'g0).toNat = x := ⟨_, rfl⟩
    obtain ⟨y, hy⟩ : ∃ y : Nat, (s[1]'g1).toNat = y := ⟨_, rfl⟩
    have hy3 : y < 256 := by rw [← hy]; exact UInt8.toNat_lt _
    have HY : Hid (y < 256) := hy3
    clear hy3
    rw [hx, hy]
    have hx' : (((s[0]'g0).toNat : Nat) : Int) = (x : Int) := by rw [hx]
    have hy' : (((s[1]'g1).toNat : Nat) : Int) = (y : Int) := by rw [hy]
    have h2 : ¬ (s.size : Int) < 2 := by omega
    clear hx hy h
    by_cases c : x = 48
    · subst c
      have q : y = 66 ∨ y = 98 ∨ y = 79 ∨ y = 111 ∨ y = 88 ∨ y = 120 ∨ (y ≠ 66 ∧ y ≠ 98 ∧ y ≠ 79 ∧ y ≠ 111 ∧ y ≠ 88 ∧ y ≠ 120) := by omega
      rcases q with rfl | rfl | rfl | rfl | rfl | rfl | q
      iterate 6
        · go_enter Tryd.func79, Tryd.ntmps79
          go_wp2
          go_ret2
          exact ⟨rfl, rfl⟩
      · obtain ⟨q1, q2, q3, q4, q5, q6⟩ := q
        have e1 : pfB 48 y = 8 := by unfold pfB; rw [if_pos ⟨rfl, HY.out⟩, if_neg (by omega), if_neg (by omega)]
        have e2 : pfN 48 y = 1 := by unfold pfN; rw [if_pos ⟨rfl, HY.out⟩, if_neg (by omega)]
        rw [e1, e2]
        have p1 : ((y : Int) == 66) = false := by simp; omega
        have p2 : ((y : Int) == 98) = false := by simp; omega
        have p3 : ((y : Int) == 79) = false := by simp; omega
        have p4 : ((y : Int) == 111) = false := by simp; omega
        have p5 : ((y : Int) == 88) = false := by simp; omega
        have p6 : ((y : Int) == 120) = false := by simp; omega
        clear e1 e2 q1 q2 q3 q4 q5 q6
        go_enter Tryd.func79, Tryd.ntmps79
        go_wp2
        go_ret2
        exact ⟨rfl, rfl⟩
    · have e1 : pfB x y = 10 := by unfold pfB; rw [if_neg (by omega)]
      have e2 : pfN x y = 0 := by unfold pfN; rw [if_neg (by omega)]
      rw [e1, e2]
      have p1 : ((x : Int) == 48) = false := by simp; omega
      clear e1 e2 c
      go_enter Tryd.func79, Tryd.ntmps79
      go_wp2
      go_ret2
      exact ⟨rfl, rfl⟩

theorem isD_95 {b : Nat} (hb : b ≤ 36) {c : UInt8} (h : (c.toNat : Int) = 95) : isD b c = false ∧ c = 95 := by
  have e : c = 95 := by
    apply UInt8.toNat_inj.1
    show c.toNat = 95
    omega
  exact ⟨by rw [e]; exact isD_bar b hb, e⟩
/-- How far run has come, with underscores. -/
structure RuS (s : ByteArray) (b : Nat) (pre : Bool) (k : Nat) (j p : Bool) (o : List UInt8) : Prop where
  len : o.length ≤ k
  go : cgo b pre s.data.toList = (cG b p j (s.data.toList.drop k)).map (o ++ ·)
  p1 : p = true → j = false
  p2 : p = false → 0 < o.length → j = true
set_option maxRecDepth 100000 in
set_option maxHeartbeats 1000000 in
theorem run_under (s : ByteArray) (hs : s.size ≤ 9223372036854775806) (b : Nat) (hb : b ≤ 36) (pre : Bool) (w : World) :
    Calls Tryd.prog 78 #[.string s, .int .i64 (b : Int), .bool true, .bool pre] w fun e w' => e = .returned (.bool (clean b pre s.data.toList).isSome) ∧ w' = w := by
  have D := fun c hc W => rdig_any c hc W
  obtain ⟨R, hR⟩ : ∃ R, R = (clean b pre s.data.toList).isSome := ⟨_, rfl⟩
  rw [← hR]
  have HR : Hid (R = (clean b pre s.data.toList).isSome) := hR
  have HB : Hid (b ≤ 36) := hb
  clear hR hb
  go_enter Tryd.func78, Tryd.ntmps78
  go_wp2
  go_loop [9, 10, 11] (fun dv lv iv => ∃ (k : Nat) (j p : Bool) (o : List UInt8), dv = .int .i64 (o.length : Int) ∧ lv = .bool (!j) ∧ iv = .int .i64 (k : Int) ∧ k ≤ s.size ∧ Hid (RuS s b pre k j p o)) (fun _ _ iv => s.size - (intOf iv).toNat)
  case atStart => exact ⟨0, pre, false, [], rfl, rfl, rfl, Nat.zero_le _, ⟨Nat.le_refl _, by rw [List.drop_zero, cG_start]; simp, fun h => (by cases h), fun _ h => absurd h (by simp)⟩⟩
  case round =>
    obtain ⟨k, j, p, o, rfl, rfl, rfl, hk, HI⟩ := hrel
    by_cases hlt : k < s.size
    · have HDR : Hid (s.data.toList.drop k = (s[k]'hlt) :: s.data.toList.drop (k + 1)) := drop_at s hlt
      have hlt' : (k : Int) < (s.size : Int) := by omega
      have DC := D (s[k]'hlt).toNat (UInt8.toNat_lt _)
      clear D
      by_cases q : ((s[k]'hlt).toNat : Int) = 95
      · obtain ⟨q1, q2⟩ := isD_95 HB.out q
        clear DC
        cases j with
        | false =>
          have HF : Hid (R = false) := by
            show _ = _
            have g := HI.out.go
            rw [HDR.out, cG_bad q1 (fun z => by cases z.2)] at g
            rw [HR.out, clean_none g]; rfl
          clear HI HDR HR q1 q2
          go_wp2
          go_ret
          exact ⟨by rw [HF.out]; rfl, rfl⟩
        | true =>
          have hp : p = false := by
            cases p with
            | false => rfl
            | true => exact absurd (HI.out.p1 rfl) (by decide)
          subst hp
          have HN : Hid (RuS s b pre (k + 1) false true o) := by
            have g := HI.out.go
            rw [HDR.out, cG_bar q1 q2] at g
            exact ⟨by have := HI.out.len; omega, g, fun _ => rfl, fun h => by cases h⟩
          clear HI HDR q1 q2
          go_wp2
          go_round
          case rel => exact ⟨k + 1, false, true, o, rfl, rfl, by go_num, by omega, HN⟩
          case measure => simp [intOf] <;> omega
      · have q' : (((s[k]'hlt).toNat : Int) == 95) = false := beq_eq_false_iff_ne.mpr q
        by_cases z : dv (s[k]'hlt).toNat < b
        · have zd : isD b (s[k]'hlt) = true := decide_eq_true z
          have HN : Hid (RuS s b pre (k + 1) true false (o ++ [s[k]'hlt])) := by
            have g := HI.out.go
            rw [HDR.out, cG_digit zd] at g
            exact ⟨by have := HI.out.len; simp; omega, map_step g, fun h => (by cases h), fun _ _ => rfl⟩
          have HL : Hid ((o ++ [s[k]'hlt]).length = o.length + 1 ∧ o.length ≤ k) := ⟨by simp, HI.out.len⟩
          have hol : o.length ≤ s.size := by have := HI.out.len; omega
          have z' : ¬ (b : Int) ≤ (dv (s[k]'hlt).toNat : Int) := by omega
          clear HI HDR zd z
          generalize dv (s[k]'hlt).toNat = d at *
          generalize o ++ [s[k]'hlt] = o2 at *
          generalize o.length = m at *
          go_wp2_with fail
          refine (DC _).mono ?_
          rintro e w ⟨rfl, rfl⟩
          go_wp2
          go_round
          case rel => exact ⟨k + 1, true, false, o2, by rw [HL.out.1]; go_num, rfl, by go_num, by omega, HN⟩
          case measure => simp [intOf] <;> omega
        · have zd : isD b (s[k]'hlt) = false := decide_eq_false z
          have HF : Hid (R = false) := by
            show _ = _
            have g := HI.out.go
            rw [HDR.out, cG_bad zd (fun y => q (by rw [y.1]; rfl))] at g
            rw [HR.out, clean_none g]; rfl
          have z' : (b : Int) ≤ (dv (s[k]'hlt).toNat : Int) := by omega
          clear HI HDR HR zd z
          generalize dv (s[k]'hlt).toNat = d at *
          generalize o.length = m at *
          go_wp2_with fail
          refine (DC _).mono ?_
          rintro e w ⟨rfl, rfl⟩
          go_wp2
          go_ret
          exact ⟨by rw [HF.out]; rfl, rfl⟩
    · have hlt' : ¬ (k : Int) < (s.size : Int) := by omega
      have g := HI.out.go
      rw [drop_end s hlt] at g
      clear D
      cases p with
      | true =>
        have hj := HI.out.p1 rfl
        subst hj
        have HF : Hid (R = false) := by
          show _ = _
          have g' : cgo b pre s.data.toList = none := by rw [g]; rfl
          rw [HR.out, clean_none g']; rfl
        clear HI HR g
        generalize o.length = m at *
        go_wp2
        all_goals
          go_ret
          exact ⟨by rw [HF.out]; rfl, rfl⟩
      | false =>
        have g' : cgo b pre s.data.toList = some o := by rw [g]; show (some []).map _ = _; simp
        by_cases z : 0 < o.length
        · have hj := HI.out.p2 rfl z
          subst hj
          have HF : Hid (R = true) := by
            show _ = _
            rw [HR.out, clean_some g' (fun y => by rw [y] at z; simp at z)]; rfl
          have z' : (0 : Int) < (o.length : Int) := by omega
          clear HI HR g g'
          generalize o.length = m at *
          go_wp2
          go_ret
          exact ⟨by rw [HF.out]; rfl, rfl⟩
        · have ho : o = [] := List.length_eq_zero_iff.1 (by omega)
          subst ho
          have HF : Hid (R = false) := by
            show _ = _
            rw [HR.out, clean_nil g']; rfl
          clear HI HR g g' z
          go_wp2
          go_ret
          exact ⟨by rw [HF.out]; rfl, rfl⟩

set_option maxRecDepth 100000 in
set_option maxHeartbeats 1000000 in
theorem run_plain (s : ByteArray) (hs : s.size ≤ 9223372036854775806) (b : Nat) (hb : b ≤ 36) (w : World) :
    Calls Tryd.prog 78 #[.string s, .int .i64 (b : Int), .bool false, .bool false] w fun e w' => e = .returned (.bool (decide (0 < s.data.toList.length ∧ hdn b s.data.toList = s.data.toList.length))) ∧ w' = w := by
  have D := fun c hc W => rdig_any c hc W
  have hsl : s.data.toList.length = s.size := by simp
  obtain ⟨R, hR⟩ : ∃ R, R = decide (0 < s.data.toList.length ∧ hdn b s.data.toList = s.data.toList.length) := ⟨_, rfl⟩
  rw [← hR]
  have HR : Hid (R = decide (0 < s.size ∧ hdn b s.data.toList = s.size)) := by rw [hsl] at hR; exact hR
  have HB : Hid (b ≤ 36) := hb
  clear hR hb hsl
  go_enter Tryd.func78, Tryd.ntmps78
  go_wp2
  go_loop [9, 10, 11] (fun dv lv iv => ∃ (k : Nat) (j : Bool), dv = .int .i64 (k : Int) ∧ lv = .bool (!j) ∧ iv = .int .i64 (k : Int) ∧ k ≤ s.size ∧ Hid (hdn b s.data.toList = k + hdn b (s.data.toList.drop k) ∧ (0 < k → j = true))) (fun _ _ iv => s.size - (intOf iv).toNat)
  case atStart => exact ⟨0, false, rfl, rfl, rfl, Nat.zero_le _, ⟨by rw [List.drop_zero]; omega, fun h => absurd h (by omega)⟩⟩
  case round =>
    obtain ⟨k, j, rfl, rfl, rfl, hk, HI⟩ := hrel
    by_cases hlt : k < s.size
    · have HDR : Hid (s.data.toList.drop k = (s[k]'hlt) :: s.data.toList.drop (k + 1)) := drop_at s hlt
      have hlt' : (k : Int) < (s.size : Int) := by omega
      have DC := D (s[k]'hlt).toNat (UInt8.toNat_lt _)
      clear D
      by_cases q : ((s[k]'hlt).toNat : Int) = 95
      · obtain ⟨q1, q2⟩ := isD_95 HB.out q
        have HF : Hid (R = false) := by
          show _ = _
          have g := HI.out.1
          rw [HDR.out, hdn_no q1] at g
          rw [HR.out]; exact decide_eq_false (by omega)
        clear HI HDR HR q1 q2 DC
        go_wp2
        go_ret
        exact ⟨by rw [HF.out]; rfl, rfl⟩
      · have q' : (((s[k]'hlt).toNat : Int) == 95) = false := beq_eq_false_iff_ne.mpr q
        by_cases z : dv (s[k]'hlt).toNat < b
        · have zd : isD b (s[k]'hlt) = true := decide_eq_true z
          have HN : Hid (hdn b s.data.toList = (k + 1) + hdn b (s.data.toList.drop (k + 1))) := by
            have g := HI.out.1
            rw [HDR.out, hdn_yes zd] at g
            show _ = _
            omega
          have z' : ¬ (b : Int) ≤ (dv (s[k]'hlt).toNat : Int) := by omega
          clear HI HDR zd z
          generalize dv (s[k]'hlt).toNat = d at *
          go_wp2_with fail
          refine (DC _).mono ?_
          rintro e w ⟨rfl, rfl⟩
          go_wp2
          go_round
          case rel => exact ⟨k + 1, true, by go_num, rfl, by go_num, by omega, ⟨HN.out, fun _ => rfl⟩⟩
          case measure => simp [intOf] <;> omega
        · have zd : isD b (s[k]'hlt) = false := decide_eq_false z
          have HF : Hid (R = false) := by
            show _ = _
            have g := HI.out.1
            rw [HDR.out, hdn_no zd] at g
            rw [HR.out]; exact decide_eq_false (by omega)
          have z' : (b : Int) ≤ (dv (s[k]'hlt).toNat : Int) := by omega
          clear HI HDR HR zd z
          generalize dv (s[k]'hlt).toNat = d at *
          go_wp2_with fail
          refine (DC _).mono ?_
          rintro e w ⟨rfl, rfl⟩
          go_wp2
          go_ret
          exact ⟨by rw [HF.out]; rfl, rfl⟩
    · have hlt' : ¬ (k : Int) < (s.size : Int) := by omega
      have g := HI.out.1
      rw [drop_end s hlt] at g
      have g' : hdn b s.data.toList = s.size := by
        rw [g]; show k + 0 = _; omega
      clear D g
      by_cases z : 0 < k
      · have hj := HI.out.2 z
        subst hj
        have HF : Hid (R = true) := by
          show _ = _
          rw [HR.out]; exact decide_eq_true ⟨by omega, g'⟩
        have z' : (0 : Int) < (k : Int) := by omega
        clear HI HR g'
        go_wp2
        go_ret
        exact ⟨by rw [HF.out]; rfl, rfl⟩
      · have hz : k = 0 := by omega
        subst hz
        have HF : Hid (R = false) := by
          show _ = _
          rw [HR.out]; exact decide_eq_false (by omega)
        clear HI HR g' z
        go_wp2
        go_ret
        exact ⟨by rw [HF.out]; rfl, rfl⟩

theorem list_data (s : ByteArray) : s.toList = s.data.toList := by
  have go : ∀ (n i : Nat) (r : List UInt8), n = s.size - i → ByteArray.toList.loop s i r = r.reverse ++ s.data.toList.drop i := by
    intro n
    induction n with
    | zero =>
      intro i r h
      rw [ByteArray.toList.loop, if_neg (by omega), List.drop_eq_nil_of_le (by simpa using (show s.size ≤ i by omega))]
      simp
    | succ n ih =>
      intro i r h
      have hi : i < s.size := by omega
      have hl : i < s.data.toList.length := by simpa using hi
      rw [ByteArray.toList.loop, if_pos hi, ih (i + 1) _ (by omega), List.drop_eq_getElem_cons hl, List.reverse_cons, List.append_assoc]
      congr 1
      simp only [List.singleton_append, List.cons.injEq, and_true]
      simp [ByteArray.get!, hi]
  show ByteArray.toList.loop s 0 [] = _
  simpa using go s.size 0 [] (by omega)
theorem list_drop (s : ByteArray) (n : Nat) : (s.extract n s.size).data.toList = s.data.toList.drop n := by
  rw [ByteArray.data_extract, Array.toList_extract]
  rw [List.extract_eq_take_drop]
  exact List.take_of_length_le (by simp)
theorem size_list (s : ByteArray) : s.data.toList.length = s.size := by simp
theorem is_nought (s : ByteArray) : s.data.toList = [48] ↔ s = ⟨#[48]⟩ := by
  constructor
  · intro h
    cases s with
    | mk d => cases d with
      | mk l => simp at h; subst h; rfl
  · intro h; subst h; rfl
set_option maxRecDepth 100000 in
set_option maxHeartbeats 1000000 in
theorem in_base (s : ByteArray) (hs : s.size ≤ 9223372036854775806) (b : Nat) (h0 : b ≠ 0) (hb : b ≤ 36) (w : World) :
    Calls Tryd.prog 54 #[.string s, .int .i64 (b : Int)] w fun e w' => e = .returned (.bool (inB b s.data.toList)) ∧ w' = w := by
  have R := fun W => run_plain s hs b hb W
  rw [← inB_base h0] at R
  have hne : ((b : Int) != 0) = true := by simp; omega
  generalize inB b s.data.toList = A at *
  go_enter Tryd.func54, Tryd.ntmps54
  go_wp2_with fail
  refine (R _).mono ?_
  rintro e w ⟨rfl, rfl⟩
  go_wp2
  go_ret
  exact ⟨rfl, rfl⟩
set_option maxRecDepth 100000 in
set_option maxHeartbeats 1000000 in
theorem in_zero (s : ByteArray) (hs : s.size ≤ 9223372036854775806) (w : World) :
    Calls Tryd.prog 54 #[.string s, .int .i64 0] w fun e w' => e = .returned (.bool (inB 0 s.data.toList)) ∧ w' = w := by
  obtain ⟨A, hA⟩ : ∃ A, A = inB 0 s.data.toList := ⟨_, rfl⟩
  rw [← hA]
  have HA : Hid (A = (decide (s.data.toList = [48]) || (decide (0 < aN s.data.toList ∨ (0 < s.size ∧ btl s.data.toList 0 ≠ 48)) && (clean (aB s.data.toList) (decide (0 < aN s.data.toList)) (s.data.toList.drop (aN s.data.toList))).isSome))) := by
    show _ = _
    rw [hA, inB_zero, size_list]
  clear hA
  by_cases z : s = ⟨#[48]⟩
  · have HF : Hid (A = true) := by
      show _ = _
      rw [HA.out, decide_eq_true ((is_nought s).2 z)]; rfl
    subst z
    clear HA
    go_enter Tryd.func54, Tryd.ntmps54
    go_wp2
    go_ret
    exact ⟨by rw [HF.out]; rfl, rfl⟩
  · have AH := fun W => ahead_any s (by omega) W
    rw [bt_btl, bt_btl, aB_int, aN_int] at AH
    have hlen := aN_len s.data.toList
    rw [size_list] at hlen
    have RN := fun W => run_under (s.extract (aN s.data.toList) s.size) (by rw [ByteArray.size_extract]; omega) (aB s.data.toList) (aB_in _).2 (decide (0 < aN s.data.toList)) W
    rw [list_drop s] at RN
    have HA2 : Hid (A = (decide (0 < aN s.data.toList ∨ (0 < s.size ∧ btl s.data.toList 0 ≠ 48)) && (clean (aB s.data.toList) (decide (0 < aN s.data.toList)) (s.data.toList.drop (aN s.data.toList))).isSome)) := by
      show _ = _
      rw [HA.out, decide_eq_false (fun y => z ((is_nought s).1 y)), Bool.false_or]
    have HZ : Hid (aN s.data.toList = 0 → aB s.data.toList = 10) := aB_ten
    clear HA
    have z' : (s.toList == [48]) = false := by rw [list_data]; exact beq_eq_false_iff_ne.mpr (fun y => z ((is_nought s).1 y))
    have HB0 : Hid (∀ h : 0 < s.size, btl s.data.toList 0 = (s[0]'h).toNat) := fun h => by rw [← bt_btl, bt_in h]
    generalize btl s.data.toList 0 = B0 at *
    generalize (clean (aB s.data.toList) (decide (0 < aN s.data.toList)) (s.data.toList.drop (aN s.data.toList))).isSome = C at *
    generalize aB s.data.toList = X at *
    generalize aN s.data.toList = n at *
    by_cases q : 0 < n
    · have HF : Hid (A = C) := by
        show _ = _
        rw [HA2.out, decide_eq_true (Or.inl q)]; rfl
      rw [decide_eq_true q] at RN
      have q' : (0 : Int) < (n : Int) := by omega
      clear HA2
      go_enter Tryd.func54, Tryd.ntmps54
      go_wp2_with fail
      refine (AH _).mono ?_
      rintro e w ⟨rfl, rfl⟩
      go_wp2_with fail
      refine (RN _).mono ?_
      rintro e w ⟨rfl, rfl⟩
      go_wp2
      go_ret
      exact ⟨by rw [HF.out]; rfl, rfl⟩
    · have hn : n = 0 := by omega
      subst hn
      rw [show s.extract 0 s.size = s from ByteArray.extract_zero_size] at RN
      by_cases g0 : 0 < s.size
      · have eb := HB0.out g0
        have g0' : (0 : Int) < (s.size : Int) := by omega
        by_cases g1 : B0 = 48
        · have HF : Hid (A = false) := by
            show _ = _
            rw [HA2.out, decide_eq_false (fun y => y.elim (by omega) (fun y => y.2 g1))]; rfl
          have g2 : (((s[0]'g0).toNat : Int) != 48) = false := by rw [← eb, g1]; rfl
          clear HA2 RN eb HB0 g1
          go_enter Tryd.func54, Tryd.ntmps54
          go_wp2_with fail
          refine (AH _).mono ?_
          rintro e w ⟨rfl, rfl⟩
          go_wp2
          go_ret
          exact ⟨by rw [HF.out]; rfl, rfl⟩
        · have HF : Hid (A = C) := by
            show _ = _
            rw [HA2.out, decide_eq_true (Or.inr ⟨g0, g1⟩)]; rfl
          have g2 : (((s[0]'g0).toNat : Int) != 48) = true := by
            rw [← eb]; simp; omega
          clear HA2 eb HB0 g1
          go_enter Tryd.func54, Tryd.ntmps54
          go_wp2_with fail
          refine (AH _).mono ?_
          rintro e w ⟨rfl, rfl⟩
          go_wp2_with fail
          refine (RN _).mono ?_
          rintro e w ⟨rfl, rfl⟩
          go_wp2
          go_ret
          exact ⟨by rw [HF.out]; rfl, rfl⟩
      · have HF : Hid (A = false) := by
          show _ = _
          rw [HA2.out, decide_eq_false (fun y => y.elim (by omega) (fun y => g0 y.1))]; rfl
        have g0' : ¬ (0 : Int) < (s.size : Int) := by omega
        clear HA2 RN HB0
        go_enter Tryd.func54, Tryd.ntmps54
        go_wp2_with fail
        refine (AH _).mono ?_
        rintro e w ⟨rfl, rfl⟩
        go_wp2
        go_ret
        exact ⟨by rw [HF.out]; rfl, rfl⟩
theorem in_any (s : ByteArray) (hs : s.size ≤ 9223372036854775806) (b : Nat) (h : readB b) (w : World) :
    Calls Tryd.prog 54 #[.string s, .int .i64 (b : Int)] w fun e w' => e = .returned (.bool (inB b s.data.toList)) ∧ w' = w := by
  rcases h with h | h
  · subst h; exact in_zero s hs w
  · exact in_base s hs b (by omega) h.2 w
end Go.Proofs.YtoabdoognadijaaDoor
