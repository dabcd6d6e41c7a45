/-
  The law IntsOne: the walk.
-/
import Derived.Test.YthjflphfjemanaaDoorItY
import Derived.Test.YthjflphfjemanaaDoorItW
namespace Go.Proofs.YthjflphfjemanaaDoor
open Go.RowKit

/-- A text without a plus, without a nought ahead of its digits d. -/
def plc (l d : List UInt8) : Prop := l.head? ≠ some 43 ∧ (d.head? ≠ some 48 ∨ (d = [48] ∧ l = d))
theorem str_same {s t : ByteArray} (h : s.data.toList = t.data.toList) : s = t := ByteArray.ext (Array.ext' h)
theorem beq_yes {s : ByteArray} {l : List UInt8} (h : s.data.toList = l) : (s.toList == l) = true := by rw [list_data, h]; simp
theorem beq_no {s : ByteArray} {l : List UInt8} (h : s.data.toList ≠ l) : (s.toList == l) = false := by rw [list_data]; exact beq_eq_false_iff_ne.mpr h
theorem hd_at {D : ByteArray} (h0 : 0 < D.size) : D.data.toList.head? = some (D[0]'h0) := by rw [str_cons h0]; rfl
set_option maxRecDepth 100000 in
set_option maxHeartbeats 1000000 in
theorem ione_no (s : ByteArray) (hs : s.size ≤ 140737488351232) (b : Int) (h0 : b ≠ 0) (h : b < 2 ∨ 36 < b) (w : World) (hg : ErrT w) :
    Calls Tryd.prog 8 #[.string s, .int .i64 b] w fun e w' => e = .returned (.bool true) ∧ Below w.heap.size w w' := by
  have P1 := iparse_no s (by omega) b h0 h w hg
  have S1 := fun W (hg : ErrT W) => works_any W hg
  have HG : Hid (ErrT w) := hg
  clear h h0 hg hs
  go_enter Tryd.func8, Tryd.ntmps8
  go_wp2_with fail
  refine P1.mono ?_
  rintro e w1 ⟨v1, rfl, h1, b1⟩
  obtain ⟨T, y, rfl⟩ := h1.iface
  have B1 : Hid (Below w.heap.size w w1) := b1
  clear b1 h1
  go_wp2_with fail
  refine (S1 _ (HG.out.below B1.out HG.out.pos)).mono ?_
  rintro e w2 ⟨rfl, b2⟩
  have B2 : Hid (Below w.heap.size w w2) := B1.out.trans (b2.mono B1.out.size)
  clear b2
  go_wp2
  go_ret
  exact ⟨rfl, B2.out⟩
set_option maxRecDepth 100000 in
set_option maxHeartbeats 1000000 in
theorem ione_zero (s : ByteArray) (hs : s.size ≤ 140737488351232) (w : World) (hg : ErrT w) :
    Calls Tryd.prog 8 #[.string s, .int .i64 0] w fun e w' => e = .returned (.bool true) ∧ Below w.heap.size w w' := by
  have P1 := iparse_yes s (by omega) 0 (Or.inl rfl) w hg
  have S1 := fun W (hg : ErrT W) => works_any W hg
  have HG : Hid (ErrT w) := hg
  clear hg hs
  generalize ipX 0 s.data.toList = X at *
  generalize ipE 0 s.data.toList = E at *
  go_enter Tryd.func8, Tryd.ntmps8
  go_wp2_with fail
  refine P1.mono ?_
  rintro e w1 ⟨v1, rfl, h1, b1⟩
  have B1 : Hid (Below w.heap.size w w1) := b1
  clear b1
  rcases h1 with ⟨_, rfl⟩ | ⟨_, h1⟩
  · go_wp2_with fail
    refine (S1 _ (HG.out.below B1.out HG.out.pos)).mono ?_
    rintro e w2 ⟨rfl, b2⟩
    have B2 : Hid (Below w.heap.size w w2) := B1.out.trans (b2.mono B1.out.size)
    clear b2
    go_wp2
    go_ret
    exact ⟨rfl, B2.out⟩
  · obtain ⟨T, y, rfl⟩ := h1.iface
    clear h1
    go_wp2_with fail
    refine (S1 _ (HG.out.below B1.out HG.out.pos)).mono ?_
    rintro e w2 ⟨rfl, b2⟩
    have B2 : Hid (Below w.heap.size w w2) := B1.out.trans (b2.mono B1.out.size)
    clear b2
    go_wp2
    go_ret
    exact ⟨rfl, B2.out⟩
set_option maxRecDepth 100000 in
set_option maxHeartbeats 3000000 in
theorem ione_plus (s D T : ByteArray) (X : Int) (b : Nat) (PC : Prop) (g0 : 0 < s.size) (d0 : 0 < D.size) (d1 : D.size ≤ 140737488351232) (hb1 : ¬ (b : Int) < 2) (hb2 : ¬ (36 : Int) < (b : Int)) (w : World) (HG : Hid (ErrT w))
    (P1 : Calls Tryd.prog 23 #[.string s, .int .i64 (b : Int)] w fun x w' => x = .returned (.tuple #[.int .i64 X, .nilIface]) ∧ Below w.heap.size w w')
    (F2 : ∀ W, Calls Tryd.prog 9 #[.int .i64 X, .int .i64 (b : Int)] W fun x w' => x = .returned (.tuple #[.string T, .nilIface]) ∧ Below W.heap.size W w')
    (HTS : Hid (PC → (∀ c ∈ D.data.toList, small c) → T = s)) (hTl : (T.size : Int) ≤ (s.size : Int)) (hD : s.extract 1 s.size = D) (hsl : ¬ (s.size : Int) < 1) (_m1 : (((s[0]'g0).toNat : Int) == 45) = false) (m2 : ((s[0]'g0).toNat : Int) = 43) :
    Calls Tryd.prog 8 #[.string s, .int .i64 (b : Int)] w fun e w' => e = .returned (.bool true) ∧ Below w.heap.size w w' := by
  have S1 := fun W (hg : ErrT W) => works_any W hg
  have g0' : (0 : Int) < (s.size : Int) := by omega
  have d0' : (0 : Int) < (D.size : Int) := by omega
  go_enter Tryd.func8, Tryd.ntmps8
  go_wp2_with fail
  refine P1.mono ?_
  rintro e w1 ⟨rfl, b1⟩
  have B1 : Hid (Below w.heap.size w w1) := b1
  clear b1 P1
  go_wp2
  go_loop [8, 9] (fun pv iv => ∃ (k : Nat) (pl : Bool), pv = .bool pl ∧ iv = .int .i64 (k : Int) ∧ k ≤ D.size ∧ Hid (pl = true → PC ∧ ∀ c ∈ D.data.toList.take k, small c)) (fun _ iv => D.size - (intOf iv).toNat)
  case atStart => first | exact ⟨0, true, rfl, rfl, Nat.zero_le _, fun _ => ⟨HPC.out, fun c hc => by simp at hc⟩⟩ | exact ⟨0, false, rfl, rfl, Nat.zero_le _, fun h => by cases h⟩
  case round =>
    obtain ⟨k, pl, rfl, rfl, hk, HI⟩ := hrel
    by_cases hlt : k < D.size
    · have hlt' : (k : Int) < (D.size : Int) := by omega
      cases pl with
      | false =>
        clear HI
        go_wp2
        go_round
        case rel => exact ⟨k + 1, false, rfl, by go_num, by omega, fun h => by cases h⟩
        case measure => simp [intOf] <;> omega
      | true =>
        have HT : Hid (D.data.toList.take (k + 1) = D.data.toList.take k ++ [D[k]'hlt]) := by
          show _ = _
          have hl : k < D.data.toList.length := by simpa using hlt
          rw [List.take_succ_eq_append_getElem hl]; rfl
        by_cases q : 65 ≤ (D[k]'hlt).toNat ∧ (D[k]'hlt).toNat ≤ 90
        · have q1 : ¬ ((D[k]'hlt).toNat : Int) < 65 := by omega
          have q2 : ¬ (90 : Int) < ((D[k]'hlt).toNat : Int) := by omega
          clear HI HT q
          go_wp2
          go_round
          case rel => exact ⟨k + 1, false, rfl, by go_num, by omega, fun h => by cases h⟩
          case measure => simp [intOf] <;> omega
        · have HN : Hid (PC ∧ ∀ c ∈ D.data.toList.take (k + 1), small c) := by
            refine ⟨(HI.out rfl).1, fun c hc => ?_⟩
            rw [HT.out] at hc
            rcases List.mem_append.1 hc with z | z
            · exact (HI.out rfl).2 c z
            · rw [List.mem_singleton.1 z]; exact q
          have cs : ((D[k]'hlt).toNat : Int) < 65 ∨ (¬ ((D[k]'hlt).toNat : Int) < 65 ∧ (90 : Int) < ((D[k]'hlt).toNat : Int)) := by omega
          clear HI HT q
          rcases cs with q1 | ⟨q1, q2⟩
          all_goals
            go_wp2
            go_round
            case rel => exact ⟨k + 1, true, rfl, by go_num, by omega, fun _ => HN.out⟩
            case measure => simp [intOf] <;> omega
    · have hlt' : ¬ (k : Int) < (D.size : Int) := by omega
      have HI2 : Hid (pl = true → T = s) := fun h => HTS.out (HI.out h).1 (by
        have := (HI.out h).2
        rw [List.take_of_length_le (by rw [ls_size]; omega)] at this
        exact this)
      clear HI HTS
      go_wp2_with fail
      refine (F2 _).mono ?_
      rintro e w2 ⟨rfl, b2⟩
      have B2 : Hid (Below w.heap.size w w2) := B1.out.trans (b2.mono B1.out.size)
      clear b2
      cases pl with
      | false =>
        go_wp2_with fail
        refine (S1 _ (HG.out.below B2.out HG.out.pos)).mono ?_
        rintro e w3 ⟨rfl, b3⟩
        have B3 : Hid (Below w.heap.size w w3) := B2.out.trans (b3.mono B2.out.size)
        clear b3
        go_wp2
        go_ret
        exact ⟨rfl, B3.out⟩
      | true =>
        have hTs := beq_yes (s := T) (l := s.toList) (by rw [HI2.out rfl, list_data])
        go_wp2_with fail
        refine (S1 _ (HG.out.below B2.out HG.out.pos)).mono ?_
        rintro e w3 ⟨rfl, b3⟩
        have B3 : Hid (Below w.heap.size w w3) := B2.out.trans (b3.mono B2.out.size)
        clear b3
        go_wp2
        go_ret
        exact ⟨rfl, B3.out⟩
set_option maxRecDepth 100000 in
set_option maxHeartbeats 3000000 in
theorem ione_minus1 (s D T : ByteArray) (X : Int) (b : Nat) (PC : Prop) (g0 : 0 < s.size) (d0 : 0 < D.size) (d1 : D.size ≤ 140737488351232) (hb1 : ¬ (b : Int) < 2) (hb2 : ¬ (36 : Int) < (b : Int)) (w : World) (HG : Hid (ErrT w))
    (P1 : Calls Tryd.prog 23 #[.string s, .int .i64 (b : Int)] w fun x w' => x = .returned (.tuple #[.int .i64 X, .nilIface]) ∧ Below w.heap.size w w')
    (F2 : ∀ W, Calls Tryd.prog 9 #[.int .i64 X, .int .i64 (b : Int)] W fun x w' => x = .returned (.tuple #[.string T, .nilIface]) ∧ Below W.heap.size W w')
    (HTS : Hid (PC → (∀ c ∈ D.data.toList, small c) → T = s)) (hTl : (T.size : Int) ≤ (s.size : Int)) (hD : s.extract 1 s.size = D) (hsl : ¬ (s.size : Int) < 1) (m1 : ((s[0]'g0).toNat : Int) = 45) (n1 : (((D[0]'d0).toNat : Int) != 48) = true) (HPC : Hid PC) :
    Calls Tryd.prog 8 #[.string s, .int .i64 (b : Int)] w fun e w' => e = .returned (.bool true) ∧ Below w.heap.size w w' := by
  have S1 := fun W (hg : ErrT W) => works_any W hg
  have g0' : (0 : Int) < (s.size : Int) := by omega
  have d0' : (0 : Int) < (D.size : Int) := by omega
  go_enter Tryd.func8, Tryd.ntmps8
  go_wp2_with fail
  refine P1.mono ?_
  rintro e w1 ⟨rfl, b1⟩
  have B1 : Hid (Below w.heap.size w w1) := b1
  clear b1 P1
  go_wp2
  go_loop [8, 9] (fun pv iv => ∃ (k : Nat) (pl : Bool), pv = .bool pl ∧ iv = .int .i64 (k : Int) ∧ k ≤ D.size ∧ Hid (pl = true → PC ∧ ∀ c ∈ D.data.toList.take k, small c)) (fun _ iv => D.size - (intOf iv).toNat)
  case atStart => first | exact ⟨0, true, rfl, rfl, Nat.zero_le _, fun _ => ⟨HPC.out, fun c hc => by simp at hc⟩⟩ | exact ⟨0, false, rfl, rfl, Nat.zero_le _, fun h => by cases h⟩
  case round =>
    obtain ⟨k, pl, rfl, rfl, hk, HI⟩ := hrel
    by_cases hlt : k < D.size
    · have hlt' : (k : Int) < (D.size : Int) := by omega
      cases pl with
      | false =>
        clear HI
        go_wp2
        go_round
        case rel => exact ⟨k + 1, false, rfl, by go_num, by omega, fun h => by cases h⟩
        case measure => simp [intOf] <;> omega
      | true =>
        have HT : Hid (D.data.toList.take (k + 1) = D.data.toList.take k ++ [D[k]'hlt]) := by
          show _ = _
          have hl : k < D.data.toList.length := by simpa using hlt
          rw [List.take_succ_eq_append_getElem hl]; rfl
        by_cases q : 65 ≤ (D[k]'hlt).toNat ∧ (D[k]'hlt).toNat ≤ 90
        · have q1 : ¬ ((D[k]'hlt).toNat : Int) < 65 := by omega
          have q2 : ¬ (90 : Int) < ((D[k]'hlt).toNat : Int) := by omega
          clear HI HT q
          go_wp2
          go_round
          case rel => exact ⟨k + 1, false, rfl, by go_num, by omega, fun h => by cases h⟩
          case measure => simp [intOf] <;> omega
        · have HN : Hid (PC ∧ ∀ c ∈ D.data.toList.take (k + 1), small c) := by
            refine ⟨(HI.out rfl).1, fun c hc => ?_⟩
            rw [HT.out] at hc
            rcases List.mem_append.1 hc with z | z
            · exact (HI.out rfl).2 c z
            · rw [List.mem_singleton.1 z]; exact q
          have cs : ((D[k]'hlt).toNat : Int) < 65 ∨ (¬ ((D[k]'hlt).toNat : Int) < 65 ∧ (90 : Int) < ((D[k]'hlt).toNat : Int)) := by omega
          clear HI HT q
          rcases cs with q1 | ⟨q1, q2⟩
          all_goals
            go_wp2
            go_round
            case rel => exact ⟨k + 1, true, rfl, by go_num, by omega, fun _ => HN.out⟩
            case measure => simp [intOf] <;> omega
    · have hlt' : ¬ (k : Int) < (D.size : Int) := by omega
      have HI2 : Hid (pl = true → T = s) := fun h => HTS.out (HI.out h).1 (by
        have := (HI.out h).2
        rw [List.take_of_length_le (by rw [ls_size]; omega)] at this
        exact this)
      clear HI HTS
      go_wp2_with fail
      refine (F2 _).mono ?_
      rintro e w2 ⟨rfl, b2⟩
      have B2 : Hid (Below w.heap.size w w2) := B1.out.trans (b2.mono B1.out.size)
      clear b2
      cases pl with
      | false =>
        go_wp2_with fail
        refine (S1 _ (HG.out.below B2.out HG.out.pos)).mono ?_
        rintro e w3 ⟨rfl, b3⟩
        have B3 : Hid (Below w.heap.size w w3) := B2.out.trans (b3.mono B2.out.size)
        clear b3
        go_wp2
        go_ret
        exact ⟨rfl, B3.out⟩
      | true =>
        have hTs := beq_yes (s := T) (l := s.toList) (by rw [HI2.out rfl, list_data])
        go_wp2_with fail
        refine (S1 _ (HG.out.below B2.out HG.out.pos)).mono ?_
        rintro e w3 ⟨rfl, b3⟩
        have B3 : Hid (Below w.heap.size w w3) := B2.out.trans (b3.mono B2.out.size)
        clear b3
        go_wp2
        go_ret
        exact ⟨rfl, B3.out⟩
set_option maxRecDepth 100000 in
set_option maxHeartbeats 3000000 in
theorem ione_minus2 (s D T : ByteArray) (X : Int) (b : Nat) (PC : Prop) (g0 : 0 < s.size) (d0 : 0 < D.size) (d1 : D.size ≤ 140737488351232) (hb1 : ¬ (b : Int) < 2) (hb2 : ¬ (36 : Int) < (b : Int)) (w : World) (HG : Hid (ErrT w))
    (P1 : Calls Tryd.prog 23 #[.string s, .int .i64 (b : Int)] w fun x w' => x = .returned (.tuple #[.int .i64 X, .nilIface]) ∧ Below w.heap.size w w')
    (F2 : ∀ W, Calls Tryd.prog 9 #[.int .i64 X, .int .i64 (b : Int)] W fun x w' => x = .returned (.tuple #[.string T, .nilIface]) ∧ Below W.heap.size W w')
    (HTS : Hid (PC → (∀ c ∈ D.data.toList, small c) → T = s)) (hTl : (T.size : Int) ≤ (s.size : Int)) (hD : s.extract 1 s.size = D) (hsl : ¬ (s.size : Int) < 1) (m1 : ((s[0]'g0).toNat : Int) = 45) (n1 : (((D[0]'d0).toNat : Int) != 48) = false) (n2 : (D.toList == [48]) = false) :
    Calls Tryd.prog 8 #[.string s, .int .i64 (b : Int)] w fun e w' => e = .returned (.bool true) ∧ Below w.heap.size w w' := by
  have S1 := fun W (hg : ErrT W) => works_any W hg
  have g0' : (0 : Int) < (s.size : Int) := by omega
  have d0' : (0 : Int) < (D.size : Int) := by omega
  go_enter Tryd.func8, Tryd.ntmps8
  go_wp2_with fail
  refine P1.mono ?_
  rintro e w1 ⟨rfl, b1⟩
  have B1 : Hid (Below w.heap.size w w1) := b1
  clear b1 P1
  go_wp2
  go_loop [8, 9] (fun pv iv => ∃ (k : Nat) (pl : Bool), pv = .bool pl ∧ iv = .int .i64 (k : Int) ∧ k ≤ D.size ∧ Hid (pl = true → PC ∧ ∀ c ∈ D.data.toList.take k, small c)) (fun _ iv => D.size - (intOf iv).toNat)
  case atStart => first | exact ⟨0, true, rfl, rfl, Nat.zero_le _, fun _ => ⟨HPC.out, fun c hc => by simp at hc⟩⟩ | exact ⟨0, false, rfl, rfl, Nat.zero_le _, fun h => by cases h⟩
  case round =>
    obtain ⟨k, pl, rfl, rfl, hk, HI⟩ := hrel
    by_cases hlt : k < D.size
    · have hlt' : (k : Int) < (D.size : Int) := by omega
      cases pl with
      | false =>
        clear HI
        go_wp2
        go_round
        case rel => exact ⟨k + 1, false, rfl, by go_num, by omega, fun h => by cases h⟩
        case measure => simp [intOf] <;> omega
      | true =>
        have HT : Hid (D.data.toList.take (k + 1) = D.data.toList.take k ++ [D[k]'hlt]) := by
          show _ = _
          have hl : k < D.data.toList.length := by simpa using hlt
          rw [List.take_succ_eq_append_getElem hl]; rfl
        by_cases q : 65 ≤ (D[k]'hlt).toNat ∧ (D[k]'hlt).toNat ≤ 90
        · have q1 : ¬ ((D[k]'hlt).toNat : Int) < 65 := by omega
          have q2 : ¬ (90 : Int) < ((D[k]'hlt).toNat : Int) := by omega
          clear HI HT q
          go_wp2
          go_round
          case rel => exact ⟨k + 1, false, rfl, by go_num, by omega, fun h => by cases h⟩
          case measure => simp [intOf] <;> omega
        · have HN : Hid (PC ∧ ∀ c ∈ D.data.toList.take (k + 1), small c) := by
            refine ⟨(HI.out rfl).1, fun c hc => ?_⟩
            rw [HT.out] at hc
            rcases List.mem_append.1 hc with z | z
            · exact (HI.out rfl).2 c z
            · rw [List.mem_singleton.1 z]; exact q
          have cs : ((D[k]'hlt).toNat : Int) < 65 ∨ (¬ ((D[k]'hlt).toNat : Int) < 65 ∧ (90 : Int) < ((D[k]'hlt).toNat : Int)) := by omega
          clear HI HT q
          rcases cs with q1 | ⟨q1, q2⟩
          all_goals
            go_wp2
            go_round
            case rel => exact ⟨k + 1, true, rfl, by go_num, by omega, fun _ => HN.out⟩
            case measure => simp [intOf] <;> omega
    · have hlt' : ¬ (k : Int) < (D.size : Int) := by omega
      have HI2 : Hid (pl = true → T = s) := fun h => HTS.out (HI.out h).1 (by
        have := (HI.out h).2
        rw [List.take_of_length_le (by rw [ls_size]; omega)] at this
        exact this)
      clear HI HTS
      go_wp2_with fail
      refine (F2 _).mono ?_
      rintro e w2 ⟨rfl, b2⟩
      have B2 : Hid (Below w.heap.size w w2) := B1.out.trans (b2.mono B1.out.size)
      clear b2
      cases pl with
      | false =>
        go_wp2_with fail
        refine (S1 _ (HG.out.below B2.out HG.out.pos)).mono ?_
        rintro e w3 ⟨rfl, b3⟩
        have B3 : Hid (Below w.heap.size w w3) := B2.out.trans (b3.mono B2.out.size)
        clear b3
        go_wp2
        go_ret
        exact ⟨rfl, B3.out⟩
      | true =>
        have hTs := beq_yes (s := T) (l := s.toList) (by rw [HI2.out rfl, list_data])
        go_wp2_with fail
        refine (S1 _ (HG.out.below B2.out HG.out.pos)).mono ?_
        rintro e w3 ⟨rfl, b3⟩
        have B3 : Hid (Below w.heap.size w w3) := B2.out.trans (b3.mono B2.out.size)
        clear b3
        go_wp2
        go_ret
        exact ⟨rfl, B3.out⟩
set_option maxRecDepth 100000 in
set_option maxHeartbeats 3000000 in
theorem ione_minus3 (s D T : ByteArray) (X : Int) (b : Nat) (PC : Prop) (g0 : 0 < s.size) (d0 : 0 < D.size) (d1 : D.size ≤ 140737488351232) (hb1 : ¬ (b : Int) < 2) (hb2 : ¬ (36 : Int) < (b : Int)) (w : World) (HG : Hid (ErrT w))
    (P1 : Calls Tryd.prog 23 #[.string s, .int .i64 (b : Int)] w fun x w' => x = .returned (.tuple #[.int .i64 X, .nilIface]) ∧ Below w.heap.size w w')
    (F2 : ∀ W, Calls Tryd.prog 9 #[.int .i64 X, .int .i64 (b : Int)] W fun x w' => x = .returned (.tuple #[.string T, .nilIface]) ∧ Below W.heap.size W w')
    (HTS : Hid (PC → (∀ c ∈ D.data.toList, small c) → T = s)) (hTl : (T.size : Int) ≤ (s.size : Int)) (hD : s.extract 1 s.size = D) (hsl : ¬ (s.size : Int) < 1) (m1 : ((s[0]'g0).toNat : Int) = 45) (n1 : (((D[0]'d0).toNat : Int) != 48) = false) (n2 : (D.toList == [48]) = true) (n3 : (s.toList == D.toList) = false) :
    Calls Tryd.prog 8 #[.string s, .int .i64 (b : Int)] w fun e w' => e = .returned (.bool true) ∧ Below w.heap.size w w' := by
  have S1 := fun W (hg : ErrT W) => works_any W hg
  have g0' : (0 : Int) < (s.size : Int) := by omega
  have d0' : (0 : Int) < (D.size : Int) := by omega
  go_enter Tryd.func8, Tryd.ntmps8
  go_wp2_with fail
  refine P1.mono ?_
  rintro e w1 ⟨rfl, b1⟩
  have B1 : Hid (Below w.heap.size w w1) := b1
  clear b1 P1
  go_wp2
  go_loop [8, 9] (fun pv iv => ∃ (k : Nat) (pl : Bool), pv = .bool pl ∧ iv = .int .i64 (k : Int) ∧ k ≤ D.size ∧ Hid (pl = true → PC ∧ ∀ c ∈ D.data.toList.take k, small c)) (fun _ iv => D.size - (intOf iv).toNat)
  case atStart => first | exact ⟨0, true, rfl, rfl, Nat.zero_le _, fun _ => ⟨HPC.out, fun c hc => by simp at hc⟩⟩ | exact ⟨0, false, rfl, rfl, Nat.zero_le _, fun h => by cases h⟩
  case round =>
    obtain ⟨k, pl, rfl, rfl, hk, HI⟩ := hrel
    by_cases hlt : k < D.size
    · have hlt' : (k : Int) < (D.size : Int) := by omega
      cases pl with
      | false =>
        clear HI
        go_wp2
        go_round
        case rel => exact ⟨k + 1, false, rfl, by go_num, by omega, fun h => by cases h⟩
        case measure => simp [intOf] <;> omega
      | true =>
        have HT : Hid (D.data.toList.take (k + 1) = D.data.toList.take k ++ [D[k]'hlt]) := by
          show _ = _
          have hl : k < D.data.toList.length := by simpa using hlt
          rw [List.take_succ_eq_append_getElem hl]; rfl
        by_cases q : 65 ≤ (D[k]'hlt).toNat ∧ (D[k]'hlt).toNat ≤ 90
        · have q1 : ¬ ((D[k]'hlt).toNat : Int) < 65 := by omega
          have q2 : ¬ (90 : Int) < ((D[k]'hlt).toNat : Int) := by omega
          clear HI HT q
          go_wp2
          go_round
          case rel => exact ⟨k + 1, false, rfl, by go_num, by omega, fun h => by cases h⟩
          case measure => simp [intOf] <;> omega
        · have HN : Hid (PC ∧ ∀ c ∈ D.data.toList.take (k + 1), small c) := by
            refine ⟨(HI.out rfl).1, fun c hc => ?_⟩
            rw [HT.out] at hc
            rcases List.mem_append.1 hc with z | z
            · exact (HI.out rfl).2 c z
            · rw [List.mem_singleton.1 z]; exact q
          have cs : ((D[k]'hlt).toNat : Int) < 65 ∨ (¬ ((D[k]'hlt).toNat : Int) < 65 ∧ (90 : Int) < ((D[k]'hlt).toNat : Int)) := by omega
          clear HI HT q
          rcases cs with q1 | ⟨q1, q2⟩
          all_goals
            go_wp2
            go_round
            case rel => exact ⟨k + 1, true, rfl, by go_num, by omega, fun _ => HN.out⟩
            case measure => simp [intOf] <;> omega
    · have hlt' : ¬ (k : Int) < (D.size : Int) := by omega
      have HI2 : Hid (pl = true → T = s) := fun h => HTS.out (HI.out h).1 (by
        have := (HI.out h).2
        rw [List.take_of_length_le (by rw [ls_size]; omega)] at this
        exact this)
      clear HI HTS
      go_wp2_with fail
      refine (F2 _).mono ?_
      rintro e w2 ⟨rfl, b2⟩
      have B2 : Hid (Below w.heap.size w w2) := B1.out.trans (b2.mono B1.out.size)
      clear b2
      cases pl with
      | false =>
        go_wp2_with fail
        refine (S1 _ (HG.out.below B2.out HG.out.pos)).mono ?_
        rintro e w3 ⟨rfl, b3⟩
        have B3 : Hid (Below w.heap.size w w3) := B2.out.trans (b3.mono B2.out.size)
        clear b3
        go_wp2
        go_ret
        exact ⟨rfl, B3.out⟩
      | true =>
        have hTs := beq_yes (s := T) (l := s.toList) (by rw [HI2.out rfl, list_data])
        go_wp2_with fail
        refine (S1 _ (HG.out.below B2.out HG.out.pos)).mono ?_
        rintro e w3 ⟨rfl, b3⟩
        have B3 : Hid (Below w.heap.size w w3) := B2.out.trans (b3.mono B2.out.size)
        clear b3
        go_wp2
        go_ret
        exact ⟨rfl, B3.out⟩
set_option maxRecDepth 100000 in
set_option maxHeartbeats 3000000 in
theorem ione_none1 (s T : ByteArray) (X : Int) (b : Nat) (PC : Prop) (g0 : 0 < s.size) (d1 : s.size ≤ 140737488351232) (hb1 : ¬ (b : Int) < 2) (hb2 : ¬ (36 : Int) < (b : Int)) (w : World) (HG : Hid (ErrT w))
    (P1 : Calls Tryd.prog 23 #[.string s, .int .i64 (b : Int)] w fun x w' => x = .returned (.tuple #[.int .i64 X, .nilIface]) ∧ Below w.heap.size w w')
    (F2 : ∀ W, Calls Tryd.prog 9 #[.int .i64 X, .int .i64 (b : Int)] W fun x w' => x = .returned (.tuple #[.string T, .nilIface]) ∧ Below W.heap.size W w')
    (HTS : Hid (PC → (∀ c ∈ s.data.toList, small c) → T = s)) (hTl : (T.size : Int) ≤ (s.size : Int)) (m1 : (((s[0]'g0).toNat : Int) == 45) = false) (m2 : (((s[0]'g0).toNat : Int) == 43) = false) (m3 : (((s[0]'g0).toNat : Int) != 43) = true) (n1 : (((s[0]'g0).toNat : Int) != 48) = true) (HPC : Hid PC) :
    Calls Tryd.prog 8 #[.string s, .int .i64 (b : Int)] w fun e w' => e = .returned (.bool true) ∧ Below w.heap.size w w' := by
  have S1 := fun W (hg : ErrT W) => works_any W hg
  have g0' : (0 : Int) < (s.size : Int) := by omega
  go_enter Tryd.func8, Tryd.ntmps8
  go_wp2_with fail
  refine P1.mono ?_
  rintro e w1 ⟨rfl, b1⟩
  have B1 : Hid (Below w.heap.size w w1) := b1
  clear b1 P1
  go_wp2
  go_loop [8, 9] (fun pv iv => ∃ (k : Nat) (pl : Bool), pv = .bool pl ∧ iv = .int .i64 (k : Int) ∧ k ≤ s.size ∧ Hid (pl = true → PC ∧ ∀ c ∈ s.data.toList.take k, small c)) (fun _ iv => s.size - (intOf iv).toNat)
  case atStart => first | exact ⟨0, true, rfl, rfl, Nat.zero_le _, fun _ => ⟨HPC.out, fun c hc => by simp at hc⟩⟩ | exact ⟨0, false, rfl, rfl, Nat.zero_le _, fun h => by cases h⟩
  case round =>
    obtain ⟨k, pl, rfl, rfl, hk, HI⟩ := hrel
    by_cases hlt : k < s.size
    · have hlt' : (k : Int) < (s.size : Int) := by omega
      cases pl with
      | false =>
        clear HI
        go_wp2
        go_round
        case rel => exact ⟨k + 1, false, rfl, by go_num, by omega, fun h => by cases h⟩
        case measure => simp [intOf] <;> omega
      | true =>
        have HT : Hid (s.data.toList.take (k + 1) = s.data.toList.take k ++ [s[k]'hlt]) := by
          show _ = _
          have hl : k < s.data.toList.length := by simpa using hlt
          rw [List.take_succ_eq_append_getElem hl]; rfl
        by_cases q : 65 ≤ (s[k]'hlt).toNat ∧ (s[k]'hlt).toNat ≤ 90
        · have q1 : ¬ ((s[k]'hlt).toNat : Int) < 65 := by omega
          have q2 : ¬ (90 : Int) < ((s[k]'hlt).toNat : Int) := by omega
          clear HI HT q
          go_wp2
          go_round
          case rel => exact ⟨k + 1, false, rfl, by go_num, by omega, fun h => by cases h⟩
          case measure => simp [intOf] <;> omega
        · have HN : Hid (PC ∧ ∀ c ∈ s.data.toList.take (k + 1), small c) := by
            refine ⟨(HI.out rfl).1, fun c hc => ?_⟩
            rw [HT.out] at hc
            rcases List.mem_append.1 hc with z | z
            · exact (HI.out rfl).2 c z
            · rw [List.mem_singleton.1 z]; exact q
          have cs : ((s[k]'hlt).toNat : Int) < 65 ∨ (¬ ((s[k]'hlt).toNat : Int) < 65 ∧ (90 : Int) < ((s[k]'hlt).toNat : Int)) := by omega
          clear HI HT q
          rcases cs with q1 | ⟨q1, q2⟩
          all_goals
            go_wp2
            go_round
            case rel => exact ⟨k + 1, true, rfl, by go_num, by omega, fun _ => HN.out⟩
            case measure => simp [intOf] <;> omega
    · have hlt' : ¬ (k : Int) < (s.size : Int) := by omega
      have HI2 : Hid (pl = true → T = s) := fun h => HTS.out (HI.out h).1 (by
        have := (HI.out h).2
        rw [List.take_of_length_le (by rw [ls_size]; omega)] at this
        exact this)
      clear HI HTS
      go_wp2_with fail
      refine (F2 _).mono ?_
      rintro e w2 ⟨rfl, b2⟩
      have B2 : Hid (Below w.heap.size w w2) := B1.out.trans (b2.mono B1.out.size)
      clear b2
      cases pl with
      | false =>
        go_wp2_with fail
        refine (S1 _ (HG.out.below B2.out HG.out.pos)).mono ?_
        rintro e w3 ⟨rfl, b3⟩
        have B3 : Hid (Below w.heap.size w w3) := B2.out.trans (b3.mono B2.out.size)
        clear b3
        go_wp2
        go_ret
        exact ⟨rfl, B3.out⟩
      | true =>
        have hTs := beq_yes (s := T) (l := s.toList) (by rw [HI2.out rfl, list_data])
        go_wp2_with fail
        refine (S1 _ (HG.out.below B2.out HG.out.pos)).mono ?_
        rintro e w3 ⟨rfl, b3⟩
        have B3 : Hid (Below w.heap.size w w3) := B2.out.trans (b3.mono B2.out.size)
        clear b3
        go_wp2
        go_ret
        exact ⟨rfl, B3.out⟩
set_option maxRecDepth 100000 in
set_option maxHeartbeats 3000000 in
theorem ione_none2 (s T : ByteArray) (X : Int) (b : Nat) (PC : Prop) (g0 : 0 < s.size) (d1 : s.size ≤ 140737488351232) (hb1 : ¬ (b : Int) < 2) (hb2 : ¬ (36 : Int) < (b : Int)) (w : World) (HG : Hid (ErrT w))
    (P1 : Calls Tryd.prog 23 #[.string s, .int .i64 (b : Int)] w fun x w' => x = .returned (.tuple #[.int .i64 X, .nilIface]) ∧ Below w.heap.size w w')
    (F2 : ∀ W, Calls Tryd.prog 9 #[.int .i64 X, .int .i64 (b : Int)] W fun x w' => x = .returned (.tuple #[.string T, .nilIface]) ∧ Below W.heap.size W w')
    (HTS : Hid (PC → (∀ c ∈ s.data.toList, small c) → T = s)) (hTl : (T.size : Int) ≤ (s.size : Int)) (m1 : (((s[0]'g0).toNat : Int) == 45) = false) (m2 : (((s[0]'g0).toNat : Int) == 43) = false) (m3 : (((s[0]'g0).toNat : Int) != 43) = true) (n1 : (((s[0]'g0).toNat : Int) != 48) = false) (n2 : (s.toList == [48]) = false) :
    Calls Tryd.prog 8 #[.string s, .int .i64 (b : Int)] w fun e w' => e = .returned (.bool true) ∧ Below w.heap.size w w' := by
  have S1 := fun W (hg : ErrT W) => works_any W hg
  have g0' : (0 : Int) < (s.size : Int) := by omega
  go_enter Tryd.func8, Tryd.ntmps8
  go_wp2_with fail
  refine P1.mono ?_
  rintro e w1 ⟨rfl, b1⟩
  have B1 : Hid (Below w.heap.size w w1) := b1
  clear b1 P1
  go_wp2
  go_loop [8, 9] (fun pv iv => ∃ (k : Nat) (pl : Bool), pv = .bool pl ∧ iv = .int .i64 (k : Int) ∧ k ≤ s.size ∧ Hid (pl = true → PC ∧ ∀ c ∈ s.data.toList.take k, small c)) (fun _ iv => s.size - (intOf iv).toNat)
  case atStart => first | exact ⟨0, true, rfl, rfl, Nat.zero_le _, fun _ => ⟨HPC.out, fun c hc => by simp at hc⟩⟩ | exact ⟨0, false, rfl, rfl, Nat.zero_le _, fun h => by cases h⟩
  case round =>
    obtain ⟨k, pl, rfl, rfl, hk, HI⟩ := hrel
    by_cases hlt : k < s.size
    · have hlt' : (k : Int) < (s.size : Int) := by omega
      cases pl with
      | false =>
        clear HI
        go_wp2
        go_round
        case rel => exact ⟨k + 1, false, rfl, by go_num, by omega, fun h => by cases h⟩
        case measure => simp [intOf] <;> omega
      | true =>
        have HT : Hid (s.data.toList.take (k + 1) = s.data.toList.take k ++ [s[k]'hlt]) := by
          show _ = _
          have hl : k < s.data.toList.length := by simpa using hlt
          rw [List.take_succ_eq_append_getElem hl]; rfl
        by_cases q : 65 ≤ (s[k]'hlt).toNat ∧ (s[k]'hlt).toNat ≤ 90
        · have q1 : ¬ ((s[k]'hlt).toNat : Int) < 65 := by omega
          have q2 : ¬ (90 : Int) < ((s[k]'hlt).toNat : Int) := by omega
          clear HI HT q
          go_wp2
          go_round
          case rel => exact ⟨k + 1, false, rfl, by go_num, by omega, fun h => by cases h⟩
          case measure => simp [intOf] <;> omega
        · have HN : Hid (PC ∧ ∀ c ∈ s.data.toList.take (k + 1), small c) := by
            refine ⟨(HI.out rfl).1, fun c hc => ?_⟩
            rw [HT.out] at hc
            rcases List.mem_append.1 hc with z | z
            · exact (HI.out rfl).2 c z
            · rw [List.mem_singleton.1 z]; exact q
          have cs : ((s[k]'hlt).toNat : Int) < 65 ∨ (¬ ((s[k]'hlt).toNat : Int) < 65 ∧ (90 : Int) < ((s[k]'hlt).toNat : Int)) := by omega
          clear HI HT q
          rcases cs with q1 | ⟨q1, q2⟩
          all_goals
            go_wp2
            go_round
            case rel => exact ⟨k + 1, true, rfl, by go_num, by omega, fun _ => HN.out⟩
            case measure => simp [intOf] <;> omega
    · have hlt' : ¬ (k : Int) < (s.size : Int) := by omega
      have HI2 : Hid (pl = true → T = s) := fun h => HTS.out (HI.out h).1 (by
        have := (HI.out h).2
        rw [List.take_of_length_le (by rw [ls_size]; omega)] at this
        exact this)
      clear HI HTS
      go_wp2_with fail
      refine (F2 _).mono ?_
      rintro e w2 ⟨rfl, b2⟩
      have B2 : Hid (Below w.heap.size w w2) := B1.out.trans (b2.mono B1.out.size)
      clear b2
      cases pl with
      | false =>
        go_wp2_with fail
        refine (S1 _ (HG.out.below B2.out HG.out.pos)).mono ?_
        rintro e w3 ⟨rfl, b3⟩
        have B3 : Hid (Below w.heap.size w w3) := B2.out.trans (b3.mono B2.out.size)
        clear b3
        go_wp2
        go_ret
        exact ⟨rfl, B3.out⟩
      | true =>
        have hTs := beq_yes (s := T) (l := s.toList) (by rw [HI2.out rfl, list_data])
        go_wp2_with fail
        refine (S1 _ (HG.out.below B2.out HG.out.pos)).mono ?_
        rintro e w3 ⟨rfl, b3⟩
        have B3 : Hid (Below w.heap.size w w3) := B2.out.trans (b3.mono B2.out.size)
        clear b3
        go_wp2
        go_ret
        exact ⟨rfl, B3.out⟩
set_option maxRecDepth 100000 in
set_option maxHeartbeats 3000000 in
theorem ione_none3 (s T : ByteArray) (X : Int) (b : Nat) (PC : Prop) (g0 : 0 < s.size) (d1 : s.size ≤ 140737488351232) (hb1 : ¬ (b : Int) < 2) (hb2 : ¬ (36 : Int) < (b : Int)) (w : World) (HG : Hid (ErrT w))
    (P1 : Calls Tryd.prog 23 #[.string s, .int .i64 (b : Int)] w fun x w' => x = .returned (.tuple #[.int .i64 X, .nilIface]) ∧ Below w.heap.size w w')
    (F2 : ∀ W, Calls Tryd.prog 9 #[.int .i64 X, .int .i64 (b : Int)] W fun x w' => x = .returned (.tuple #[.string T, .nilIface]) ∧ Below W.heap.size W w')
    (HTS : Hid (PC → (∀ c ∈ s.data.toList, small c) → T = s)) (hTl : (T.size : Int) ≤ (s.size : Int)) (m1 : (((s[0]'g0).toNat : Int) == 45) = false) (m2 : (((s[0]'g0).toNat : Int) == 43) = false) (m3 : (((s[0]'g0).toNat : Int) != 43) = true) (n1 : (((s[0]'g0).toNat : Int) != 48) = false) (n2 : (s.toList == [48]) = true) (HPC : Hid PC) :
    Calls Tryd.prog 8 #[.string s, .int .i64 (b : Int)] w fun e w' => e = .returned (.bool true) ∧ Below w.heap.size w w' := by
  have S1 := fun W (hg : ErrT W) => works_any W hg
  have g0' : (0 : Int) < (s.size : Int) := by omega
  go_enter Tryd.func8, Tryd.ntmps8
  go_wp2_with fail
  refine P1.mono ?_
  rintro e w1 ⟨rfl, b1⟩
  have B1 : Hid (Below w.heap.size w w1) := b1
  clear b1 P1
  go_wp2
  go_loop [8, 9] (fun pv iv => ∃ (k : Nat) (pl : Bool), pv = .bool pl ∧ iv = .int .i64 (k : Int) ∧ k ≤ s.size ∧ Hid (pl = true → PC ∧ ∀ c ∈ s.data.toList.take k, small c)) (fun _ iv => s.size - (intOf iv).toNat)
  case atStart => first | exact ⟨0, true, rfl, rfl, Nat.zero_le _, fun _ => ⟨HPC.out, fun c hc => by simp at hc⟩⟩ | exact ⟨0, false, rfl, rfl, Nat.zero_le _, fun h => by cases h⟩
  case round =>
    obtain ⟨k, pl, rfl, rfl, hk, HI⟩ := hrel
    by_cases hlt : k < s.size
    · have hlt' : (k : Int) < (s.size : Int) := by omega
      cases pl with
      | false =>
        clear HI
        go_wp2
        go_round
        case rel => exact ⟨k + 1, false, rfl, by go_num, by omega, fun h => by cases h⟩
        case measure => simp [intOf] <;> omega
      | true =>
        have HT : Hid (s.data.toList.take (k + 1) = s.data.toList.take k ++ [s[k]'hlt]) := by
          show _ = _
          have hl : k < s.data.toList.length := by simpa using hlt
          rw [List.take_succ_eq_append_getElem hl]; rfl
        by_cases q : 65 ≤ (s[k]'hlt).toNat ∧ (s[k]'hlt).toNat ≤ 90
        · have q1 : ¬ ((s[k]'hlt).toNat : Int) < 65 := by omega
          have q2 : ¬ (90 : Int) < ((s[k]'hlt).toNat : Int) := by omega
          clear HI HT q
          go_wp2
          go_round
          case rel => exact ⟨k + 1, false, rfl, by go_num, by omega, fun h => by cases h⟩
          case measure => simp [intOf] <;> omega
        · have HN : Hid (PC ∧ ∀ c ∈ s.data.toList.take (k + 1), small c) := by
            refine ⟨(HI.out rfl).1, fun c hc => ?_⟩
            rw [HT.out] at hc
            rcases List.mem_append.1 hc with z | z
            · exact (HI.out rfl).2 c z
            · rw [List.mem_singleton.1 z]; exact q
          have cs : ((s[k]'hlt).toNat : Int) < 65 ∨ (¬ ((s[k]'hlt).toNat : Int) < 65 ∧ (90 : Int) < ((s[k]'hlt).toNat : Int)) := by omega
          clear HI HT q
          rcases cs with q1 | ⟨q1, q2⟩
          all_goals
            go_wp2
            go_round
            case rel => exact ⟨k + 1, true, rfl, by go_num, by omega, fun _ => HN.out⟩
            case measure => simp [intOf] <;> omega
    · have hlt' : ¬ (k : Int) < (s.size : Int) := by omega
      have HI2 : Hid (pl = true → T = s) := fun h => HTS.out (HI.out h).1 (by
        have := (HI.out h).2
        rw [List.take_of_length_le (by rw [ls_size]; omega)] at this
        exact this)
      clear HI HTS
      go_wp2_with fail
      refine (F2 _).mono ?_
      rintro e w2 ⟨rfl, b2⟩
      have B2 : Hid (Below w.heap.size w w2) := B1.out.trans (b2.mono B1.out.size)
      clear b2
      cases pl with
      | false =>
        go_wp2_with fail
        refine (S1 _ (HG.out.below B2.out HG.out.pos)).mono ?_
        rintro e w3 ⟨rfl, b3⟩
        have B3 : Hid (Below w.heap.size w w3) := B2.out.trans (b3.mono B2.out.size)
        clear b3
        go_wp2
        go_ret
        exact ⟨rfl, B3.out⟩
      | true =>
        have hTs := beq_yes (s := T) (l := s.toList) (by rw [HI2.out rfl, list_data])
        go_wp2_with fail
        refine (S1 _ (HG.out.below B2.out HG.out.pos)).mono ?_
        rintro e w3 ⟨rfl, b3⟩
        have B3 : Hid (Below w.heap.size w w3) := B2.out.trans (b3.mono B2.out.size)
        clear b3
        go_wp2
        go_ret
        exact ⟨rfl, B3.out⟩
theorem nought_no {D : ByteArray} (h0 : 0 < D.size) (h : ¬ ((D[0]'h0).toNat : Int) = 48) : D.data.toList.head? ≠ some 48 := by
  rw [hd_at h0]
  intro e
  have e' : D[0]'h0 = 48 := by simpa using e
  exact h (by rw [e']; rfl)
set_option maxRecDepth 100000 in
set_option maxHeartbeats 1000000 in
theorem ione_yes (s : ByteArray) (hs : s.size ≤ 140737488351232) (b : Nat) (h1 : 2 ≤ b) (h2 : b ≤ 36) (w : World) (hg : ErrT w) :
    Calls Tryd.prog 8 #[.string s, .int .i64 (b : Int)] w fun e w' => e = .returned (.bool true) ∧ Below w.heap.size w w' := by
  have P1 := iparse_yes s (by omega) b (Or.inr ⟨h1, h2⟩) w hg
  by_cases hE : ipE b s.data.toList = 0
  · have P1' : Calls Tryd.prog 23 #[.string s, .int .i64 (b : Int)] w fun x w' => x = .returned (.tuple #[.int .i64 (ipX b s.data.toList), .nilIface]) ∧ Below w.heap.size w w' := by
      refine P1.mono ?_
      rintro e w1 ⟨v1, rfl, hv, b1⟩
      obtain rfl := hv.none (by omega)
      exact ⟨rfl, b1⟩
    obtain ⟨a1, a2, a3, a4⟩ := ip_back h1 hE
    obtain ⟨c1, c2, c3⟩ := mkX_abs a3
    have F2 := fun W => iformat_yes (ipX b s.data.toList) (by rw [a4]; exact c2) (by rw [a4]; exact c3) b h1 h2 W
    have hTl : ((⟨(mrk (ipX b s.data.toList) false ++ fl b (ipX b s.data.toList).natAbs).toArray⟩ : ByteArray).size : Int) ≤ (s.size : Int) := by
      have u1 := mrk_short a3
      have u2 := fl_short h1 h2 a1 a2
      rw [List.length_drop, ls_size] at u2
      have u3 := sgL_le s.data.toList
      rw [ls_size] at u3
      have u4 : ((⟨(mrk (ipX b s.data.toList) false ++ fl b (ipX b s.data.toList).natAbs).toArray⟩ : ByteArray).size) ≤ s.size := by
        rw [str_size, List.length_append, a4, c1]
        omega
      omega
    have HTS0 : plc s.data.toList (s.data.toList.drop (sgL s.data.toList)) → (∀ c ∈ s.data.toList.drop (sgL s.data.toList), small c) → (⟨(mrk (ipX b s.data.toList) false ++ fl b (ipX b s.data.toList).natAbs).toArray⟩ : ByteArray) = s :=
      fun hp hsm => str_same (one_same h1 h2 hE hp.1 hsm hp.2)
    have g0 : 0 < s.size := by
      rcases Nat.eq_zero_or_pos s.size with z | z
      · exact absurd (List.drop_eq_nil_of_le (by rw [ls_size]; omega)) a1
      · exact z
    have HG : Hid (ErrT w) := hg
    have hb1 : ¬ (b : Int) < 2 := by omega
    have hb2 : ¬ (36 : Int) < (b : Int) := by omega
    have hhd := hd_at g0
    generalize (⟨(mrk (ipX b s.data.toList) false ++ fl b (ipX b s.data.toList).natAbs).toArray⟩ : ByteArray) = T at *
    by_cases q : ((s[0]'g0).toNat : Int) = 45 ∨ ((s[0]'g0).toNat : Int) = 43
    · have hL : sgL s.data.toList = 1 := by
        unfold sgL
        rw [hhd, if_pos (by rcases q with q | q; exact Or.inl (by rw [show s[0]'g0 = 45 from u8_eq q]); exact Or.inr (by rw [show s[0]'g0 = 43 from u8_eq q]))]
      rw [hL] at a1 HTS0
      obtain ⟨D, hD⟩ : ∃ D, s.extract 1 s.size = D := ⟨_, rfl⟩
      have hDl : D.data.toList = s.data.toList.drop 1 := by rw [← hD, ls_drop]
      rw [← hDl] at HTS0 a1
      have hDs : D.size + 1 = s.size := by
        rw [← ls_size, hDl, List.length_drop, ls_size]; omega
      have d0 : 0 < D.size := by
        have := List.length_pos_iff.2 a1
        rw [ls_size] at this; exact this
      have HTS : Hid (plc s.data.toList D.data.toList → (∀ c ∈ D.data.toList, small c) → T = s) := HTS0
      have hsl : ¬ (s.size : Int) < 1 := by omega
      by_cases q1 : ((s[0]'g0).toNat : Int) = 45
      · have e43 : s.data.toList.head? ≠ some 43 := by rw [hhd, show s[0]'g0 = 45 from u8_eq q1]; decide
        by_cases n1 : ((D[0]'d0).toNat : Int) = 48
        · have n1' : (((D[0]'d0).toNat : Int) != 48) = false := by rw [n1]; rfl
          by_cases n2 : D.data.toList = [48]
          · refine ione_minus3 s D T _ b _ g0 d0 (by omega) hb1 hb2 w HG P1' F2 HTS hTl hD hsl q1 n1' (beq_yes n2) (beq_no ?_)
            rw [list_data]
            intro e
            have := congrArg List.length e
            rw [ls_size, ls_size] at this
            omega
          · exact ione_minus2 s D T _ b _ g0 d0 (by omega) hb1 hb2 w HG P1' F2 HTS hTl hD hsl q1 n1' (beq_no n2)
        · exact ione_minus1 s D T _ b _ g0 d0 (by omega) hb1 hb2 w HG P1' F2 HTS hTl hD hsl q1 (by simpa using n1) ⟨e43, Or.inl (nought_no d0 n1)⟩
      · have q2 : ((s[0]'g0).toNat : Int) = 43 := by omega
        exact ione_plus s D T _ b _ g0 d0 (by omega) hb1 hb2 w HG P1' F2 HTS hTl hD hsl (beq_eq_false_iff_ne.mpr q1) q2
    · have q1 : ¬ ((s[0]'g0).toNat : Int) = 45 := fun z => q (Or.inl z)
      have q2 : ¬ ((s[0]'g0).toNat : Int) = 43 := fun z => q (Or.inr z)
      have e43 : s.data.toList.head? ≠ some 43 := by
        rw [hhd]
        intro e
        have e' : s[0]'g0 = 43 := by simpa using e
        exact q2 (by rw [e']; rfl)
      have e45 : s.data.toList.head? ≠ some 45 := by
        rw [hhd]
        intro e
        have e' : s[0]'g0 = 45 := by simpa using e
        exact q1 (by rw [e']; rfl)
      have hL : sgL s.data.toList = 0 := by unfold sgL; rw [if_neg (by simp only [e43, e45, or_self, not_false_iff])]
      rw [hL, List.drop_zero] at HTS0
      have HTS : Hid (plc s.data.toList s.data.toList → (∀ c ∈ s.data.toList, small c) → T = s) := HTS0
      have m1 : (((s[0]'g0).toNat : Int) == 45) = false := beq_eq_false_iff_ne.mpr q1
      have m2 : (((s[0]'g0).toNat : Int) == 43) = false := beq_eq_false_iff_ne.mpr q2
      have m3 : (((s[0]'g0).toNat : Int) != 43) = true := by simpa using q2
      by_cases n1 : ((s[0]'g0).toNat : Int) = 48
      · have n1' : (((s[0]'g0).toNat : Int) != 48) = false := by rw [n1]; rfl
        by_cases n2 : s.data.toList = [48]
        · exact ione_none3 s T _ b _ g0 hs hb1 hb2 w HG P1' F2 HTS hTl m1 m2 m3 n1' (beq_yes n2) ⟨e43, Or.inr ⟨n2, rfl⟩⟩
        · exact ione_none2 s T _ b _ g0 hs hb1 hb2 w HG P1' F2 HTS hTl m1 m2 m3 n1' (beq_no n2)
      · exact ione_none1 s T _ b _ g0 hs hb1 hb2 w HG P1' F2 HTS hTl m1 m2 m3 (by simpa using n1) ⟨e43, Or.inl (nought_no g0 n1)⟩
  · have S1 := fun W (hg : ErrT W) => works_any W hg
    have HG : Hid (ErrT w) := hg
    have HE : Hid (ipE b s.data.toList ≠ 0) := hE
    clear hg hs h1 h2 hE
    generalize ipX b s.data.toList = X at *
    generalize ipE b s.data.toList = E at *
    go_enter Tryd.func8, Tryd.ntmps8
    go_wp2_with fail
    refine P1.mono ?_
    rintro e w1 ⟨v1, rfl, h1, b1⟩
    have B1 : Hid (Below w.heap.size w w1) := b1
    clear b1
    rcases h1 with ⟨z, _⟩ | ⟨_, h1⟩
    · exact absurd z (by have := HE.out; omega)
    · obtain ⟨T, y, rfl⟩ := h1.iface
      clear h1
      go_wp2_with fail
      refine (S1 _ (HG.out.below B1.out HG.out.pos)).mono ?_
      rintro e w2 ⟨rfl, b2⟩
      have B2 : Hid (Below w.heap.size w w2) := B1.out.trans (b2.mono B1.out.size)
      clear b2
      go_wp2
      go_ret
      exact ⟨rfl, B2.out⟩
theorem ione_law (s : ByteArray) (hs : s.size ≤ 140737488351232) (b : Int) (w : World) (hg : ErrT w) :
    Calls Tryd.prog 8 #[.string s, .int .i64 b] w fun e w' => e = .returned (.bool true) ∧ Below w.heap.size w w' := by
  by_cases z : b = 0
  · subst z
    exact ione_zero s hs w hg
  · by_cases h : b < 2 ∨ 36 < b
    · exact ione_no s hs b z h w hg
    · obtain ⟨n, rfl⟩ : ∃ n : Nat, b = (n : Int) := ⟨b.toNat, by omega⟩
      exact ione_yes s hs n (by omega) (by omega) w hg
end Go.Proofs.YthjflphfjemanaaDoor
