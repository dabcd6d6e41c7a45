/-
  The document's Base, Parse and Prefix: what they answer for every input.
-/
import Derived.Test.YtoabdoognadijaaDoorUiV
import Derived.Test.YtoabdoognadijaaDoorUiH
namespace Go.Proofs.YtoabdoognadijaaDoor
open Go.RowKit

theorem rbase_yes (b : Int) (h1 : 2 ≤ b) (h2 : b ≤ 36) (w : World) : Calls Tryd.prog 53 #[.int .i64 b] w fun e w' => e = .returned (.bool true) ∧ w' = w := by
  go_enter Tryd.func53, Tryd.ntmps53
  go_wp2
  go_ret
  exact ⟨rfl, rfl⟩
theorem rbase_no (b : Int) (h : b < 2 ∨ 36 < b) (w : World) : Calls Tryd.prog 53 #[.int .i64 b] w fun e w' => e = .returned (.bool false) ∧ w' = w := by
  have cs : ¬ 2 ≤ b ∨ (2 ≤ b ∧ ¬ b ≤ 36) := by omega
  clear h
  rcases cs with l1 | ⟨l1, l2⟩
  all_goals
    go_enter Tryd.func53, Tryd.ntmps53
    go_wp2
    go_ret
    exact ⟨rfl, rfl⟩

/-- The number of the document's value is the number of the longest begin. -/
theorem px_same {b : Nat} (h : readB b) {l : List UInt8} (hp : 0 < bgL b l) :
    av (if b = 0 then aB (l.take (bgL b l)) else b) 0 ((l.take (bgL b l)).drop (if b = 0 then aN (l.take (bgL b l)) else 0)) = pxN b l := by
  have B := begin_any h l
  unfold pxN
  by_cases z : b = 0
  · rw [if_pos z, if_pos z, (B.same z hp).1, (B.same z hp).2]
  · rw [if_neg z, if_neg z]
    congr 1
    · unfold bgO; rw [if_pos z]
    · unfold bgA; rw [if_pos z]
theorem px_whole {b : Nat} {l : List UInt8} (hl : bgL b l = l.length) : pxN b l = psN b l := by
  unfold pxN psN
  rw [hl, List.take_length]

set_option maxRecDepth 100000 in
set_option maxHeartbeats 1000000 in
theorem rparse_no (s : ByteArray) (b : Int) (h0 : b ≠ 0) (h : b < 2 ∨ 36 < b) (w : World) :
    Calls Tryd.prog 36 #[.string s, .int .i64 b] w fun x w' => x = .returned (.tuple #[.int .u64 0, .int .i64 7]) ∧ w' = w := by
  have BA := fun W => rbase_no b h W
  have hb : (b != 0) = true := by simpa using h0
  clear h h0
  go_enter Tryd.func36, Tryd.ntmps36
  go_wp2_with fail
  refine (BA _).mono ?_
  rintro e w ⟨rfl, rfl⟩
  go_wp2
  go_ret2
  exact ⟨rfl, rfl⟩
set_option maxRecDepth 100000 in
set_option maxHeartbeats 1000000 in
theorem rparse_yes (s : ByteArray) (hs : s.size ≤ 140737488355328) (b : Nat) (h : readB b) (w : World) :
    Calls Tryd.prog 36 #[.string s, .int .i64 (b : Int)] w fun x w' => x = .returned (.tuple #[.int .u64 (psX b s.data.toList : Int), .int .i64 (psE b s.data.toList : Int)]) ∧ Below w.heap.size w w' := by
  have IN := fun W => in_any s (by omega) b h W
  have HBG := begin_any h s.data.toList
  rw [HBG.whole] at IN
  have BA : b ≠ 0 → ∀ W, Calls Tryd.prog 53 #[.int .i64 (b : Int)] W fun e w' => e = .returned (.bool true) ∧ w' = W := fun z W => rbase_yes (b : Int) (by rcases h with q | q; exact absurd q z; omega) (by rcases h with q | q; exact absurd q z; omega) W
  have bz : b = 0 ∨ b ≠ 0 := by omega
  by_cases q : 0 < bgL b s.data.toList ∧ bgL b s.data.toList = s.data.toList.length
  · rw [decide_eq_true q] at IN
    have hok : ∀ c ∈ s.data.toList, okc c = true := by
      have := lead_ok s.data.toList (bgL b s.data.toList) HBG.ld
      rw [q.2, List.take_length] at this
      exact this
    have VL := fun W => rval_any s (by omega) b h hok W
    have e := px_same h q.1
    rw [q.2, List.take_length, px_whole q.2] at e
    rw [e] at VL
    by_cases z : psN b s.data.toList < 18446744073709551616
    · have HX : Hid (psX b s.data.toList = psN b s.data.toList ∧ psE b s.data.toList = 0) := ⟨by unfold psX; rw [if_pos q, if_pos z], by unfold psE; rw [if_pos q, if_pos z]⟩
      rw [rvV_in z] at VL
      clear e hok HBG q h z
      generalize psX b s.data.toList = X at *
      generalize psE b s.data.toList = E at *
      generalize psN b s.data.toList = N at *
      rcases bz with rfl | bz
      · clear BA
        go_enter Tryd.func36, Tryd.ntmps36
        go_wp2_with fail
        refine (IN _).mono ?_
        rintro e w ⟨rfl, rfl⟩
        go_wp2_with fail
        refine (VL _).mono ?_
        rintro e w1 ⟨rfl, b1⟩
        have B1 : Hid (Below w.heap.size w w1) := b1
        clear b1
        go_wp2
        go_ret2
        exact ⟨by rw [HX.out.1, HX.out.2]; rfl, B1.out⟩
      · have BY := BA bz
        have hb : ((b : Int) != 0) = true := by simp; omega
        clear BA bz
        go_enter Tryd.func36, Tryd.ntmps36
        go_wp2_with fail
        refine (BY _).mono ?_
        rintro e w ⟨rfl, rfl⟩
        go_wp2_with fail
        refine (IN _).mono ?_
        rintro e w ⟨rfl, rfl⟩
        go_wp2_with fail
        refine (VL _).mono ?_
        rintro e w1 ⟨rfl, b1⟩
        have B1 : Hid (Below w.heap.size w w1) := b1
        clear b1
        go_wp2
        go_ret2
        exact ⟨by rw [HX.out.1, HX.out.2]; rfl, B1.out⟩
    · have HX : Hid (psX b s.data.toList = 18446744073709551615 ∧ psE b s.data.toList = 4) := ⟨by unfold psX; rw [if_pos q, if_neg z], by unfold psE; rw [if_pos q, if_neg z]⟩
      rw [rvV_out z] at VL
      clear e hok HBG q h z
      generalize psX b s.data.toList = X at *
      generalize psE b s.data.toList = E at *
      rcases bz with rfl | bz
      · clear BA
        go_enter Tryd.func36, Tryd.ntmps36
        go_wp2_with fail
        refine (IN _).mono ?_
        rintro e w ⟨rfl, rfl⟩
        go_wp2_with fail
        refine (VL _).mono ?_
        rintro e w1 ⟨rfl, b1⟩
        have B1 : Hid (Below w.heap.size w w1) := b1
        clear b1
        go_wp2
        go_ret2
        exact ⟨by rw [HX.out.1, HX.out.2]; rfl, B1.out⟩
      · have BY := BA bz
        have hb : ((b : Int) != 0) = true := by simp; omega
        clear BA bz
        go_enter Tryd.func36, Tryd.ntmps36
        go_wp2_with fail
        refine (BY _).mono ?_
        rintro e w ⟨rfl, rfl⟩
        go_wp2_with fail
        refine (IN _).mono ?_
        rintro e w ⟨rfl, rfl⟩
        go_wp2_with fail
        refine (VL _).mono ?_
        rintro e w1 ⟨rfl, b1⟩
        have B1 : Hid (Below w.heap.size w w1) := b1
        clear b1
        go_wp2
        go_ret2
        exact ⟨by rw [HX.out.1, HX.out.2]; rfl, B1.out⟩
  · rw [decide_eq_false q] at IN
    have HX : Hid (psX b s.data.toList = 0 ∧ psE b s.data.toList = 3) := ⟨by unfold psX; rw [if_neg q], by unfold psE; rw [if_neg q]⟩
    clear HBG q h
    generalize psX b s.data.toList = X at *
    generalize psE b s.data.toList = E at *
    rcases bz with rfl | bz
    · clear BA
      go_enter Tryd.func36, Tryd.ntmps36
      go_wp2_with fail
      refine (IN _).mono ?_
      rintro e w ⟨rfl, rfl⟩
      go_wp2
      go_ret2
      exact ⟨by rw [HX.out.1, HX.out.2]; rfl, Below.refl _ _⟩
    · have BY := BA bz
      have hb : ((b : Int) != 0) = true := by simp; omega
      clear BA bz
      go_enter Tryd.func36, Tryd.ntmps36
      go_wp2_with fail
      refine (BY _).mono ?_
      rintro e w ⟨rfl, rfl⟩
      go_wp2_with fail
      refine (IN _).mono ?_
      rintro e w ⟨rfl, rfl⟩
      go_wp2
      go_ret2
      exact ⟨by rw [HX.out.1, HX.out.2]; rfl, Below.refl _ _⟩

end Go.Proofs.YtoabdoognadijaaDoor
