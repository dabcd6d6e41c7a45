/-
  The law UintsParses: the walk.
-/
import Derived.Test.YtbdelacgkpogoaaDoorUiJ
namespace Go.Proofs.YtbdelacgkpogoaaDoor
open Go.RowKit

set_option maxRecDepth 100000 in
set_option maxHeartbeats 1000000 in
theorem parses_no (s : ByteArray) (hs : s.size ≤ 140737488351232) (b : Int) (h0 : b ≠ 0) (h : b < 2 ∨ 36 < b) (w : World) (hg : ErrT w) :
    Calls Tryd.prog 4 #[.string s, .int .i64 b] w fun e w' => e = .returned (.bool true) ∧ Below w.heap.size w w' := by
  have P1 := fun W => parse_no s (by omega) b h0 h W
  have R1 := fun W => rparse_no s b h0 h W
  have T1 := fun W v (h : ErV W 7 ⟨#[80, 97, 114, 115, 101]⟩ s v) (hg : ErrT W) => told_any (c := ⟨#[80, 97, 114, 115, 101]⟩) (t := s) (by decide) (by omega) h hg
  have S1 := fun W => sure_any W
  have HG : Hid (ErrT w) := hg
  clear h h0
  clear hg
  go_enter Tryd.func4, Tryd.ntmps4
  go_wp2_with fail
  refine (P1 _).mono ?_
  rintro e w1 ⟨v, rfl, h1, b1⟩
  have B1 : Hid (Below w.heap.size w w1) := b1
  have H1 : Hid (ErV w1 7 ⟨#[80, 97, 114, 115, 101]⟩ s v) := Or.inr ⟨by decide, h1⟩
  clear h1 b1
  go_wp2_with fail
  refine (R1 _).mono ?_
  rintro e w1 ⟨rfl, rfl⟩
  have B2 : Hid (Below w.heap.size w w1) := B1.out
  have H2 : Hid (ErV w1 7 ⟨#[80, 97, 114, 115, 101]⟩ s v) := H1.out
  go_wp2_with fail
  refine (T1 _ _ H2.out (HG.out.below B2.out HG.out.pos)).mono ?_
  rintro e w3 ⟨rfl, b3⟩
  have B3 : Hid (Below w.heap.size w w3) := B2.out.trans (b3.mono B2.out.size)
  clear b3
  go_wp2_with fail
  refine (S1 _).mono ?_
  rintro e w4 ⟨rfl, b4⟩
  have B4 : Hid (Below w.heap.size w w4) := B3.out.trans (b4.mono B3.out.size)
  clear b4
  go_wp2
  go_ret
  exact ⟨rfl, B4.out⟩
set_option maxRecDepth 100000 in
set_option maxHeartbeats 1000000 in
theorem parses_yes (s : ByteArray) (hs : s.size ≤ 140737488351232) (b : Nat) (h : readB b) (w : World) (hg : ErrT w) :
    Calls Tryd.prog 4 #[.string s, .int .i64 (b : Int)] w fun e w' => e = .returned (.bool true) ∧ Below w.heap.size w w' := by
  have P1 := fun W => parse_yes s (by omega) b h W
  have R1 := fun W => rparse_yes s (by omega) b h W
  have T1 := fun W v (h : ErV W (psE b s.data.toList : Int) ⟨#[80, 97, 114, 115, 101]⟩ s v) (hg : ErrT W) => told_any (c := ⟨#[80, 97, 114, 115, 101]⟩) (t := s) (by decide) (by omega) h hg
  have S1 := fun W => sure_any W
  have HG : Hid (ErrT w) := hg
  generalize psX b s.data.toList = X at *
  generalize psE b s.data.toList = E at *
  clear h
  clear hg
  go_enter Tryd.func4, Tryd.ntmps4
  go_wp2_with fail
  refine (P1 _).mono ?_
  rintro e w1 ⟨v, rfl, h1, b1⟩
  have B1 : Hid (Below w.heap.size w w1) := b1
  have H1 : Hid (ErV w1 (E : Int) ⟨#[80, 97, 114, 115, 101]⟩ s v) := h1
  clear h1 b1
  go_wp2_with fail
  refine (R1 _).mono ?_
  rintro e w2 ⟨rfl, b2⟩
  have B2 : Hid (Below w.heap.size w w2) := B1.out.trans (b2.mono B1.out.size)
  have H2 : Hid (ErV w2 (E : Int) ⟨#[80, 97, 114, 115, 101]⟩ s v) := H1.out.below b2 (Nat.le_refl _)
  clear b2
  go_wp2_with fail
  refine (T1 _ _ H2.out (HG.out.below B2.out HG.out.pos)).mono ?_
  rintro e w3 ⟨rfl, b3⟩
  have B3 : Hid (Below w.heap.size w w3) := B2.out.trans (b3.mono B2.out.size)
  clear b3
  go_wp2_with fail
  refine (S1 _).mono ?_
  rintro e w4 ⟨rfl, b4⟩
  have B4 : Hid (Below w.heap.size w w4) := B3.out.trans (b4.mono B3.out.size)
  clear b4
  go_wp2
  go_ret
  exact ⟨rfl, B4.out⟩
theorem parses_law (s : ByteArray) (hs : s.size ≤ 140737488351232) (b : Int) (w : World) (hg : ErrT w) :
    Calls Tryd.prog 4 #[.string s, .int .i64 b] w fun e w' => e = .returned (.bool true) ∧ Below w.heap.size w w' := by
  by_cases z : b = 0
  · subst z
    exact parses_yes s hs 0 (Or.inl rfl) w hg
  · by_cases h : b < 2 ∨ 36 < b
    · exact parses_no s hs b z h w hg
    · obtain ⟨n, rfl⟩ : ∃ n : Nat, b = (n : Int) := ⟨b.toNat, by omega⟩
      exact parses_yes s hs n (Or.inr ⟨by omega, by omega⟩) w hg
end Go.Proofs.YtbdelacgkpogoaaDoor
