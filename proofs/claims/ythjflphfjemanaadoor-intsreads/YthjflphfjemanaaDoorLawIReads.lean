/-
  What the program and the document answer alike: Parse, Prefix; the law IntsReads: the walk.
-/
import Derived.Test.YthjflphfjemanaaDoorItS
import Derived.Test.YthjflphfjemanaaDoorItW
namespace Go.Proofs.YthjflphfjemanaaDoor
open Go.RowKit

theorem parse_both (s : ByteArray) (hs : s.size ≤ 140737488351232) (b : Int) : ∃ (X : Int) (E : Nat),
    (∀ W, ErrT W → Calls Tryd.prog 23 #[.string s, .int .i64 b] W fun x w' => ∃ y, x = .returned (.tuple #[.int .i64 X, y]) ∧ ErV w' (E : Int) ⟨#[80, 97, 114, 115, 101]⟩ s y ∧ Below W.heap.size W w') ∧
    (∀ W, Calls Tryd.prog 24 #[.string s, .int .i64 b] W fun x w' => x = .returned (.tuple #[.int .i64 X, .int .i64 (E : Int)]) ∧ Below W.heap.size W w') := by
  by_cases z : b ≠ 0 ∧ (b < 2 ∨ 36 < b)
  · obtain ⟨h0, h⟩ := z
    exact ⟨0, 7, fun W hg => (iparse_no s (by omega) b h0 h W hg).mono (fun e w' ⟨y, he, hw, hb⟩ => ⟨y, he, Or.inr ⟨by decide, hw⟩, hb⟩), fun W => (riparse_no s b h0 h W).mono (fun e w' ⟨he, hb⟩ => ⟨he, by rw [hb]; exact Below.refl _ _⟩)⟩
  · obtain ⟨n, rfl⟩ : ∃ n : Nat, b = (n : Int) := ⟨b.toNat, by omega⟩
    have h : readB n := by
      unfold readB
      omega
    exact ⟨ipX n s.data.toList, ipE n s.data.toList, fun W hg => iparse_yes s (by omega) n h W hg, fun W => riparse_yes s (by omega) n h W⟩
theorem prefix_both (s : ByteArray) (hs : s.size ≤ 140737488351232) (b : Int) : ∃ (X L : Int) (E : Nat),
    (∀ W, ErrT W → Calls Tryd.prog 25 #[.string s, .int .i64 b] W fun x w' => ∃ y, x = .returned (.tuple #[.int .i64 X, .int .i64 L, y]) ∧ ErV w' (E : Int) ⟨#[80, 114, 101, 102, 105, 120]⟩ s y ∧ Below W.heap.size W w') ∧
    (∀ W, Calls Tryd.prog 26 #[.string s, .int .i64 b] W fun x w' => x = .returned (.tuple #[.int .i64 X, .int .i64 L, .int .i64 (E : Int)]) ∧ Below W.heap.size W w') := by
  by_cases z : b ≠ 0 ∧ (b < 2 ∨ 36 < b)
  · obtain ⟨h0, h⟩ := z
    exact ⟨0, 0, 7, fun W hg => (iprefix_no s (by omega) b h0 h W hg).mono (fun e w' ⟨y, he, hw, hb⟩ => ⟨y, he, Or.inr ⟨by decide, hw⟩, hb⟩), fun W => (riprefix_no s b h0 h W).mono (fun e w' ⟨he, hb⟩ => ⟨he, by rw [hb]; exact Below.refl _ _⟩)⟩
  · obtain ⟨n, rfl⟩ : ∃ n : Nat, b = (n : Int) := ⟨b.toNat, by omega⟩
    have h : readB n := by
      unfold readB
      omega
    exact ⟨iqX n s.data.toList, (iqL n s.data.toList : Int), iqE n s.data.toList, fun W hg => iprefix_yes s (by omega) n h W hg, fun W => riprefix_yes s (by omega) n h W⟩
set_option maxRecDepth 100000 in
set_option maxHeartbeats 1000000 in
theorem reads_law (s : ByteArray) (hs : s.size ≤ 140737488351232) (b : Int) (w : World) (hg : ErrT w) :
    Calls Tryd.prog 6 #[.string s, .int .i64 b] w fun e w' => e = .returned (.bool true) ∧ Below w.heap.size w w' := by
  obtain ⟨X, E, P1, R1⟩ := parse_both s hs b
  obtain ⟨Y, L, D, P2, R2⟩ := prefix_both s hs b
  have T1 := fun W y (h : ErV W (E : Int) ⟨#[80, 97, 114, 115, 101]⟩ s y) (hg : ErrT W) => itold8_any h hg
  have T2 := fun W y (h : ErV W (D : Int) ⟨#[80, 114, 101, 102, 105, 120]⟩ s y) (hg : ErrT W) => itold8_any h hg
  have S1 := fun W (hg : ErrT W) => works_any W hg
  have HG : Hid (ErrT w) := hg
  clear hg hs
  go_enter Tryd.func6, Tryd.ntmps6
  go_wp2_with fail
  refine (P1 _ HG.out).mono ?_
  rintro e wa ⟨v1, rfl, ha, ba⟩
  have Ba : Hid (Below w.heap.size w wa) := ba
  have Ha : Hid (ErV wa (E : Int) ⟨#[80, 97, 114, 115, 101]⟩ s v1) := ha
  clear ha ba
  go_wp2_with fail
  refine (R1 _).mono ?_
  rintro e w1 ⟨rfl, b1⟩
  have B1 : Hid (Below w.heap.size w w1) := Ba.out.trans (b1.mono Ba.out.size)
  have H1 : Hid (ErV w1 (E : Int) ⟨#[80, 97, 114, 115, 101]⟩ s v1) := Ha.out.below b1 (Nat.le_refl _)
  clear b1
  go_wp2_with fail
  refine (P2 _ (HG.out.below B1.out HG.out.pos)).mono ?_
  rintro e w9 ⟨v2, rfl, h9, b9⟩
  have B9 : Hid (Below w.heap.size w w9) := B1.out.trans (b9.mono B1.out.size)
  have H9 : Hid (ErV w9 (D : Int) ⟨#[80, 114, 101, 102, 105, 120]⟩ s v2) := h9
  have K9 : Hid (ErV w9 (E : Int) ⟨#[80, 97, 114, 115, 101]⟩ s v1) := H1.out.below b9 (Nat.le_refl _)
  clear h9 b9
  go_wp2_with fail
  refine (R2 _).mono ?_
  rintro e w2 ⟨rfl, b2⟩
  have B2 : Hid (Below w.heap.size w w2) := B9.out.trans (b2.mono B9.out.size)
  have H2 : Hid (ErV w2 (D : Int) ⟨#[80, 114, 101, 102, 105, 120]⟩ s v2) := H9.out.below b2 (Nat.le_refl _)
  have K2 : Hid (ErV w2 (E : Int) ⟨#[80, 97, 114, 115, 101]⟩ s v1) := K9.out.below b2 (Nat.le_refl _)
  clear b2
  go_wp2_with fail
  refine (T1 _ _ K2.out (HG.out.below B2.out HG.out.pos)).mono ?_
  rintro e w3 ⟨rfl, b3⟩
  have B3 : Hid (Below w.heap.size w w3) := B2.out.trans (b3.mono B2.out.size)
  have K3 : Hid (ErV w3 (D : Int) ⟨#[80, 114, 101, 102, 105, 120]⟩ s v2) := H2.out.below b3 (Nat.le_refl _)
  clear b3
  go_wp2_with fail
  refine (T2 _ _ K3.out (HG.out.below B3.out HG.out.pos)).mono ?_
  rintro e w4 ⟨rfl, b4⟩
  have B4 : Hid (Below w.heap.size w w4) := B3.out.trans (b4.mono B3.out.size)
  clear b4
  go_wp2_with fail
  refine (S1 _ (HG.out.below B4.out HG.out.pos)).mono ?_
  rintro e w5 ⟨rfl, b5⟩
  have B5 : Hid (Below w.heap.size w w5) := B4.out.trans (b5.mono B4.out.size)
  clear b5
  go_wp2
  go_ret
  exact ⟨rfl, B5.out⟩
end Go.Proofs.YthjflphfjemanaaDoor
