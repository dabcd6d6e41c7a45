/-
  What the program and the document answer alike: Format, Len.
-/
import Derived.Test.YthjflphfjemanaaDoorItR
import Derived.Test.YthjflphfjemanaaDoorItW
namespace Go.Proofs.YthjflphfjemanaaDoor
open Go.RowKit

theorem format_both (v : Int) (h1 : -9223372036854775808 ≤ v) (h2 : v ≤ 9223372036854775807) (b : Int) : ∃ (S : ByteArray) (E : Nat),
    (∀ W, ErrT W → Calls Tryd.prog 9 #[.int .i64 v, .int .i64 b] W fun x w' => ∃ y, x = .returned (.tuple #[.string S, y]) ∧ ErV w' (E : Int) ⟨#[70, 111, 114, 109, 97, 116]⟩ ⟨#[]⟩ y ∧ Below W.heap.size W w') ∧
    (∀ W, Calls Tryd.prog 10 #[.int .i64 v, .int .i64 b] W fun x w' => x = .returned (.tuple #[.string S, .int .i64 (E : Int)]) ∧ w' = W) := by
  by_cases h : b < 2 ∨ 36 < b
  · exact ⟨⟨#[]⟩, 7, fun W hg => (iformat_err v h1 h2 b (n := 7) (fun W => format_no v.natAbs b h W) W hg).mono (fun e w' ⟨y, he, hw, hb⟩ => ⟨y, he, Or.inr ⟨by decide, hw⟩, hb⟩), fun W => riformat_err v h1 h2 b (n := 7) (by decide) (fun W => rformat_no v.natAbs b h W) W⟩
  · obtain ⟨n, rfl⟩ : ∃ n : Nat, b = (n : Int) := ⟨b.toNat, by omega⟩
    exact ⟨_, 0, fun W hg => (iformat_yes v h1 h2 n (by omega) (by omega) W).mono (fun e w' ⟨he, hb⟩ => ⟨_, he, Or.inl ⟨rfl, rfl⟩, hb⟩), fun W => riformat_yes v h1 h2 n (by omega) (by omega) W⟩
theorem len_both (v : Int) (h1 : -9223372036854775808 ≤ v) (h2 : v ≤ 9223372036854775807) (b : Int) : ∃ (L : Int) (E : Nat),
    (∀ W, ErrT W → Calls Tryd.prog 11 #[.int .i64 v, .int .i64 b] W fun x w' => ∃ y, x = .returned (.tuple #[.int .i64 L, y]) ∧ ErV w' (E : Int) ⟨#[76, 101, 110]⟩ ⟨#[]⟩ y ∧ Below W.heap.size W w') ∧
    (∀ W, Calls Tryd.prog 12 #[.int .i64 v, .int .i64 b] W fun x w' => x = .returned (.tuple #[.int .i64 L, .int .i64 (E : Int)]) ∧ w' = W) := by
  by_cases h : b < 2 ∨ 36 < b
  · exact ⟨0, 7, fun W hg => (ilen_no v h1 h2 b h W hg).mono (fun e w' ⟨y, he, hw, hb⟩ => ⟨y, he, Or.inr ⟨by decide, hw⟩, hb⟩), fun W => rilen_no v h1 h2 b h W⟩
  · obtain ⟨n, rfl⟩ : ∃ n : Nat, b = (n : Int) := ⟨b.toNat, by omega⟩
    exact ⟨_, 0, fun W hg => (ilen_yes v h1 h2 n (by omega) (by omega) W).mono (fun e w' ⟨he, hb⟩ => ⟨_, he, Or.inl ⟨rfl, rfl⟩, by rw [hb]; exact Below.refl _ _⟩), fun W => rilen_yes v h1 h2 n (by omega) (by omega) W⟩
set_option maxRecDepth 100000 in
set_option maxHeartbeats 1000000 in
theorem tells_law (v : Int) (h1 : -9223372036854775808 ≤ v) (h2 : v ≤ 9223372036854775807) (b : Int) (w : World) (hg : ErrT w) :
    Calls Tryd.prog 3 #[.int .i64 v, .int .i64 b] w fun e w' => e = .returned (.bool true) ∧ Below w.heap.size w w' := by
  obtain ⟨S, E, P1, R1⟩ := format_both v h1 h2 b
  obtain ⟨L, D, P2, R2⟩ := len_both v h1 h2 b
  have A1 := fun W => iabs_any v h1 h2 W
  have A2 := fun W => rabs_any v h1 h2 W
  have T1 := fun W y (h : ErV W (E : Int) ⟨#[70, 111, 114, 109, 97, 116]⟩ ⟨#[]⟩ y) (hg : ErrT W) => itold8_any h hg
  have T2 := fun W y (h : ErV W (D : Int) ⟨#[76, 101, 110]⟩ ⟨#[]⟩ y) (hg : ErrT W) => itold8_any h hg
  have S1 := fun W (hg : ErrT W) => works_any W hg
  have HG : Hid (ErrT w) := hg
  clear hg h1 h2
  generalize (v.natAbs : Int) = V at *
  go_enter Tryd.func3, Tryd.ntmps3
  go_wp2_with fail
  refine (P1 _ HG.out).mono ?_
  rintro e w1 ⟨v1, rfl, h1, b1⟩
  have B1 : Hid (Below w.heap.size w w1) := b1
  have H1 : Hid (ErV w1 (E : Int) ⟨#[70, 111, 114, 109, 97, 116]⟩ ⟨#[]⟩ v1) := h1
  clear h1 b1
  go_wp2_with fail
  refine (R1 _).mono ?_
  rintro e w1 ⟨rfl, rfl⟩
  go_wp2_with fail
  refine (P2 _ (HG.out.below B1.out HG.out.pos)).mono ?_
  rintro e w2 ⟨v2, rfl, h2, b2⟩
  have B2 : Hid (Below w.heap.size w w2) := B1.out.trans (b2.mono B1.out.size)
  have H2 : Hid (ErV w2 (D : Int) ⟨#[76, 101, 110]⟩ ⟨#[]⟩ v2) := h2
  have K2 : Hid (ErV w2 (E : Int) ⟨#[70, 111, 114, 109, 97, 116]⟩ ⟨#[]⟩ v1) := H1.out.below b2 (Nat.le_refl _)
  clear h2 b2
  go_wp2_with fail
  refine (R2 _).mono ?_
  rintro e w2 ⟨rfl, rfl⟩
  go_wp2_with fail
  refine (T1 _ _ K2.out (HG.out.below B2.out HG.out.pos)).mono ?_
  rintro e w3 ⟨rfl, b3⟩
  have B3 : Hid (Below w.heap.size w w3) := B2.out.trans (b3.mono B2.out.size)
  have K3 : Hid (ErV w3 (D : Int) ⟨#[76, 101, 110]⟩ ⟨#[]⟩ v2) := H2.out.below b3 (Nat.le_refl _)
  clear b3
  go_wp2_with fail
  refine (T2 _ _ K3.out (HG.out.below B3.out HG.out.pos)).mono ?_
  rintro e w4 ⟨rfl, b4⟩
  have B4 : Hid (Below w.heap.size w w4) := B3.out.trans (b4.mono B3.out.size)
  clear b4
  go_wp2_with fail
  refine (A1 _).mono ?_
  rintro e w4 ⟨rfl, rfl⟩
  go_wp2_with fail
  refine (A2 _).mono ?_
  rintro e w4 ⟨rfl, rfl⟩
  go_wp2_with fail
  refine (S1 _ (HG.out.below B4.out HG.out.pos)).mono ?_
  rintro e w5 ⟨rfl, b5⟩
  have B5 : Hid (Below w.heap.size w w5) := B4.out.trans (b5.mono B4.out.size)
  clear b5
  go_wp2
  go_ret
  exact ⟨rfl, B5.out⟩
end Go.Proofs.YthjflphfjemanaaDoor
