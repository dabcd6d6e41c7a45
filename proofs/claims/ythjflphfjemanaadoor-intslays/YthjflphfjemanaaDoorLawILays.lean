/-
  What the program and the document answer alike: Pad, Group; the law IntsLays: the walk.
-/
import Derived.Test.YthjflphfjemanaaDoorItR
import Derived.Test.YthjflphfjemanaaDoorItW
namespace Go.Proofs.YthjflphfjemanaaDoor
open Go.RowKit

theorem pad_both (v : Int) (h1 : -9223372036854775808 ≤ v) (h2 : v ≤ 9223372036854775807) (b : Int) (k : Int) (p : Bool) : ∃ (S : ByteArray) (E : Nat),
    (∀ W, ErrT W → Calls Tryd.prog 19 #[.int .i64 v, .int .i64 b, .int .i64 k, .bool p] W fun x w' => ∃ y, x = .returned (.tuple #[.string S, y]) ∧ ErV w' (E : Int) ⟨#[80, 97, 100]⟩ ⟨#[]⟩ y ∧ Below W.heap.size W w') ∧
    (∀ W, Calls Tryd.prog 20 #[.int .i64 v, .int .i64 b, .int .i64 k, .bool p] W fun x w' => x = .returned (.tuple #[.string S, .int .i64 (E : Int)]) ∧ w' = W) := by
  by_cases h : b < 2 ∨ 36 < b
  · exact ⟨⟨#[]⟩, 7, fun W hg => (ipad_err v h1 h2 b k p (n := 7) (fun W => pad_no v.natAbs b k h W) W hg).mono (fun e w' ⟨y, he, hw, hb⟩ => ⟨y, he, Or.inr ⟨by decide, hw⟩, hb⟩), fun W => ripad_err v h1 h2 b k p (n := 7) (by decide) (fun W => rpad_no v.natAbs b k h W) W⟩
  · obtain ⟨n, rfl⟩ : ∃ n : Nat, b = (n : Int) := ⟨b.toNat, by omega⟩
    by_cases q : k < 0
    · exact ⟨⟨#[]⟩, 1, fun W hg => (ipad_err v h1 h2 n k p (n := 1) (fun W => pad_low v.natAbs n k (by omega) (by omega) q W) W hg).mono (fun e w' ⟨y, he, hw, hb⟩ => ⟨y, he, Or.inr ⟨by decide, hw⟩, hb⟩), fun W => ripad_err v h1 h2 n k p (n := 1) (by decide) (fun W => rpad_arg v.natAbs n k (abs_lt h1 h2) (by omega) (by omega) (Or.inl q) W) W⟩
    · by_cases q2 : 1100 < k
      · exact ⟨⟨#[]⟩, 1, fun W hg => (ipad_err v h1 h2 n k p (n := 1) (fun W => pad_high v.natAbs n k (by omega) (by omega) q2 W) W hg).mono (fun e w' ⟨y, he, hw, hb⟩ => ⟨y, he, Or.inr ⟨by decide, hw⟩, hb⟩), fun W => ripad_err v h1 h2 n k p (n := 1) (by decide) (fun W => rpad_arg v.natAbs n k (abs_lt h1 h2) (by omega) (by omega) (Or.inr q2) W) W⟩
      · obtain ⟨m, rfl⟩ : ∃ m : Nat, k = (m : Int) := ⟨k.toNat, by omega⟩
        exact ⟨_, 0, fun W hg => (ipad_yes v h1 h2 n (by omega) (by omega) m (by omega) p W).mono (fun e w' ⟨he, hb⟩ => ⟨_, he, Or.inl ⟨rfl, rfl⟩, hb⟩), fun W => ripad_yes v h1 h2 n (by omega) (by omega) m (by omega) p W⟩
theorem group_both (v : Int) (h1 : -9223372036854775808 ≤ v) (h2 : v ≤ 9223372036854775807) (b : Int) (k : Int) : ∃ (S : ByteArray) (E : Nat),
    (∀ W, ErrT W → Calls Tryd.prog 21 #[.int .i64 v, .int .i64 b, .int .i64 k] W fun x w' => ∃ y, x = .returned (.tuple #[.string S, y]) ∧ ErV w' (E : Int) ⟨#[71, 114, 111, 117, 112]⟩ ⟨#[]⟩ y ∧ Below W.heap.size W w') ∧
    (∀ W, Calls Tryd.prog 22 #[.int .i64 v, .int .i64 b, .int .i64 k] W fun x w' => x = .returned (.tuple #[.string S, .int .i64 (E : Int)]) ∧ w' = W) := by
  by_cases h : b < 2 ∨ 36 < b
  · exact ⟨⟨#[]⟩, 7, fun W hg => (igroup_err v h1 h2 b k (n := 7) (fun W => group_no v.natAbs b k h W) W hg).mono (fun e w' ⟨y, he, hw, hb⟩ => ⟨y, he, Or.inr ⟨by decide, hw⟩, hb⟩), fun W => rigroup_err v h1 h2 b k (n := 7) (by decide) (fun W => rgroup_no v.natAbs b k h W) W⟩
  · obtain ⟨n, rfl⟩ : ∃ n : Nat, b = (n : Int) := ⟨b.toNat, by omega⟩
    by_cases q : k < 1
    · exact ⟨⟨#[]⟩, 1, fun W hg => (igroup_err v h1 h2 n k (n := 1) (fun W => group_low v.natAbs n k (by omega) (by omega) q W) W hg).mono (fun e w' ⟨y, he, hw, hb⟩ => ⟨y, he, Or.inr ⟨by decide, hw⟩, hb⟩), fun W => rigroup_err v h1 h2 n k (n := 1) (by decide) (fun W => rgroup_arg v.natAbs n k (abs_lt h1 h2) (by omega) (by omega) q W) W⟩
    · obtain ⟨m, rfl⟩ : ∃ m : Nat, k = (m : Int) := ⟨k.toNat, by omega⟩
      exact ⟨_, 0, fun W hg => (igroup_yes v h1 h2 n (by omega) (by omega) m (by omega) W).mono (fun e w' ⟨he, hb⟩ => ⟨_, he, Or.inl ⟨rfl, rfl⟩, hb⟩), fun W => rigroup_yes v h1 h2 n (by omega) (by omega) m (by omega) W⟩
set_option maxRecDepth 100000 in
set_option maxHeartbeats 1000000 in
theorem lays_law (v : Int) (h1 : -9223372036854775808 ≤ v) (h2 : v ≤ 9223372036854775807) (b k g : Int) (p : Bool) (w : World) (hg : ErrT w) :
    Calls Tryd.prog 5 #[.agg #[.int .i64 v, .int .i64 b, .int .i64 k, .int .i64 g, .bool p]] w fun e w' => e = .returned (.bool true) ∧ Below w.heap.size w w' := by
  obtain ⟨S, E, P1, R1⟩ := pad_both v h1 h2 b k p
  obtain ⟨L, D, P2, R2⟩ := group_both v h1 h2 b g
  have T1 := fun W y (h : ErV W (E : Int) ⟨#[80, 97, 100]⟩ ⟨#[]⟩ y) (hg : ErrT W) => itold8_any h hg
  have T2 := fun W y (h : ErV W (D : Int) ⟨#[71, 114, 111, 117, 112]⟩ ⟨#[]⟩ y) (hg : ErrT W) => itold8_any h hg
  have S1 := fun W (hg : ErrT W) => works_any W hg
  have HG : Hid (ErrT w) := hg
  clear hg h1 h2
  have B0 : Below w.heap.size w (w.alloc (.cells #[.int .i64 v, .int .i64 b, .int .i64 k, .int .i64 g, .bool p] 41)) := (Below.refl _ _).alloc (Nat.le_refl _) _
  have HC : Hid ((w.alloc (.cells #[.int .i64 v, .int .i64 b, .int .i64 k, .int .i64 g, .bool p] 41)).cell? ⟨w.heap.size, 0, none⟩ = some (.int .i64 v) ∧ (w.alloc (.cells #[.int .i64 v, .int .i64 b, .int .i64 k, .int .i64 g, .bool p] 41)).cell? ⟨w.heap.size, 1, none⟩ = some (.int .i64 b) ∧ (w.alloc (.cells #[.int .i64 v, .int .i64 b, .int .i64 k, .int .i64 g, .bool p] 41)).cell? ⟨w.heap.size, 2, none⟩ = some (.int .i64 k) ∧ (w.alloc (.cells #[.int .i64 v, .int .i64 b, .int .i64 k, .int .i64 g, .bool p] 41)).cell? ⟨w.heap.size, 3, none⟩ = some (.int .i64 g) ∧ (w.alloc (.cells #[.int .i64 v, .int .i64 b, .int .i64 k, .int .i64 g, .bool p] 41)).cell? ⟨w.heap.size, 4, none⟩ = some (.bool p)) := ⟨by simp, by simp, by simp, by simp, by simp⟩
  have HB0 : Hid (Below w.heap.size w (w.alloc (.cells #[.int .i64 v, .int .i64 b, .int .i64 k, .int .i64 g, .bool p] 41))) := B0
  have P1' := P1 _ (HG.out.below B0 HG.out.pos)
  clear B0
  go_enter Tryd.func5, Tryd.ntmps5
  go_wp2_with fail
  refine P1'.mono ?_
  rintro e w1 ⟨v1, rfl, h1, b1⟩
  have B1 : Hid (Below w.heap.size w w1) := HB0.out.trans (b1.mono HB0.out.size)
  have H1 : Hid (ErV w1 (E : Int) ⟨#[80, 97, 100]⟩ ⟨#[]⟩ v1) := h1
  have k0 : w1.cell? ⟨w.heap.size, 0, none⟩ = some (.int .i64 v) := (b1.cell (p := ⟨w.heap.size, 0, none⟩) (by simp)).trans HC.out.1
  have k1 : w1.cell? ⟨w.heap.size, 1, none⟩ = some (.int .i64 b) := (b1.cell (p := ⟨w.heap.size, 1, none⟩) (by simp)).trans HC.out.2.1
  have k2 : w1.cell? ⟨w.heap.size, 2, none⟩ = some (.int .i64 k) := (b1.cell (p := ⟨w.heap.size, 2, none⟩) (by simp)).trans HC.out.2.2.1
  have k3 : w1.cell? ⟨w.heap.size, 3, none⟩ = some (.int .i64 g) := (b1.cell (p := ⟨w.heap.size, 3, none⟩) (by simp)).trans HC.out.2.2.2.1
  have k4 : w1.cell? ⟨w.heap.size, 4, none⟩ = some (.bool p) := (b1.cell (p := ⟨w.heap.size, 4, none⟩) (by simp)).trans HC.out.2.2.2.2
  have hlt : Hid (w.heap.size < w1.heap.size) := by
    have := b1.size
    simp at this
    exact this
  clear h1 b1 HC
  go_wp2_with fail
  refine (R1 _).mono ?_
  rintro e w1 ⟨rfl, rfl⟩
  go_wp2_with fail
  refine (P2 _ (HG.out.below B1.out HG.out.pos)).mono ?_
  rintro e w2 ⟨v2, rfl, h2, b2⟩
  have B2 : Hid (Below w.heap.size w w2) := B1.out.trans (b2.mono B1.out.size)
  have H2 : Hid (ErV w2 (D : Int) ⟨#[71, 114, 111, 117, 112]⟩ ⟨#[]⟩ v2) := h2
  have K2 : Hid (ErV w2 (E : Int) ⟨#[80, 97, 100]⟩ ⟨#[]⟩ v1) := H1.out.below b2 (Nat.le_refl _)
  have m0 : w2.cell? ⟨w.heap.size, 0, none⟩ = some (.int .i64 v) := (b2.cell (p := ⟨w.heap.size, 0, none⟩) hlt.out).trans k0
  have m1 : w2.cell? ⟨w.heap.size, 1, none⟩ = some (.int .i64 b) := (b2.cell (p := ⟨w.heap.size, 1, none⟩) hlt.out).trans k1
  have m3 : w2.cell? ⟨w.heap.size, 3, none⟩ = some (.int .i64 g) := (b2.cell (p := ⟨w.heap.size, 3, none⟩) hlt.out).trans k3
  clear h2 b2 k0 k1 k2 k3 k4
  go_wp2_with fail
  refine (R2 _).mono ?_
  rintro e w2 ⟨rfl, rfl⟩
  go_wp2_with fail
  refine (T1 _ _ K2.out (HG.out.below B2.out HG.out.pos)).mono ?_
  rintro e w3 ⟨rfl, b3⟩
  have B3 : Hid (Below w.heap.size w w3) := B2.out.trans (b3.mono B2.out.size)
  have K3 : Hid (ErV w3 (D : Int) ⟨#[71, 114, 111, 117, 112]⟩ ⟨#[]⟩ v2) := H2.out.below b3 (Nat.le_refl _)
  clear b3
  go_wp2_with fail
  refine (T2 _ _ K3.out (HG.out.below B3.out HG.out.pos)).mono ?_
  rintro e w4 ⟨rfl, b4⟩
  have B4 : Hid (Below w.heap.size w w4) := B3.out.trans (b4.mono B3.out.size)
  clear b4
  go_wp2_with fail
  refine (S1 _ (HG.out.below B4.out HG.out.pos)).mono ?_
  rintro e w5 ⟨rfl, b5⟩
  have B5 : Hid (Below w.heap.size w w5) := B4.out.trans (b5.mono B4.out.size)
  clear b5
  go_wp2
  go_ret
  exact ⟨rfl, B5.out⟩
end Go.Proofs.YthjflphfjemanaaDoor
