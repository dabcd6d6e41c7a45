/-
  The law UintsFormats: the walk.
-/
import Derived.Test.YtbdelacgkpogoaaDoorUiI
namespace Go.Proofs.YtbdelacgkpogoaaDoor
open Go.RowKit

theorem fmt_both (V : Nat) (hV : V < 18446744073709551616) (b : Int) : ∃ (S : ByteArray) (E : Int), (∀ W, Calls Tryd.prog 6 #[.int .u64 (V : Int), .int .i64 b] W fun x w' => ∃ v, x = .returned (.tuple #[.string S, v]) ∧ ErV w' E ⟨#[70, 111, 114, 109, 97, 116]⟩ ⟨#[]⟩ v ∧ Below W.heap.size W w') ∧ (∀ W, Calls Tryd.prog 7 #[.int .u64 (V : Int), .int .i64 b] W fun x w' => x = .returned (.tuple #[.string S, .int .i64 E]) ∧ w' = W) ∧ (∀ W, Calls Tryd.prog 8 #[.int .u64 (V : Int), .int .i64 b] W fun x w' => ∃ v, x = .returned (.tuple #[.int .i64 (S.size : Int), v]) ∧ ErV w' E ⟨#[76, 101, 110]⟩ ⟨#[]⟩ v ∧ Below W.heap.size W w') := by
  by_cases h : b < 2 ∨ 36 < b
  · exact ⟨⟨#[]⟩, 7, fun W => (format_no V b h W).mono fun _ _ ⟨v, e, q, c⟩ => ⟨v, e, Or.inr ⟨by decide, q⟩, c⟩, fun W => rformat_no V b h W, fun W => (ulen_no V b h W).mono fun _ _ ⟨v, e, q, c⟩ => ⟨v, e, Or.inr ⟨by decide, q⟩, c⟩⟩
  · obtain ⟨m, rfl⟩ : ∃ m : Nat, b = (m : Int) := ⟨b.toNat, by omega⟩
    refine ⟨⟨(fl m V).toArray⟩, 0, fun W => (format_yes V m hV (by omega) (by omega) W).mono fun _ _ ⟨e, c⟩ => ⟨_, e, Or.inl ⟨rfl, rfl⟩, c⟩, fun W => rformat_yes V m hV (by omega) (by omega) W, fun W => (ulen_yes V m hV (by omega) (by omega) W).mono fun _ _ ⟨e, c⟩ => ⟨_, by rw [str_size]; exact e, Or.inl ⟨rfl, rfl⟩, c ▸ Below.refl _ _⟩⟩
theorem pad_both (V : Nat) (hV : V < 18446744073709551616) (b n : Int) : ∃ (S : ByteArray) (E : Int), (∀ W, Calls Tryd.prog 9 #[.int .u64 (V : Int), .int .i64 b, .int .i64 n] W fun x w' => ∃ v, x = .returned (.tuple #[.string S, v]) ∧ ErV w' E ⟨#[80, 97, 100]⟩ ⟨#[]⟩ v ∧ Below W.heap.size W w') ∧ (∀ W, Calls Tryd.prog 10 #[.int .u64 (V : Int), .int .i64 b, .int .i64 n] W fun x w' => x = .returned (.tuple #[.string S, .int .i64 E]) ∧ w' = W) := by
  by_cases h : b < 2 ∨ 36 < b
  · exact ⟨⟨#[]⟩, 7, fun W => (pad_no V b n h W).mono fun _ _ ⟨v, e, q, c⟩ => ⟨v, e, Or.inr ⟨by decide, q⟩, c⟩, fun W => rpad_no V b n h W⟩
  · obtain ⟨m, rfl⟩ : ∃ m : Nat, b = (m : Int) := ⟨b.toNat, by omega⟩
    have h1 : 2 ≤ m := by omega
    have h2 : m ≤ 36 := by omega
    by_cases l1 : n < 0
    · exact ⟨⟨#[]⟩, 1, fun W => (pad_low V m n h1 h2 l1 W).mono fun _ _ ⟨v, e, q, c⟩ => ⟨v, e, Or.inr ⟨by decide, q⟩, c⟩, fun W => rpad_arg V m n hV h1 h2 (Or.inl l1) W⟩
    · by_cases l2 : 1100 < n
      · exact ⟨⟨#[]⟩, 1, fun W => (pad_high V m n h1 h2 l2 W).mono fun _ _ ⟨v, e, q, c⟩ => ⟨v, e, Or.inr ⟨by decide, q⟩, c⟩, fun W => rpad_arg V m n hV h1 h2 (Or.inr l2) W⟩
      · obtain ⟨k, rfl⟩ : ∃ k : Nat, n = (k : Int) := ⟨n.toNat, by omega⟩
        exact ⟨_, 0, fun W => (pad_yes V m k hV h1 h2 (by omega) W).mono fun _ _ ⟨e, c⟩ => ⟨_, e, Or.inl ⟨rfl, rfl⟩, c⟩, fun W => rpad_yes V m k hV h1 h2 (by omega) W⟩
theorem group_both (V : Nat) (hV : V < 18446744073709551616) (b n : Int) : ∃ (S : ByteArray) (E : Int), (∀ W, Calls Tryd.prog 11 #[.int .u64 (V : Int), .int .i64 b, .int .i64 n] W fun x w' => ∃ v, x = .returned (.tuple #[.string S, v]) ∧ ErV w' E ⟨#[71, 114, 111, 117, 112]⟩ ⟨#[]⟩ v ∧ Below W.heap.size W w') ∧ (∀ W, Calls Tryd.prog 12 #[.int .u64 (V : Int), .int .i64 b, .int .i64 n] W fun x w' => x = .returned (.tuple #[.string S, .int .i64 E]) ∧ w' = W) := by
  by_cases h : b < 2 ∨ 36 < b
  · exact ⟨⟨#[]⟩, 7, fun W => (group_no V b n h W).mono fun _ _ ⟨v, e, q, c⟩ => ⟨v, e, Or.inr ⟨by decide, q⟩, c⟩, fun W => rgroup_no V b n h W⟩
  · obtain ⟨m, rfl⟩ : ∃ m : Nat, b = (m : Int) := ⟨b.toNat, by omega⟩
    have h1 : 2 ≤ m := by omega
    have h2 : m ≤ 36 := by omega
    by_cases l1 : n < 1
    · exact ⟨⟨#[]⟩, 1, fun W => (group_low V m n h1 h2 l1 W).mono fun _ _ ⟨v, e, q, c⟩ => ⟨v, e, Or.inr ⟨by decide, q⟩, c⟩, fun W => rgroup_arg V m n hV h1 h2 l1 W⟩
    · obtain ⟨k, rfl⟩ : ∃ k : Nat, n = (k : Int) := ⟨n.toNat, by omega⟩
      exact ⟨_, 0, fun W => (group_yes V m k hV h1 h2 (by omega) W).mono fun _ _ ⟨e, c⟩ => ⟨_, e, Or.inl ⟨rfl, rfl⟩, c⟩, fun W => rgroup_yes V m k hV h1 h2 (by omega) W⟩

set_option maxRecDepth 100000 in
set_option maxHeartbeats 2000000 in
theorem formats_law (V : Nat) (hV : V < 18446744073709551616) (b n : Int) (w : World) (hg : ErrT w) :
    Calls Tryd.prog 3 #[.int .u64 (V : Int), .int .i64 b, .int .i64 n] w fun e w' => e = .returned (.bool true) ∧ Below w.heap.size w w' := by
  obtain ⟨SF, EF, F1, F2, LN⟩ := fmt_both V hV b
  obtain ⟨SP, EP, P1, P2⟩ := pad_both V hV b n
  obtain ⟨SG, EG, G1, G2⟩ := group_both V hV b n
  have TF := fun W v (h : ErV W EF ⟨#[70, 111, 114, 109, 97, 116]⟩ ⟨#[]⟩ v) (hg : ErrT W) => told_any (c := ⟨#[70, 111, 114, 109, 97, 116]⟩) (t := ⟨#[]⟩) (by decide) (by decide) h hg
  have TL := fun W v (h : ErV W EF ⟨#[76, 101, 110]⟩ ⟨#[]⟩ v) (hg : ErrT W) => told_any (c := ⟨#[76, 101, 110]⟩) (t := ⟨#[]⟩) (by decide) (by decide) h hg
  have TP := fun W v (h : ErV W EP ⟨#[80, 97, 100]⟩ ⟨#[]⟩ v) (hg : ErrT W) => told_any (c := ⟨#[80, 97, 100]⟩) (t := ⟨#[]⟩) (by decide) (by decide) h hg
  have TG := fun W v (h : ErV W EG ⟨#[71, 114, 111, 117, 112]⟩ ⟨#[]⟩ v) (hg : ErrT W) => told_any (c := ⟨#[71, 114, 111, 117, 112]⟩) (t := ⟨#[]⟩) (by decide) (by decide) h hg
  have S1 := fun W => sure_any W
  have HG : Hid (ErrT w) := hg
  clear hg hV
  go_enter Tryd.func3, Tryd.ntmps3
  go_wp2_with fail
  refine (F1 _).mono ?_
  rintro e w1 ⟨vf, rfl, h1, b1⟩
  have B1 : Hid (Below w.heap.size w w1) := b1
  have Hvf_1 : Hid (ErV w1 EF ⟨#[70, 111, 114, 109, 97, 116]⟩ ⟨#[]⟩ vf) := h1
  clear h1 b1
  go_wp2_with fail
  refine (F2 _).mono ?_
  rintro e w1 ⟨rfl, rfl⟩
  go_wp2_with fail
  refine (LN _).mono ?_
  rintro e w2 ⟨vl, rfl, h2, b2⟩
  have B2 : Hid (Below w.heap.size w w2) := B1.out.trans (b2.mono B1.out.size)
  have Hvf_2 : Hid (ErV w2 EF ⟨#[70, 111, 114, 109, 97, 116]⟩ ⟨#[]⟩ vf) := Hvf_1.out.below b2 (Nat.le_refl _)
  have Hvl_2 : Hid (ErV w2 EF ⟨#[76, 101, 110]⟩ ⟨#[]⟩ vl) := h2
  clear h2 b2 B1 Hvf_1
  go_wp2_with fail
  refine (P1 _).mono ?_
  rintro e w3 ⟨vp, rfl, h3, b3⟩
  have B3 : Hid (Below w.heap.size w w3) := B2.out.trans (b3.mono B2.out.size)
  have Hvf_3 : Hid (ErV w3 EF ⟨#[70, 111, 114, 109, 97, 116]⟩ ⟨#[]⟩ vf) := Hvf_2.out.below b3 (Nat.le_refl _)
  have Hvl_3 : Hid (ErV w3 EF ⟨#[76, 101, 110]⟩ ⟨#[]⟩ vl) := Hvl_2.out.below b3 (Nat.le_refl _)
  have Hvp_3 : Hid (ErV w3 EP ⟨#[80, 97, 100]⟩ ⟨#[]⟩ vp) := h3
  clear h3 b3 B2 Hvf_2 Hvl_2
  go_wp2_with fail
  refine (P2 _).mono ?_
  rintro e w3 ⟨rfl, rfl⟩
  go_wp2_with fail
  refine (G1 _).mono ?_
  rintro e w4 ⟨vg, rfl, h4, b4⟩
  have B4 : Hid (Below w.heap.size w w4) := B3.out.trans (b4.mono B3.out.size)
  have Hvf_4 : Hid (ErV w4 EF ⟨#[70, 111, 114, 109, 97, 116]⟩ ⟨#[]⟩ vf) := Hvf_3.out.below b4 (Nat.le_refl _)
  have Hvl_4 : Hid (ErV w4 EF ⟨#[76, 101, 110]⟩ ⟨#[]⟩ vl) := Hvl_3.out.below b4 (Nat.le_refl _)
  have Hvp_4 : Hid (ErV w4 EP ⟨#[80, 97, 100]⟩ ⟨#[]⟩ vp) := Hvp_3.out.below b4 (Nat.le_refl _)
  have Hvg_4 : Hid (ErV w4 EG ⟨#[71, 114, 111, 117, 112]⟩ ⟨#[]⟩ vg) := h4
  clear h4 b4 B3 Hvf_3 Hvl_3 Hvp_3
  go_wp2_with fail
  refine (G2 _).mono ?_
  rintro e w4 ⟨rfl, rfl⟩
  go_wp2_with fail
  refine (TF _ _ Hvf_4.out (HG.out.below B4.out HG.out.pos)).mono ?_
  rintro e w5 ⟨rfl, b5⟩
  have B5 : Hid (Below w.heap.size w w5) := B4.out.trans (b5.mono B4.out.size)
  have Hvf_5 : Hid (ErV w5 EF ⟨#[70, 111, 114, 109, 97, 116]⟩ ⟨#[]⟩ vf) := Hvf_4.out.below b5 (Nat.le_refl _)
  have Hvl_5 : Hid (ErV w5 EF ⟨#[76, 101, 110]⟩ ⟨#[]⟩ vl) := Hvl_4.out.below b5 (Nat.le_refl _)
  have Hvp_5 : Hid (ErV w5 EP ⟨#[80, 97, 100]⟩ ⟨#[]⟩ vp) := Hvp_4.out.below b5 (Nat.le_refl _)
  have Hvg_5 : Hid (ErV w5 EG ⟨#[71, 114, 111, 117, 112]⟩ ⟨#[]⟩ vg) := Hvg_4.out.below b5 (Nat.le_refl _)
  clear b5 B4 Hvf_4 Hvl_4 Hvp_4 Hvg_4
  go_wp2_with fail
  refine (TL _ _ Hvl_5.out (HG.out.below B5.out HG.out.pos)).mono ?_
  rintro e w6 ⟨rfl, b6⟩
  have B6 : Hid (Below w.heap.size w w6) := B5.out.trans (b6.mono B5.out.size)
  have Hvf_6 : Hid (ErV w6 EF ⟨#[70, 111, 114, 109, 97, 116]⟩ ⟨#[]⟩ vf) := Hvf_5.out.below b6 (Nat.le_refl _)
  have Hvl_6 : Hid (ErV w6 EF ⟨#[76, 101, 110]⟩ ⟨#[]⟩ vl) := Hvl_5.out.below b6 (Nat.le_refl _)
  have Hvp_6 : Hid (ErV w6 EP ⟨#[80, 97, 100]⟩ ⟨#[]⟩ vp) := Hvp_5.out.below b6 (Nat.le_refl _)
  have Hvg_6 : Hid (ErV w6 EG ⟨#[71, 114, 111, 117, 112]⟩ ⟨#[]⟩ vg) := Hvg_5.out.below b6 (Nat.le_refl _)
  clear b6 B5 Hvf_5 Hvl_5 Hvp_5 Hvg_5
  go_wp2_with fail
  refine (TP _ _ Hvp_6.out (HG.out.below B6.out HG.out.pos)).mono ?_
  rintro e w7 ⟨rfl, b7⟩
  have B7 : Hid (Below w.heap.size w w7) := B6.out.trans (b7.mono B6.out.size)
  have Hvf_7 : Hid (ErV w7 EF ⟨#[70, 111, 114, 109, 97, 116]⟩ ⟨#[]⟩ vf) := Hvf_6.out.below b7 (Nat.le_refl _)
  have Hvl_7 : Hid (ErV w7 EF ⟨#[76, 101, 110]⟩ ⟨#[]⟩ vl) := Hvl_6.out.below b7 (Nat.le_refl _)
  have Hvp_7 : Hid (ErV w7 EP ⟨#[80, 97, 100]⟩ ⟨#[]⟩ vp) := Hvp_6.out.below b7 (Nat.le_refl _)
  have Hvg_7 : Hid (ErV w7 EG ⟨#[71, 114, 111, 117, 112]⟩ ⟨#[]⟩ vg) := Hvg_6.out.below b7 (Nat.le_refl _)
  clear b7 B6 Hvf_6 Hvl_6 Hvp_6 Hvg_6
  go_wp2_with fail
  refine (TG _ _ Hvg_7.out (HG.out.below B7.out HG.out.pos)).mono ?_
  rintro e w8 ⟨rfl, b8⟩
  have B8 : Hid (Below w.heap.size w w8) := B7.out.trans (b8.mono B7.out.size)
  have Hvf_8 : Hid (ErV w8 EF ⟨#[70, 111, 114, 109, 97, 116]⟩ ⟨#[]⟩ vf) := Hvf_7.out.below b8 (Nat.le_refl _)
  have Hvl_8 : Hid (ErV w8 EF ⟨#[76, 101, 110]⟩ ⟨#[]⟩ vl) := Hvl_7.out.below b8 (Nat.le_refl _)
  have Hvp_8 : Hid (ErV w8 EP ⟨#[80, 97, 100]⟩ ⟨#[]⟩ vp) := Hvp_7.out.below b8 (Nat.le_refl _)
  have Hvg_8 : Hid (ErV w8 EG ⟨#[71, 114, 111, 117, 112]⟩ ⟨#[]⟩ vg) := Hvg_7.out.below b8 (Nat.le_refl _)
  clear b8 B7 Hvf_7 Hvl_7 Hvp_7 Hvg_7
  go_wp2_with fail
  refine (S1 _).mono ?_
  rintro e w9 ⟨rfl, b9⟩
  have B9 : Hid (Below w.heap.size w w9) := B8.out.trans (b9.mono B8.out.size)
  clear b9
  go_wp2
  go_ret
  exact ⟨rfl, B9.out⟩
end Go.Proofs.YtbdelacgkpogoaaDoor
