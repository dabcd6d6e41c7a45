/-
  sure of the laws of widths; what the program and the document answer alike: Bounds, Cut, Clamp, Valid.
-/
import Derived.Test.YtoabdoognadijaaDoorWdS
namespace Go.Proofs.YtoabdoognadijaaDoor
open Go.RowKit Go.Extern.Stop Go.Stop Go.Extern

theorem sure_p : ipX 10 [45, 49, 50, 57] = -129 ∧ ipE 10 [45, 49, 50, 57] = 0 := by decide +kernel
set_option maxRecDepth 100000 in
set_option maxHeartbeats 1000000 in
theorem wsure_any (w : World) (hg : ErrT w) : Calls Tryd.prog 16 #[] w fun x w' => x = .returned (.bool true) ∧ Below w.heap.size w w' := by
  have P1 := fun W (hg : ErrT W) => wsigned_of (show Wd 8 255 127 (-128) from Or.inl ⟨rfl, rfl, rfl, rfl⟩) ⟨#[45, 49, 50, 57]⟩ (by decide) 10 (fun W hg => iparse_yes ⟨#[45, 49, 50, 57]⟩ (by decide) 10 (Or.inr ⟨by decide, by decide⟩) W hg) W hg
  rw [show ipX 10 (⟨#[45, 49, 50, 57]⟩ : ByteArray).data.toList = -129 from sure_p.1, show ipE 10 (⟨#[45, 49, 50, 57]⟩ : ByteArray).data.toList = 0 from sure_p.2, show nrW (-128) 127 (-129) = -128 from by decide, show swE (-128) 127 (-129) 0 = 4 from by decide] at P1
  have C1 := fun W => wcut_yes (show Wd 8 255 127 (-128) from Or.inl ⟨rfl, rfl, rfl, rfl⟩) 255 (by decide) W
  rw [show ((255 : Nat) : Int) % (255 + 1) = 255 from rfl, show sgW 255 127 255 = -1 from by decide] at C1
  have I1 := fun W v (h : Ch W [(⟨#[83, 105, 103, 110, 101, 100]⟩, ⟨#[45, 49, 50, 57]⟩)] 4 v) => Is_ch 4 h
  rw [show ((4 : Int) == 4) = true from rfl] at I1
  have HG : Hid (ErrT w) := hg
  clear hg
  go_enter Tryd.func16, Tryd.ntmps16
  go_wp2_with fail
  refine (P1 _ HG.out).mono ?_
  rintro e w1 ⟨v1, rfl, h1, b1⟩
  have B1 : Hid (Below w.heap.size w w1) := b1
  clear b1
  rcases h1 with ⟨z, _⟩ | ⟨_, h1⟩
  case inl => exact absurd z (by decide)
  have H1 : Hid (Wr w1 ⟨#[83, 105, 103, 110, 101, 100]⟩ ⟨#[45, 49, 50, 57]⟩ 4 v1) := h1
  clear h1
  go_wp2_with fail
  refine (C1 _).mono ?_
  rintro e w2 ⟨rfl, b2⟩
  have B2 : Hid (Below w.heap.size w w2) := B1.out.trans (b2.mono B1.out.size)
  have H2 : Hid (Wr w2 ⟨#[83, 105, 103, 110, 101, 100]⟩ ⟨#[45, 49, 50, 57]⟩ 4 v1) := H1.out.below b2 (Nat.le_refl _)
  clear b2
  go_wp2_with fail
  refine (I1 _ _ H2.out).mono ?_
  rintro e w2 ⟨rfl, rfl⟩
  go_wp2
  go_ret
  exact ⟨rfl, B2.out⟩
theorem bounds_both (w : Int) : ∃ (a b c : Int) (E : Nat),
    (∀ W, ErrT W → Calls Tryd.prog 7 #[.int .i64 w] W fun e w' => ∃ x, e = .returned (.tuple #[.int .i64 a, .int .i64 b, .int .u64 c, x]) ∧ ErV w' (E : Int) ⟨#[66, 111, 117, 110, 100, 115]⟩ ⟨#[]⟩ x ∧ Below W.heap.size W w') ∧
    (∀ W, Calls Tryd.prog 8 #[.int .i64 w] W fun e w' => e = .returned (.tuple #[.int .i64 a, .int .i64 b, .int .u64 c, .int .i64 (E : Int)]) ∧ w' = W) := by
  rcases wd_cases w with ⟨M, H, L, h⟩ | h
  · exact ⟨L, H, M, 0, fun W _ => (wbounds_yes h W).mono (fun e w' ⟨a1, a2⟩ => ⟨_, a1, Or.inl ⟨rfl, rfl⟩, by rw [a2]; exact Below.refl _ _⟩), fun W => rwbounds_yes h W⟩
  · exact ⟨0, 0, 0, 6, fun W hg => (wbounds_no h W hg).mono (fun e w' ⟨v, a1, a2, a3⟩ => ⟨v, a1, Or.inr ⟨by decide, a2⟩, a3⟩), fun W => rwbounds_no h W⟩
theorem cut_both (v : Nat) (hv : v < 18446744073709551616) (w : Int) : ∃ (a b : Int) (E : Nat),
    (∀ W, ErrT W → Calls Tryd.prog 9 #[.int .u64 (v : Int), .int .i64 w] W fun e w' => ∃ x, e = .returned (.tuple #[.int .u64 a, .int .i64 b, x]) ∧ ErV w' (E : Int) ⟨#[67, 117, 116]⟩ ⟨#[]⟩ x ∧ Below W.heap.size W w') ∧
    (∀ W, Calls Tryd.prog 10 #[.int .u64 (v : Int), .int .i64 w] W fun e w' => e = .returned (.tuple #[.int .u64 a, .int .i64 b, .int .i64 (E : Int)]) ∧ w' = W) := by
  rcases wd_cases w with ⟨M, H, L, h⟩ | h
  · exact ⟨_, _, 0, fun W _ => (wcut_yes h v hv W).mono (fun e w' ⟨a1, a2⟩ => ⟨_, a1, Or.inl ⟨rfl, rfl⟩, a2⟩), fun W => rwcut_yes h v hv W⟩
  · exact ⟨0, 0, 6, fun W hg => (wcut_no h (v : Int) W hg).mono (fun e w' ⟨v, a1, a2, a3⟩ => ⟨v, a1, Or.inr ⟨by decide, a2⟩, a3⟩), fun W => rwcut_no h (v : Int) W⟩
theorem clamp_both (v w : Int) : ∃ (a : Int) (E : Nat),
    (∀ W, ErrT W → Calls Tryd.prog 11 #[.int .i64 v, .int .i64 w] W fun e w' => ∃ x, e = .returned (.tuple #[.int .i64 a, x]) ∧ ErV w' (E : Int) ⟨#[67, 108, 97, 109, 112]⟩ ⟨#[]⟩ x ∧ Below W.heap.size W w') ∧
    (∀ W, Calls Tryd.prog 12 #[.int .i64 v, .int .i64 w] W fun e w' => e = .returned (.tuple #[.int .i64 a, .int .i64 (E : Int)]) ∧ w' = W) := by
  rcases wd_cases w with ⟨M, H, L, h⟩ | h
  · exact ⟨_, 0, fun W _ => (wclamp_yes h v W).mono (fun e w' ⟨a1, a2⟩ => ⟨_, a1, Or.inl ⟨rfl, rfl⟩, by rw [a2]; exact Below.refl _ _⟩), fun W => rwclamp_yes h v W⟩
  · exact ⟨0, 6, fun W hg => (wclamp_no h v W hg).mono (fun e w' ⟨v, a1, a2, a3⟩ => ⟨v, a1, Or.inr ⟨by decide, a2⟩, a3⟩), fun W => rwclamp_no h v W⟩
theorem valid_both (w : Int) : ∃ (Q : Bool) (E : Nat), ((Q = true ∧ E = 0) ∨ (Q = false ∧ E = 6)) ∧
    (∀ W, Calls Tryd.prog 15 #[.int .i64 w] W fun e w' => ∃ x, e = .returned x ∧ ErV w' (E : Int) ⟨#[86, 97, 108, 105, 100]⟩ ⟨#[]⟩ x ∧ Below W.heap.size W w') ∧
    (∀ W, Calls Tryd.prog 13 #[.int .i64 w] W fun e w' => e = .returned (.bool Q) ∧ w' = W) := by
  rcases wd_cases w with ⟨M, H, L, h⟩ | h
  · exact ⟨true, 0, Or.inl ⟨rfl, rfl⟩, fun W => (wvalid_yes h W).mono (fun e w' ⟨a1, a2⟩ => ⟨_, a1, Or.inl ⟨rfl, rfl⟩, by rw [a2]; exact Below.refl _ _⟩), fun W => rwvalid_yes h W⟩
  · exact ⟨false, 6, Or.inr ⟨rfl, rfl⟩, fun W => (wvalid_no h W).mono (fun e w' ⟨v, a1, a2, a3⟩ => ⟨v, a1, Or.inr ⟨by decide, a2⟩, a3⟩), fun W => rwvalid_no h W⟩
end Go.Proofs.YtoabdoognadijaaDoor
