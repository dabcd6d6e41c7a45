/-
  width's Unsigned, Signed, Tell, TellSigned, Cut: what they answer, by what the calls inside answer; sure.
-/
import Derived.Test.YtoabdoognadijaaDoorWdA
namespace Go.Proofs.YtoabdoognadijaaDoor
open Go.RowKit Go.Extern.Stop Go.Stop Go.Extern

set_option maxRecDepth 100000 in
set_option maxHeartbeats 1000000 in
theorem wunsigned_of {w M H L : Int} (h : Wd w M H L) (s : ByteArray) (hs : s.size ≤ 140737488355328) (b : Int) {X E : Nat}
    (P1 : ∀ W, Calls Tryd.prog 35 #[.string s, .int .i64 b] W fun x w' => ∃ v, x = .returned (.tuple #[.int .u64 (X : Int), v]) ∧ ErV w' (E : Int) ⟨#[80, 97, 114, 115, 101]⟩ s v ∧ Below W.heap.size W w') (W : World) (hg : ErrT W) :
    Calls Tryd.prog 17 #[.string s, .int .i64 b, .int .i64 w] W fun e w' => ∃ x, e = .returned (.tuple #[.int .u64 (uwX M X), x]) ∧ ErV w' (uwE M X E : Int) ⟨#[85, 110, 115, 105, 103, 110, 101, 100]⟩ s x ∧ Below W.heap.size W w' := by
  have VY := fun W => wvalid_yes h W
  have HM := fun W => wmost_any h W
  have HG : Hid (ErrT W) := hg
  by_cases q : M < (X : Int)
  · have HX : Hid (uwX M X = M ∧ uwE M X E = 4) := uw_out q E
    have WR := fun W => wrap_err (c := ⟨#[85, 110, 115, 105, 103, 110, 101, 100]⟩) (t := s) (by decide) (by omega) 4 W
    clear h hg hs
    generalize uwX M X = Y at *
    generalize uwE M X E = F at *
    go_enter Tryd.func17, Tryd.ntmps17
    go_wp2_with fail
    refine (VY _).mono ?_
    rintro e W ⟨rfl, rfl⟩
    go_wp2_with fail
    refine (P1 _).mono ?_
    rintro e w1 ⟨v, rfl, h1, b1⟩
    have B1 : Hid (Below W.heap.size W w1) := b1
    clear h1 b1
    go_wp2_with fail
    refine (HM _).mono ?_
    rintro e w1 ⟨rfl, rfl⟩
    go_wp2_with fail
    refine (WR _).mono ?_
    rintro e w2 ⟨x, rfl, h2, b2⟩
    have H2 : Hid (Wr w2 ⟨#[85, 110, 115, 105, 103, 110, 101, 100]⟩ s 4 x ∧ Below W.heap.size W w2) := ⟨h2, B1.out.trans (b2.mono B1.out.size)⟩
    clear h2 b2
    go_wp2
    go_ret2
    exact ⟨x, by rw [HX.out.1]; rfl, by rw [HX.out.2]; exact Or.inr ⟨by decide, H2.out.1⟩, H2.out.2⟩
  · have HX : Hid (uwX M X = (X : Int) ∧ uwE M X E = E) := uw_in q E
    have AG := fun W v (h : ErV W (E : Int) ⟨#[80, 97, 114, 115, 101]⟩ s v) (hg : ErrT W) => again_any (c := ⟨#[85, 110, 115, 105, 103, 110, 101, 100]⟩) (t := s) (by decide) (by omega) h hg
    clear h hg hs
    generalize uwX M X = Y at *
    generalize uwE M X E = F at *
    go_enter Tryd.func17, Tryd.ntmps17
    go_wp2_with fail
    refine (VY _).mono ?_
    rintro e W ⟨rfl, rfl⟩
    go_wp2_with fail
    refine (P1 _).mono ?_
    rintro e w1 ⟨v, rfl, h1, b1⟩
    have H1 : Hid (ErV w1 (E : Int) ⟨#[80, 97, 114, 115, 101]⟩ s v ∧ Below W.heap.size W w1) := ⟨h1, b1⟩
    clear h1 b1
    go_wp2_with fail
    refine (HM _).mono ?_
    rintro e w1 ⟨rfl, rfl⟩
    go_wp2_with fail
    refine (AG _ _ H1.out.1 (HG.out.below H1.out.2 HG.out.pos)).mono ?_
    rintro e w2 ⟨x, rfl, h2, b2⟩
    have H2 : Hid (ErV w2 (E : Int) ⟨#[85, 110, 115, 105, 103, 110, 101, 100]⟩ s x ∧ Below W.heap.size W w2) := ⟨h2, H1.out.2.trans (b2.mono H1.out.2.size)⟩
    clear h2 b2
    go_wp2
    go_ret2
    exact ⟨x, by rw [HX.out.1]; rfl, by rw [HX.out.2]; exact H2.out.1, H2.out.2⟩
set_option maxRecDepth 100000 in
set_option maxHeartbeats 1000000 in
theorem wsigned_of {w M H L : Int} (h : Wd w M H L) (s : ByteArray) (hs : s.size ≤ 140737488355328) (b : Int) {X : Int} {E : Nat}
    (P1 : ∀ W, ErrT W → Calls Tryd.prog 37 #[.string s, .int .i64 b] W fun x w' => ∃ v, x = .returned (.tuple #[.int .i64 X, v]) ∧ ErV w' (E : Int) ⟨#[80, 97, 114, 115, 101]⟩ s v ∧ Below W.heap.size W w') (W : World) (hg : ErrT W) :
    Calls Tryd.prog 19 #[.string s, .int .i64 b, .int .i64 w] W fun e w' => ∃ x, e = .returned (.tuple #[.int .i64 (nrW L H X), x]) ∧ ErV w' (swE L H X E : Int) ⟨#[83, 105, 103, 110, 101, 100]⟩ s x ∧ Below W.heap.size W w' := by
  have VY := fun W => wvalid_yes h W
  have NR := fun W => wnearest_any h X W
  have HG : Hid (ErrT W) := hg
  by_cases q : nrW L H X = X
  · have HX : Hid (swE L H X E = E) := sw_in q E
    have AG := fun W v (h : ErV W (E : Int) ⟨#[80, 97, 114, 115, 101]⟩ s v) (hg : ErrT W) => again_any (c := ⟨#[83, 105, 103, 110, 101, 100]⟩) (t := s) (by decide) (by omega) h hg
    rw [q] at NR ⊢
    clear h hg hs q
    generalize swE L H X E = F at *
    go_enter Tryd.func19, Tryd.ntmps19
    go_wp2_with fail
    refine (VY _).mono ?_
    rintro e W ⟨rfl, rfl⟩
    go_wp2_with fail
    refine (P1 _ HG.out).mono ?_
    rintro e w1 ⟨v, rfl, h1, b1⟩
    have H1 : Hid (ErV w1 (E : Int) ⟨#[80, 97, 114, 115, 101]⟩ s v ∧ Below W.heap.size W w1) := ⟨h1, b1⟩
    clear h1 b1
    go_wp2_with fail
    refine (NR _).mono ?_
    rintro e w1 ⟨rfl, rfl⟩
    go_wp2_with fail
    refine (AG _ _ H1.out.1 (HG.out.below H1.out.2 HG.out.pos)).mono ?_
    rintro e w2 ⟨x, rfl, h2, b2⟩
    have H2 : Hid (ErV w2 (E : Int) ⟨#[83, 105, 103, 110, 101, 100]⟩ s x ∧ Below W.heap.size W w2) := ⟨h2, H1.out.2.trans (b2.mono H1.out.2.size)⟩
    clear h2 b2
    go_wp2
    go_ret2
    exact ⟨x, rfl, by rw [HX.out]; exact H2.out.1, H2.out.2⟩
  · have HX : Hid (swE L H X E = 4) := sw_out q E
    have WR := fun W => wrap_err (c := ⟨#[83, 105, 103, 110, 101, 100]⟩) (t := s) (by decide) (by omega) 4 W
    have q' : (nrW L H X != X) = true := by simpa using q
    have q2 : (nrW L H X == X) = false := beq_eq_false_iff_ne.mpr q
    clear h hg hs q
    generalize nrW L H X = Y at *
    generalize swE L H X E = F at *
    go_enter Tryd.func19, Tryd.ntmps19
    go_wp2_with fail
    refine (VY _).mono ?_
    rintro e W ⟨rfl, rfl⟩
    go_wp2_with fail
    refine (P1 _ HG.out).mono ?_
    rintro e w1 ⟨v, rfl, h1, b1⟩
    have B1 : Hid (Below W.heap.size W w1) := b1
    clear h1 b1
    go_wp2_with fail
    refine (NR _).mono ?_
    rintro e w1 ⟨rfl, rfl⟩
    go_wp2_with fail
    refine (WR _).mono ?_
    rintro e w2 ⟨x, rfl, h2, b2⟩
    have H2 : Hid (Wr w2 ⟨#[83, 105, 103, 110, 101, 100]⟩ s 4 x ∧ Below W.heap.size W w2) := ⟨h2, B1.out.trans (b2.mono B1.out.size)⟩
    clear h2 b2
    go_wp2
    go_ret2
    exact ⟨x, rfl, by rw [HX.out]; exact Or.inr ⟨by decide, H2.out.1⟩, H2.out.2⟩
theorem wtold_any {c : ByteArray} (hc : c.size ≤ 281474976710656) (S : ByteArray) (Q : Bool) {c0 t0 : ByteArray} {E : Nat} {v : Value} {w : World} (h : ErV w (E : Int) c0 t0 v) (hg : ErrT w) :
    Calls Tryd.prog 40 #[.string c, .string S, v, .bool Q] w fun e w' => ∃ x, e = .returned (.tuple #[.string (tlS Q E S), x]) ∧ ErV w' (tlE Q E : Int) c ⟨#[]⟩ x ∧ Below w.heap.size w w' := by
  rcases h with ⟨h1, rfl⟩ | ⟨h1, h2⟩
  · obtain rfl : E = 0 := by omega
    cases Q with
    | true =>
      refine (wtold_in c S w).mono ?_
      rintro e w ⟨rfl, rfl⟩
      exact ⟨_, by rw [(tl_in S).1], by rw [(tl_in S).2]; exact Or.inl ⟨rfl, rfl⟩, Below.refl _ _⟩
    | false =>
      refine (wtold_out hc S w).mono ?_
      rintro e w1 ⟨x, rfl, h3, b3⟩
      exact ⟨x, by rw [(tl_out S).1], by rw [(tl_out S).2]; exact Or.inr ⟨by decide, h3⟩, b3⟩
  · have hE : E ≠ 0 := by omega
    refine (wtold_err hc S Q h2 hg).mono ?_
    rintro e w1 ⟨x, rfl, h3, b3⟩
    exact ⟨x, by rw [(tl_err hE S).1], by rw [(tl_err hE S).2]; exact Or.inr ⟨h1, h3⟩, b3⟩
set_option maxRecDepth 100000 in
set_option maxHeartbeats 1000000 in
theorem wtell_of {w M H L : Int} (h : Wd w M H L) (v b : Int) {S : ByteArray} {E : Nat}
    (P1 : ∀ W, Calls Tryd.prog 39 #[.int .u64 v, .int .i64 b] W fun x w' => ∃ y, x = .returned (.tuple #[.string S, y]) ∧ ErV w' (E : Int) ⟨#[70, 111, 114, 109, 97, 116]⟩ ⟨#[]⟩ y ∧ Below W.heap.size W w') (W : World) (hg : ErrT W) :
    Calls Tryd.prog 21 #[.int .u64 v, .int .i64 b, .int .i64 w] W fun e w' => ∃ x, e = .returned (.tuple #[.string (tlS (decide (v ≤ M)) E S), x]) ∧ ErV w' (tlE (decide (v ≤ M)) E : Int) ⟨#[84, 101, 108, 108]⟩ ⟨#[]⟩ x ∧ Below W.heap.size W w' := by
  have VY := fun W => wvalid_yes h W
  have HM := fun W => wmost_any h W
  have TD := fun W Q y (h : ErV W (E : Int) ⟨#[70, 111, 114, 109, 97, 116]⟩ ⟨#[]⟩ y) (hg : ErrT W) => wtold_any (c := ⟨#[84, 101, 108, 108]⟩) (by decide) S Q h hg
  have HG : Hid (ErrT W) := hg
  clear h hg
  skip
  go_enter Tryd.func21, Tryd.ntmps21
  go_wp2_with fail
  refine (VY _).mono ?_
  rintro e W ⟨rfl, rfl⟩
  go_wp2_with fail
  refine (P1 _).mono ?_
  rintro e w1 ⟨y, rfl, h1, b1⟩
  have H1 : Hid (ErV w1 (E : Int) ⟨#[70, 111, 114, 109, 97, 116]⟩ ⟨#[]⟩ y ∧ Below W.heap.size W w1) := ⟨h1, b1⟩
  clear h1 b1
  go_wp2_with fail
  refine (HM _).mono ?_
  rintro e w1 ⟨rfl, rfl⟩
  go_wp2_with fail
  refine (TD _ _ _ H1.out.1 (HG.out.below H1.out.2 HG.out.pos)).mono ?_
  rintro e w2 ⟨x, rfl, h2, b2⟩
  have H2 : Hid (ErV w2 _ ⟨#[84, 101, 108, 108]⟩ ⟨#[]⟩ x ∧ Below W.heap.size W w2) := ⟨h2, H1.out.2.trans (b2.mono H1.out.2.size)⟩
  clear h2 b2
  go_wp2
  go_ret2
  exact ⟨x, rfl, H2.out.1, H2.out.2⟩
set_option maxRecDepth 100000 in
set_option maxHeartbeats 1000000 in
theorem wtellsigned_of {w M H L : Int} (h : Wd w M H L) (v b : Int) {S : ByteArray} {E : Nat}
    (P1 : ∀ W, ErrT W → Calls Tryd.prog 42 #[.int .i64 v, .int .i64 b] W fun x w' => ∃ y, x = .returned (.tuple #[.string S, y]) ∧ ErV w' (E : Int) ⟨#[70, 111, 114, 109, 97, 116]⟩ ⟨#[]⟩ y ∧ Below W.heap.size W w') (W : World) (hg : ErrT W) :
    Calls Tryd.prog 23 #[.int .i64 v, .int .i64 b, .int .i64 w] W fun e w' => ∃ x, e = .returned (.tuple #[.string (tlS (v == nrW L H v) E S), x]) ∧ ErV w' (tlE (v == nrW L H v) E : Int) ⟨#[84, 101, 108, 108, 83, 105, 103, 110, 101, 100]⟩ ⟨#[]⟩ x ∧ Below W.heap.size W w' := by
  have VY := fun W => wvalid_yes h W
  have NR := fun W => wnearest_any h v W
  have TD := fun W Q y (h : ErV W (E : Int) ⟨#[70, 111, 114, 109, 97, 116]⟩ ⟨#[]⟩ y) (hg : ErrT W) => wtold_any (c := ⟨#[84, 101, 108, 108, 83, 105, 103, 110, 101, 100]⟩) (by decide) S Q h hg
  have HG : Hid (ErrT W) := hg
  clear h hg
  generalize nrW L H v = N at *
  go_enter Tryd.func23, Tryd.ntmps23
  go_wp2_with fail
  refine (VY _).mono ?_
  rintro e W ⟨rfl, rfl⟩
  go_wp2_with fail
  refine (P1 _ HG.out).mono ?_
  rintro e w1 ⟨y, rfl, h1, b1⟩
  have H1 : Hid (ErV w1 (E : Int) ⟨#[70, 111, 114, 109, 97, 116]⟩ ⟨#[]⟩ y ∧ Below W.heap.size W w1) := ⟨h1, b1⟩
  clear h1 b1
  go_wp2_with fail
  refine (NR _).mono ?_
  rintro e w1 ⟨rfl, rfl⟩
  go_wp2_with fail
  refine (TD _ _ _ H1.out.1 (HG.out.below H1.out.2 HG.out.pos)).mono ?_
  rintro e w2 ⟨x, rfl, h2, b2⟩
  have H2 : Hid (ErV w2 _ ⟨#[84, 101, 108, 108, 83, 105, 103, 110, 101, 100]⟩ ⟨#[]⟩ x ∧ Below W.heap.size W w2) := ⟨h2, H1.out.2.trans (b2.mono H1.out.2.size)⟩
  clear h2 b2
  go_wp2
  go_ret2
  exact ⟨x, rfl, H2.out.1, H2.out.2⟩
end Go.Proofs.YtoabdoognadijaaDoor
