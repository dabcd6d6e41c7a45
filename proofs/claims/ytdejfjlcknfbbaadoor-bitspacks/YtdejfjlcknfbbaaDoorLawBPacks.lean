/-
  The law BitsPacks: the float of all parts, or the error.
-/
import Derived.Test.YtdejfjlcknfbbaaDoorBtL
import Derived.Test.YtdejfjlcknfbbaaDoorBtJ
import Derived.Test.YtdejfjlcknfbbaaDoorBtW
namespace Go.Proofs.YtdejfjlcknfbbaaDoor
open Go.RowKit

set_option maxRecDepth 100000 in
set_option maxHeartbeats 1000000 in
theorem bpacks_walk {c : Bool} {k m p s y kk : Int} {V : Value}
    (U1 : (∀ W, Tab W → Calls Tryd.prog 17 #[.agg #[.bool c, .int .i64 k, .int .u64 m, .int .i64 p], .int .i64 s] W fun e w' => e = .returned (.tuple #[.int .u64 y, V]) ∧ Below W.heap.size W w'))
    (U2 : (∀ W, Calls Tryd.prog 18 #[.agg #[.bool c, .int .i64 k, .int .u64 m, .int .i64 p], .int .i64 s] W fun e w' => e = .returned (.tuple #[.int .u64 y, .int .i64 kk]) ∧ Below W.heap.size W w'))
    (N : (∀ W, ErrT W → Calls Tryd.prog 13 #[V] W fun e w' => e = .returned (.int .i64 kk) ∧ Below W.heap.size W w')) (w : World) (hE : ErrT w) (hT : Tab w) : Calls Tryd.prog 4 #[.agg #[.bool c, .int .i64 k, .int .u64 m, .int .i64 p], .int .i64 s] w fun e w' => e = .returned (.bool true) ∧ Below w.heap.size w w' := by
  have S := fun W => sure_any W
  have HG : Hid (ErrT w) := hE
  have HT : Hid (Tab w) := hT
  clear hE hT
  go_enter Tryd.func4, Tryd.ntmps4
  have B0 : Hid (Below w.heap.size w w) := Below.refl _ _
  go_wp2_with fail
  refine (U1 _ (HT.out.below (B0.out.alloc B0.out.size _) HT.out.pos)).mono ?_
  rintro e w1 ⟨rfl, hb⟩
  have B1 : Hid (Below w.heap.size w w1) := (B0.out.alloc B0.out.size _).trans (hb.mono (by simp))
  have X0 : Hid (FlB w1 _ _ _ _ _) := (FlB.new w _ _ _ _ _).step hb
  clear hb
  obtain ⟨l0, x00, x01, x02, x03, _, _, _, _⟩ := X0.out
  go_wp2_with fail
  refine (U2 _).mono ?_
  rintro e w2 ⟨rfl, hb⟩
  have B2 : Hid (Below w.heap.size w w2) := B1.out.trans (hb.mono B1.out.size)
  have X0n : Hid (FlB w2 _ _ _ _ _) := X0.out.step hb
  clear X0
  have X0 := X0n
  clear X0n
  clear hb
  go_wp2_with fail
  refine (N _ (HG.out.below B2.out HG.out.pos)).mono ?_
  rintro e w3 ⟨rfl, hb⟩
  have B3 : Hid (Below w.heap.size w w3) := B2.out.trans (hb.mono B2.out.size)
  have X0n : Hid (FlB w3 _ _ _ _ _) := X0.out.step hb
  clear X0
  have X0 := X0n
  clear X0n
  clear hb
  go_wp2_with fail
  refine (S _).mono ?_
  rintro e w4 ⟨rfl, hb⟩
  have B4 : Hid (Below w.heap.size w w4) := B3.out.trans (hb.mono B3.out.size)
  have X0n : Hid (FlB w4 _ _ _ _ _) := X0.out.step hb
  clear X0
  have X0 := X0n
  clear X0n
  clear hb
  go_wp2
  go_ret
  exact ⟨rfl, B4.out⟩

/-- Far off: no float has the value. -/
theorem pk_far {f : Nat} {t L : Int} (ht : 2 ≤ t) (ht2 : t ≤ 2047) (hf : f ≤ 52) (hL : -1074 ≤ L) (hL2 : L ≤ 0) {m : Nat} (hm : m < 18446744073709551616) (m0 : m ≠ 0) {p : Int} (h : p < -4000 ∨ 4000 < p) : pk f t L m p = none := by
  rcases h with h | h
  · obtain ⟨j, hj, z1⟩ := ctz_odd m0 hm
    refine pk_low hj ?_
    unfold rm
    omega
  · exact pk_high ht m0 (by omega)
theorem pack_both_32 (c : Bool) (k : Int) {m : Nat} (hm : m < 18446744073709551616) {p : Int} (hp0 : -9223372036854775808 ≤ p) : ∃ (y kk : Int) (V : Value), (∀ W, Tab W → Calls Tryd.prog 17 #[.agg #[.bool c, .int .i64 k, .int .u64 (m : Int), .int .i64 p], .int .i64 32] W fun e w' => e = .returned (.tuple #[.int .u64 y, V]) ∧ Below W.heap.size W w') ∧ (∀ W, Calls Tryd.prog 18 #[.agg #[.bool c, .int .i64 k, .int .u64 (m : Int), .int .i64 p], .int .i64 32] W fun e w' => e = .returned (.tuple #[.int .u64 y, .int .i64 kk]) ∧ Below W.heap.size W w') ∧ (∀ W, ErrT W → Calls Tryd.prog 13 #[V] W fun e w' => e = .returned (.int .i64 kk) ∧ Below W.heap.size W w') := by
  by_cases k1 : k = 1
  · subst k1
    exact ⟨_, 0, .nilIface, fun W g => pk_of_32 W g (fun W' g' => pack_zero_32 c _ _ W'), fun W => rpk_zero_32 c _ _ W, fun W _ => num_nil W⟩
  · by_cases k3 : k = 3
    · subst k3
      exact ⟨_, 0, .nilIface, fun W g => pk_of_32 W g (fun W' g' => pack_inf_32 c _ _ W'), fun W => rpk_inf_32 c _ _ W, fun W _ => num_nil W⟩
    · by_cases k4 : k = 4
      · subst k4
        exact ⟨_, 0, .nilIface, fun W g => pk_of_32 W g (fun W' g' => pack_nan_32 c _ _ W'), fun W => rpk_nan_32 c _ _ W, fun W _ => num_nil W⟩
      · by_cases k2 : k = 2
        · subst k2
          by_cases m0 : m = 0
          · subst m0
            exact ⟨0, 1, _, fun W g => pk_of_32 W g (fun W' g' => pack_none0_32 c p W'), fun W => rpk_arg3_32 c p W, fun W g => num_errno 1 W g⟩
          · by_cases q : p < -4000 ∨ 4000 < p
            · have e := pk_far (f := 23) (t := 255) (L := (-149)) (by decide) (by decide) (by decide) (by decide) (by decide) hm m0 q
              have n0 : ((m : Int) == 0) = false := by simp; omega
              refine ⟨0, 4, _, fun W g => pk_of_32 W g (fun W' g' => pack_none_32 c hm m0 hp0 e W' g'), fun W => ?_, fun W g => num_errno 4 W g⟩
              by_cases q1 : p < -4000
              · exact rpk_far1_32 c n0 q1 W
              · exact rpk_far2_32 c n0 q1 (by omega) W
            · have R := fun W => rpk_fine_32 c hm m0 (fun x => q (.inl x)) (fun x => q (.inr x)) W
              cases e : pk 23 255 (-149) m p with
              | none =>
                rw [e] at R
                exact ⟨0, 4, _, fun W g => pk_of_32 W g (fun W' g' => pack_none_32 c hm m0 hp0 e W' g'), R, fun W g => num_errno 4 W g⟩
              | some b =>
                rw [e] at R
                exact ⟨_, 0, .nilIface, fun W g => pk_of_32 W g (fun W' g' => pack_some_32 c hm m0 hp0 e W' g'), R, fun W _ => num_nil W⟩
        · have q1 : (k == 1) = false := by simpa using k1
          have q3 : (k == 3) = false := by simpa using k3
          have q4 : (k == 4) = false := by simpa using k4
          have q2 : (k == 2) = false := by simpa using k2
          refine ⟨0, 1, _, fun W g => pk_of_32 W g (fun W' g' => pack_arg_32 c _ _ q1 q3 q4 q2 W'), fun W => ?_, fun W g => num_errno 1 W g⟩
          by_cases q : k < 1
          · exact rpk_arg1_32 c _ _ q W
          · exact rpk_arg2_32 c _ _ q (by omega) W
theorem pack_both_64 (c : Bool) (k : Int) {m : Nat} (hm : m < 18446744073709551616) {p : Int} (hp0 : -9223372036854775808 ≤ p) : ∃ (y kk : Int) (V : Value), (∀ W, Tab W → Calls Tryd.prog 17 #[.agg #[.bool c, .int .i64 k, .int .u64 (m : Int), .int .i64 p], .int .i64 64] W fun e w' => e = .returned (.tuple #[.int .u64 y, V]) ∧ Below W.heap.size W w') ∧ (∀ W, Calls Tryd.prog 18 #[.agg #[.bool c, .int .i64 k, .int .u64 (m : Int), .int .i64 p], .int .i64 64] W fun e w' => e = .returned (.tuple #[.int .u64 y, .int .i64 kk]) ∧ Below W.heap.size W w') ∧ (∀ W, ErrT W → Calls Tryd.prog 13 #[V] W fun e w' => e = .returned (.int .i64 kk) ∧ Below W.heap.size W w') := by
  by_cases k1 : k = 1
  · subst k1
    exact ⟨_, 0, .nilIface, fun W g => pk_of_64 W g (fun W' g' => pack_zero_64 c _ _ W'), fun W => rpk_zero_64 c _ _ W, fun W _ => num_nil W⟩
  · by_cases k3 : k = 3
    · subst k3
      exact ⟨_, 0, .nilIface, fun W g => pk_of_64 W g (fun W' g' => pack_inf_64 c _ _ W'), fun W => rpk_inf_64 c _ _ W, fun W _ => num_nil W⟩
    · by_cases k4 : k = 4
      · subst k4
        exact ⟨_, 0, .nilIface, fun W g => pk_of_64 W g (fun W' g' => pack_nan_64 c _ _ W'), fun W => rpk_nan_64 c _ _ W, fun W _ => num_nil W⟩
      · by_cases k2 : k = 2
        · subst k2
          by_cases m0 : m = 0
          · subst m0
            exact ⟨0, 1, _, fun W g => pk_of_64 W g (fun W' g' => pack_none0_64 c p W'), fun W => rpk_arg3_64 c p W, fun W g => num_errno 1 W g⟩
          · by_cases q : p < -4000 ∨ 4000 < p
            · have e := pk_far (f := 52) (t := 2047) (L := (-1074)) (by decide) (by decide) (by decide) (by decide) (by decide) hm m0 q
              have n0 : ((m : Int) == 0) = false := by simp; omega
              refine ⟨0, 4, _, fun W g => pk_of_64 W g (fun W' g' => pack_none_64 c hm m0 hp0 e W' g'), fun W => ?_, fun W g => num_errno 4 W g⟩
              by_cases q1 : p < -4000
              · exact rpk_far1_64 c n0 q1 W
              · exact rpk_far2_64 c n0 q1 (by omega) W
            · have R := fun W => rpk_fine_64 c hm m0 (fun x => q (.inl x)) (fun x => q (.inr x)) W
              cases e : pk 52 2047 (-1074) m p with
              | none =>
                rw [e] at R
                exact ⟨0, 4, _, fun W g => pk_of_64 W g (fun W' g' => pack_none_64 c hm m0 hp0 e W' g'), R, fun W g => num_errno 4 W g⟩
              | some b =>
                rw [e] at R
                exact ⟨_, 0, .nilIface, fun W g => pk_of_64 W g (fun W' g' => pack_some_64 c hm m0 hp0 e W' g'), R, fun W _ => num_nil W⟩
        · have q1 : (k == 1) = false := by simpa using k1
          have q3 : (k == 3) = false := by simpa using k3
          have q4 : (k == 4) = false := by simpa using k4
          have q2 : (k == 2) = false := by simpa using k2
          refine ⟨0, 1, _, fun W g => pk_of_64 W g (fun W' g' => pack_arg_64 c _ _ q1 q3 q4 q2 W'), fun W => ?_, fun W g => num_errno 1 W g⟩
          by_cases q : k < 1
          · exact rpk_arg1_64 c _ _ q W
          · exact rpk_arg2_64 c _ _ q (by omega) W
theorem law_bpacks (c : Bool) (k : Int) (m : Nat) (hm : m < 18446744073709551616) (p : Int) (hp0 : -9223372036854775808 ≤ p) (s : Int) (w : World) (hE : ErrT w) (hT : Tab w) :
    Calls Tryd.prog 4 #[.agg #[.bool c, .int .i64 k, .int .u64 (m : Int), .int .i64 p], .int .i64 s] w fun e w' => e = .returned (.bool true) ∧ Below w.heap.size w w' := by
  by_cases h1 : s = 32
  · subst h1
    obtain ⟨y, kk, V, X1, X2, X3⟩ := pack_both_32 c k hm hp0
    exact bpacks_walk X1 X2 X3 w hE hT
  · by_cases h2 : s = 64
    · subst h2
      obtain ⟨y, kk, V, X1, X2, X3⟩ := pack_both_64 c k hm hp0
      exact bpacks_walk X1 X2 X3 w hE hT
    · have h : Sn s := ⟨h1, h2⟩
      exact bpacks_walk (fun W _ => pk_no h c k _ p W) (fun W => rpk_no h c k _ p W) (fun W g => num_errno 5 W g) w hE hT
end Go.Proofs.YtdejfjlcknfbbaaDoor
