/-
  What the calls of the document's sum, Take, Give, Road, Add, Count answer: five numbers as the meter's.
-/
import Derived.Test.YtladeppjccfbhaaDoorMetC
namespace Go.Proofs.YtladeppjccfbhaaDoor
open Go.RowKit

/-- Five numbers that a meter may have. -/
structure TI (l p e t s : Int) : Prop where
  l0 : 0 ≤ l
  lp : l ≤ p
  p1 : p ≤ 9223372036854775807
  e0 : 0 ≤ e
  e1 : e ≤ 9223372036854775807
  t0 : 0 ≤ t
  t1 : t ≤ 9223372036854775807
  s0 : 0 ≤ s
  s1 : s ≤ 9223372036854775807

theorem sum_any {a b : Int} (a0 : 0 ≤ a) (a1 : a ≤ 9223372036854775807) (b0 : 0 ≤ b) (b1 : b ≤ 9223372036854775807) (w : World) :
    Calls Tryd.prog 95 #[.int .i64 a, .int .i64 b] w fun x w' => x = .returned (.int .i64 (moreI a b)) ∧ w' = w := by
  obtain ⟨d, hd⟩ : ∃ d, d = 9223372036854775807 - a := ⟨_, rfl⟩
  have w1 : IntKind.i64.wrap (9223372036854775807 - a) = d := by
    unfold IntKind.wrap
    simp [IntKind.bits, IntKind.signed]
    omega
  by_cases h2 : d < b
  · rw [show moreI a b = 9223372036854775807 by unfold moreI; rw [if_neg (by omega), if_pos (by omega)]]
    clear a0 a1 b0 b1 hd
    go_enter Tryd.func95, Tryd.ntmps95
    go_wp2
    go_ret
    exact ⟨rfl, rfl⟩
  · have w2 : IntKind.i64.wrap (a + b) = a + b := by
      unfold IntKind.wrap
      simp [IntKind.bits, IntKind.signed]
      omega
    rw [show moreI a b = a + b by unfold moreI; by_cases h : b < 1; · rw [if_pos h]; omega
                                  · rw [if_neg h, if_neg (by omega)]]
    clear a0 a1 b0 b1 hd
    go_enter Tryd.func95, Tryd.ntmps95
    go_wp2
    go_ret
    exact ⟨rfl, rfl⟩

set_option maxRecDepth 100000 in
theorem rtake_any {l p e t s n : Int} (h : TI l p e t s) (n1 : n ≤ 9223372036854775807) (w : World) :
    Calls Tryd.prog 64 #[tV l p e t s, .int .i64 n] w fun x w' => x = .returned (tV (moreI l n) (mx3 p 0 (moreI l n)) e t s) ∧ Below w.heap.size w w' := by
  have l0 := h.l0
  have lp := h.lp
  have p1 := h.p1
  clear h
  unfold tV
  by_cases h1 : n < 1
  · rw [show mx3 p 0 (moreI l n) = p by unfold mx3 moreI; rw [if_pos h1]; omega, show moreI l n = l by unfold moreI; rw [if_pos h1]]
    clear l0 lp p1 n1
    go_enter Tryd.func64, Tryd.ntmps64
    go_wp2
    refine bodyPost_ret (v := .agg #[.int .i64 l, .int .i64 p, .int .i64 e, .int .i64 t, .int .i64 s]) (by simp [results, Tryd.results64, go_sem, *]) rfl ⟨rfl, ?_⟩
    exact ((Below.refl _ _).alloc (Nat.le_refl _) _).alloc (by simp) _
  · have S := fun W => sum_any l0 (by omega) (show 0 ≤ n by omega) n1 W
    have ly := moreI_lo (n := n) l0
    generalize moreI l n = y at *
    obtain ⟨z, hz⟩ : ∃ z, z = mx3 p 0 y := ⟨_, rfl⟩
    rw [← hz]
    have HZ : Hid (z = max p y) := by unfold mx3 at hz; rw [hz]; show max p (max 0 y) = max p y; omega
    clear l0 lp p1 n1 hz ly
    go_enter Tryd.func64, Tryd.ntmps64
    go_wp2_with fail
    refine (S _).mono ?_
    rintro x w1 ⟨rfl, rfl⟩
    go_wp2
    rw [HZ.out]
    refine bodyPost_ret (v := .agg #[.int .i64 y, .int .i64 (max p y), .int .i64 e, .int .i64 t, .int .i64 s]) (by simp [results, Tryd.results64, go_sem, *]) rfl ⟨rfl, ?_⟩
    exact ((Below.refl _ _).alloc (Nat.le_refl _) _).alloc (by simp) _

set_option maxRecDepth 100000 in
theorem rgive_any {l p e t s n : Int} (h : TI l p e t s) (n1 : n ≤ 9223372036854775807) (w : World) :
    Calls Tryd.prog 66 #[tV l p e t s, .int .i64 n] w fun x w' => x = .returned (tV (lessI l n) p e t s) ∧ Below w.heap.size w w' := by
  have l0 := h.l0
  have lp := h.lp
  have p1 := h.p1
  clear h
  unfold tV
  by_cases h1 : 0 < n
  · obtain ⟨d, hd⟩ : ∃ d, d = l - n := ⟨_, rfl⟩
    have w1 : IntKind.i64.wrap (l - n) = d := by
      unfold IntKind.wrap
      simp [IntKind.bits, IntKind.signed]
      omega
    rw [show lessI l n = max 0 d by unfold lessI; rw [if_neg (by omega)]; omega]
    clear l0 lp p1 n1 hd
    go_enter Tryd.func66, Tryd.ntmps66
    go_wp2
    refine bodyPost_ret (v := .agg #[.int .i64 (max 0 d), .int .i64 p, .int .i64 e, .int .i64 t, .int .i64 s]) (by simp [results, Tryd.results66, go_sem, *]) rfl ⟨rfl, ?_⟩
    exact ((Below.refl _ _).alloc (Nat.le_refl _) _).alloc (by simp) _
  · rw [show lessI l n = l by unfold lessI; rw [if_pos (by omega)]]
    clear l0 lp p1 n1
    go_enter Tryd.func66, Tryd.ntmps66
    go_wp2
    refine bodyPost_ret (v := .agg #[.int .i64 l, .int .i64 p, .int .i64 e, .int .i64 t, .int .i64 s]) (by simp [results, Tryd.results66, go_sem, *]) rfl ⟨rfl, ?_⟩
    exact ((Below.refl _ _).alloc (Nat.le_refl _) _).alloc (by simp) _

set_option maxRecDepth 100000 in
theorem rroad_any {l p e t s k : Int} (h : TI l p e t s) (w : World) :
    Calls Tryd.prog 68 #[tV l p e t s, .int .i64 k] w fun x w' => x = .returned (tV l p (if k = 1 then moreI e 1 else e) (if k = 2 then moreI t 1 else t) (if k = 3 then moreI s 1 else s)) ∧ Below w.heap.size w w' := by
  have S1 := fun W => sum_any h.e0 h.e1 (show (0 : Int) ≤ 1 by decide) (by decide) W
  have S2 := fun W => sum_any h.t0 h.t1 (show (0 : Int) ≤ 1 by decide) (by decide) W
  have S3 := fun W => sum_any h.s0 h.s1 (show (0 : Int) ≤ 1 by decide) (by decide) W
  clear h
  generalize moreI e 1 = e' at *
  generalize moreI t 1 = t' at *
  generalize moreI s 1 = s' at *
  unfold tV
  by_cases h1 : k = 1
  · subst h1
    rw [if_pos rfl, if_neg (by decide), if_neg (by decide)]
    go_enter Tryd.func68, Tryd.ntmps68
    go_wp2_with (refine (S1 _).mono ?_; rintro x w1 ⟨rfl, rfl⟩)
    refine bodyPost_ret (v := .agg #[.int .i64 l, .int .i64 p, .int .i64 e', .int .i64 t, .int .i64 s]) (by simp [results, Tryd.results68, go_sem, *]) rfl ⟨rfl, ?_⟩
    exact ((Below.refl _ _).alloc (Nat.le_refl _) _).alloc (by simp) _
  · rw [if_neg h1]
    by_cases h2 : k = 2
    · subst h2
      rw [if_pos rfl, if_neg (by decide)]
      go_enter Tryd.func68, Tryd.ntmps68
      go_wp2_with (refine (S2 _).mono ?_; rintro x w1 ⟨rfl, rfl⟩)
      refine bodyPost_ret (v := .agg #[.int .i64 l, .int .i64 p, .int .i64 e, .int .i64 t', .int .i64 s]) (by simp [results, Tryd.results68, go_sem, *]) rfl ⟨rfl, ?_⟩
      exact ((Below.refl _ _).alloc (Nat.le_refl _) _).alloc (by simp) _
    · rw [if_neg h2]
      by_cases h3 : k = 3
      · subst h3
        rw [if_pos rfl]
        go_enter Tryd.func68, Tryd.ntmps68
        go_wp2_with (refine (S3 _).mono ?_; rintro x w1 ⟨rfl, rfl⟩)
        refine bodyPost_ret (v := .agg #[.int .i64 l, .int .i64 p, .int .i64 e, .int .i64 t, .int .i64 s']) (by simp [results, Tryd.results68, go_sem, *]) rfl ⟨rfl, ?_⟩
        exact ((Below.refl _ _).alloc (Nat.le_refl _) _).alloc (by simp) _
      · rw [if_neg h3]
        go_enter Tryd.func68, Tryd.ntmps68
        go_wp2
        refine bodyPost_ret (v := .agg #[.int .i64 l, .int .i64 p, .int .i64 e, .int .i64 t, .int .i64 s]) (by simp [results, Tryd.results68, go_sem, *]) rfl ⟨rfl, ?_⟩
        exact ((Below.refl _ _).alloc (Nat.le_refl _) _).alloc (by simp) _

set_option maxRecDepth 100000 in
theorem rcount_any {l p e t s k : Int} (w : World) :
    Calls Tryd.prog 34 #[tV l p e t s, .int .i64 k] w fun x w' => x = .returned (.int .i64 (cntI e t s k)) ∧ Below w.heap.size w w' := by
  unfold tV cntI
  by_cases h1 : k = 1
  · subst h1
    rw [if_pos rfl]
    go_enter Tryd.func34, Tryd.ntmps34
    go_wp2
    go_ret
    exact ⟨rfl, (Below.refl _ _).alloc (Nat.le_refl _) _⟩
  · rw [if_neg h1]
    by_cases h2 : k = 2
    · subst h2
      rw [if_pos rfl]
      go_enter Tryd.func34, Tryd.ntmps34
      go_wp2
      go_ret
      exact ⟨rfl, (Below.refl _ _).alloc (Nat.le_refl _) _⟩
    · rw [if_neg h2]
      by_cases h3 : k = 3
      · subst h3
        rw [if_pos rfl]
        go_enter Tryd.func34, Tryd.ntmps34
        go_wp2
        go_ret
        exact ⟨rfl, (Below.refl _ _).alloc (Nat.le_refl _) _⟩
      · rw [if_neg h3]
        go_enter Tryd.func34, Tryd.ntmps34
        go_wp2
        go_ret
        exact ⟨rfl, (Below.refl _ _).alloc (Nat.le_refl _) _⟩

theorem moreI_max (a b : Int) : moreI a (max 0 b) = moreI a b := by
  unfold moreI
  by_cases h : b < 1
  · rw [if_pos h, if_pos (by omega)]
  · rw [if_neg h, if_neg (by omega), show max 0 b = b by omega]

set_option maxRecDepth 100000 in
set_option maxHeartbeats 1000000 in
theorem radd_any {l p e t s l2 p2 e2 t2 s2 : Int} (h : TI l p e t s) (hl : l2 ≤ 9223372036854775807) (he : e2 ≤ 9223372036854775807) (ht : t2 ≤ 9223372036854775807) (hs : s2 ≤ 9223372036854775807) (w : World) :
    Calls Tryd.prog 70 #[tV l p e t s, tV l2 p2 e2 t2 s2] w fun x w' => x = .returned (tV (moreI l l2) (mx3 p p2 (moreI l l2)) (moreI e e2) (moreI t t2) (moreI s s2)) ∧ Below w.heap.size w w' := by
  have S0 := fun W => sum_any h.l0 (Int.le_trans h.lp h.p1) (show 0 ≤ max 0 l2 by omega) (show max 0 l2 ≤ 9223372036854775807 by omega) W
  have S1 := fun W => sum_any h.e0 h.e1 (show 0 ≤ max 0 e2 by omega) (show max 0 e2 ≤ 9223372036854775807 by omega) W
  have S2 := fun W => sum_any h.t0 h.t1 (show 0 ≤ max 0 t2 by omega) (show max 0 t2 ≤ 9223372036854775807 by omega) W
  have S3 := fun W => sum_any h.s0 h.s1 (show 0 ≤ max 0 s2 by omega) (show max 0 s2 ≤ 9223372036854775807 by omega) W
  rw [moreI_max] at S0 S1 S2 S3
  clear h hl he ht hs
  generalize moreI l l2 = y0 at *
  generalize moreI e e2 = y1 at *
  generalize moreI t t2 = y2 at *
  generalize moreI s s2 = y3 at *
  obtain ⟨z, hz⟩ : ∃ z, z = mx3 p p2 y0 := ⟨_, rfl⟩
  rw [← hz]
  have HZ : Hid (z = max p (max p2 y0)) := hz
  clear hz
  unfold tV
  go_enter Tryd.func70, Tryd.ntmps70
  go_wp2_with fail
  refine (S0 _).mono ?_
  rintro x w1 ⟨rfl, rfl⟩
  go_wp2_with fail
  refine (S1 _).mono ?_
  rintro x w1 ⟨rfl, rfl⟩
  go_wp2_with fail
  refine (S2 _).mono ?_
  rintro x w1 ⟨rfl, rfl⟩
  go_wp2_with fail
  refine (S3 _).mono ?_
  rintro x w1 ⟨rfl, rfl⟩
  go_wp2
  all_goals
    have hz := HZ.out
    first
      | (rw [show z = y0 by omega]; refine bodyPost_ret (v := .agg #[.int .i64 y0, .int .i64 y0, .int .i64 y1, .int .i64 y2, .int .i64 y3]) (by simp [results, Tryd.results70, go_sem, *]) rfl ⟨rfl, ?_⟩; exact (((Below.refl _ _).alloc (Nat.le_refl _) _).alloc (by simp) _).alloc (by simp; omega) _)
      | (rw [show z = p2 by omega]; refine bodyPost_ret (v := .agg #[.int .i64 y0, .int .i64 p2, .int .i64 y1, .int .i64 y2, .int .i64 y3]) (by simp [results, Tryd.results70, go_sem, *]) rfl ⟨rfl, ?_⟩; exact (((Below.refl _ _).alloc (Nat.le_refl _) _).alloc (by simp) _).alloc (by simp; omega) _)
      | (rw [show z = p by omega]; refine bodyPost_ret (v := .agg #[.int .i64 y0, .int .i64 p, .int .i64 y1, .int .i64 y2, .int .i64 y3]) (by simp [results, Tryd.results70, go_sem, *]) rfl ⟨rfl, ?_⟩; exact (((Below.refl _ _).alloc (Nat.le_refl _) _).alloc (by simp) _).alloc (by simp; omega) _)
      | (rw [hz]; refine bodyPost_ret (v := .agg #[.int .i64 y0, .int .i64 (max p (max p2 y0)), .int .i64 y1, .int .i64 y2, .int .i64 y3]) (by simp [results, Tryd.results70, go_sem, *]) rfl ⟨rfl, ?_⟩; exact (((Below.refl _ _).alloc (Nat.le_refl _) _).alloc (by simp) _).alloc (by simp; omega) _)

end Go.Proofs.YtladeppjccfbhaaDoor
