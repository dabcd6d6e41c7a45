/-
  What the calls of a meter's road, Road, Count, Reset, Add and Text answer.
-/
import Derived.Test.YtladeppjccfbhaaDoorMetA
namespace Go.Proofs.YtladeppjccfbhaaDoor
open Go.RowKit

/-- Where a road's count stands. -/
def roadV (b : Nat) (k : Int) : Value := if k = 1 then .pointer (some ⟨b, 2, none⟩) else if k = 2 then .pointer (some ⟨b, 3, none⟩) else if k = 3 then .pointer (some ⟨b, 4, none⟩) else .pointer none

set_option maxRecDepth 100000 in
theorem road_at (b : Nat) (k : Int) (w : World) :
    Calls Tryd.prog 71 #[mV b, .int .i64 k] w fun x w' => x = .returned (roadV b k) ∧ w' = w := by
  unfold mV roadV
  by_cases h1 : k = 1
  · subst h1
    go_enter Tryd.func71, Tryd.ntmps71
    go_wp2
    go_ret
    exact ⟨rfl, rfl⟩
  · rw [if_neg h1]
    by_cases h2 : k = 2
    · subst h2
      go_enter Tryd.func71, Tryd.ntmps71
      go_wp2
      go_ret
      exact ⟨rfl, rfl⟩
    · rw [if_neg h2]
      by_cases h3 : k = 3
      · subst h3
        go_enter Tryd.func71, Tryd.ntmps71
        go_wp2
        go_ret
        exact ⟨rfl, rfl⟩
      · rw [if_neg h3]
        by_cases h4 : k < 1
        · clear h1 h2 h3
          go_enter Tryd.func71, Tryd.ntmps71
          go_wp2
          go_ret
          exact ⟨rfl, rfl⟩
        · have h5 : 3 < k := by omega
          clear h1 h2 h3
          go_enter Tryd.func71, Tryd.ntmps71
          go_wp2
          go_ret
          exact ⟨rfl, rfl⟩

theorem road_none (k : Int) (w : World) :
    Calls Tryd.prog 71 #[.pointer none, .int .i64 k] w fun x w' => x = .returned (.pointer none) ∧ w' = w := by
  by_cases h4 : k < 1
  · go_enter Tryd.func71, Tryd.ntmps71
    go_wp2
    go_ret
    exact ⟨rfl, rfl⟩
  · by_cases h5 : 3 < k
    · go_enter Tryd.func71, Tryd.ntmps71
      go_wp2
      go_ret
      exact ⟨rfl, rfl⟩
    · go_enter Tryd.func71, Tryd.ntmps71
      go_wp2
      go_ret
      exact ⟨rfl, rfl⟩

/-- How often a road was taken. -/
def cntI (e t s k : Int) : Int := if k = 1 then e else if k = 2 then t else if k = 3 then s else 0

set_option maxRecDepth 100000 in
theorem count_at {b : Nat} {l p e t s : Int} (k : Int) (w : World) (h : MS w b l p e t s) :
    Calls Tryd.prog 33 #[mV b, .int .i64 k] w fun x w' => x = .returned (.int .i64 (cntI e t s k)) ∧ w' = w := by
  have R := fun W => road_at b k W
  obtain ⟨lt, c0, c1, c2, c3, c4, fr⟩ := h
  unfold mV roadV at *
  unfold cntI
  by_cases h1 : k = 1
  · subst h1
    rw [if_pos rfl] at R ⊢
    go_enter Tryd.func33, Tryd.ntmps33
    go_wp2_with (refine (R _).mono ?_; rintro x w1 ⟨rfl, rfl⟩)
    go_ret
    exact ⟨rfl, rfl⟩
  · rw [if_neg h1] at R ⊢
    by_cases h2 : k = 2
    · subst h2
      rw [if_pos rfl] at R ⊢
      go_enter Tryd.func33, Tryd.ntmps33
      go_wp2_with (refine (R _).mono ?_; rintro x w1 ⟨rfl, rfl⟩)
      go_ret
      exact ⟨rfl, rfl⟩
    · rw [if_neg h2] at R ⊢
      by_cases h3 : k = 3
      · subst h3
        rw [if_pos rfl] at R ⊢
        go_enter Tryd.func33, Tryd.ntmps33
        go_wp2_with (refine (R _).mono ?_; rintro x w1 ⟨rfl, rfl⟩)
        go_ret
        exact ⟨rfl, rfl⟩
      · rw [if_neg h3] at R ⊢
        clear h1 h2 h3
        go_enter Tryd.func33, Tryd.ntmps33
        go_wp2_with (refine (R _).mono ?_; rintro x w1 ⟨rfl, rfl⟩)
        go_ret
        exact ⟨rfl, rfl⟩

theorem count_none (k : Int) (w : World) :
    Calls Tryd.prog 33 #[.pointer none, .int .i64 k] w fun x w' => x = .returned (.int .i64 0) ∧ w' = w := by
  have R := fun W => road_none k W
  go_enter Tryd.func33, Tryd.ntmps33
  go_wp2_with (refine (R _).mono ?_; rintro x w1 ⟨rfl, rfl⟩)
  go_ret
  exact ⟨rfl, rfl⟩

set_option maxRecDepth 100000 in
theorem Road_at {b : Nat} {l p e t s : Int} (k : Int) (e0 : 0 ≤ e) (t0 : 0 ≤ t) (s0 : 0 ≤ s) (w : World) (h : MS w b l p e t s) :
    Calls Tryd.prog 67 #[mV b, .int .i64 k] w fun x w' => x = .returned (.tuple #[]) ∧ But b w w' ∧ MS w' b l p (if k = 1 then moreI e 1 else e) (if k = 2 then moreI t 1 else t) (if k = 3 then moreI s 1 else s) := by
  have R := fun W => road_at b k W
  have M0 : Hid (MS w b l p e t s) := h
  obtain ⟨lt, c0, c1, c2, c3, c4, fr⟩ := h
  unfold mV roadV at *
  by_cases h1 : k = 1
  · subst h1
    rw [if_pos rfl] at R ⊢
    rw [if_neg (by decide), if_neg (by decide)]
    have M := fun W => more_any e0 (show (1 : Int) ≤ 9223372036854775807 by decide) W
    generalize moreI e 1 = y at *
    clear e0 t0 s0
    go_enter Tryd.func67, Tryd.ntmps67
    go_wp2_with fail
    refine (R _).mono ?_
    rintro x w1 ⟨rfl, rfl⟩
    go_wp2_with fail
    refine (M _).mono ?_
    rintro x w1 ⟨rfl, rfl⟩
    go_wp2
    exact bodyPost_end (v := .tuple #[]) (results_none Tryd.results67 _ _ _) rfl ⟨rfl, But.set b _ 2 _, M0.out.set2 y⟩
  · rw [if_neg h1] at R ⊢
    by_cases h2 : k = 2
    · subst h2
      rw [if_pos rfl] at R ⊢
      rw [if_neg (by decide)]
      have M := fun W => more_any t0 (show (1 : Int) ≤ 9223372036854775807 by decide) W
      generalize moreI t 1 = y at *
      clear e0 t0 s0
      go_enter Tryd.func67, Tryd.ntmps67
      go_wp2_with fail
      refine (R _).mono ?_
      rintro x w1 ⟨rfl, rfl⟩
      go_wp2_with fail
      refine (M _).mono ?_
      rintro x w1 ⟨rfl, rfl⟩
      go_wp2
      exact bodyPost_end (v := .tuple #[]) (results_none Tryd.results67 _ _ _) rfl ⟨rfl, But.set b _ 3 _, M0.out.set3 y⟩
    · rw [if_neg h2] at R ⊢
      by_cases h3 : k = 3
      · subst h3
        rw [if_pos rfl] at R ⊢
        have M := fun W => more_any s0 (show (1 : Int) ≤ 9223372036854775807 by decide) W
        generalize moreI s 1 = y at *
        clear e0 t0 s0
        go_enter Tryd.func67, Tryd.ntmps67
        go_wp2_with fail
        refine (R _).mono ?_
        rintro x w1 ⟨rfl, rfl⟩
        go_wp2_with fail
        refine (M _).mono ?_
        rintro x w1 ⟨rfl, rfl⟩
        go_wp2
        exact bodyPost_end (v := .tuple #[]) (results_none Tryd.results67 _ _ _) rfl ⟨rfl, But.set b _ 4 _, M0.out.set4 y⟩
      · rw [if_neg h3] at R ⊢
        clear h1 h2 h3 e0 t0 s0
        go_enter Tryd.func67, Tryd.ntmps67
        go_wp2_with fail
        refine (R _).mono ?_
        rintro x w1 ⟨rfl, rfl⟩
        go_wp2
        exact bodyPost_end (v := .tuple #[]) (results_none Tryd.results67 _ _ _) rfl ⟨rfl, But.refl _ _, M0.out⟩

theorem Road_none (k : Int) (w : World) :
    Calls Tryd.prog 67 #[.pointer none, .int .i64 k] w fun x w' => x = .returned (.tuple #[]) ∧ w' = w := by
  have R := fun W => road_none k W
  go_enter Tryd.func67, Tryd.ntmps67
  go_wp2_with fail
  refine (R _).mono ?_
  rintro x w1 ⟨rfl, rfl⟩
  go_wp2
  exact bodyPost_end (v := .tuple #[]) (results_none Tryd.results67 _ _ _) rfl ⟨rfl, rfl⟩

theorem take_none (n : Int) (w : World) :
    Calls Tryd.prog 63 #[.pointer none, .int .i64 n] w fun x w' => x = .returned (.tuple #[]) ∧ w' = w := by
  go_enter Tryd.func63, Tryd.ntmps63
  go_wp2
  exact bodyPost_ret (v := .tuple #[]) (results_none Tryd.results63 _ _ _) rfl ⟨rfl, rfl⟩

theorem give_none (n : Int) (w : World) :
    Calls Tryd.prog 65 #[.pointer none, .int .i64 n] w fun x w' => x = .returned (.tuple #[]) ∧ w' = w := by
  go_enter Tryd.func65, Tryd.ntmps65
  go_wp2
  exact bodyPost_ret (v := .tuple #[]) (results_none Tryd.results65 _ _ _) rfl ⟨rfl, rfl⟩

theorem tally_none (w : World) :
    Calls Tryd.prog 30 #[.pointer none] w fun x w' => x = .returned (tV 0 0 0 0 0) ∧ Below w.heap.size w w' := by
  unfold tV
  go_enter Tryd.func30, Tryd.ntmps30
  go_wp2
  refine bodyPost_ret (v := .agg #[.int .i64 0, .int .i64 0, .int .i64 0, .int .i64 0, .int .i64 0]) (by simp [results, Tryd.results30, go_sem, *]) rfl ⟨rfl, ?_⟩
  exact (Below.refl _ _).alloc (Nat.le_refl _) _

theorem reset_none (w : World) :
    Calls Tryd.prog 37 #[.pointer none] w fun x w' => x = .returned (tV 0 0 0 0 0) ∧ Below w.heap.size w w' := by
  unfold tV
  go_enter Tryd.func37, Tryd.ntmps37
  go_wp2
  refine bodyPost_ret (v := .agg #[.int .i64 0, .int .i64 0, .int .i64 0, .int .i64 0, .int .i64 0]) (by simp [results, Tryd.results37, go_sem, *]) rfl ⟨rfl, ?_⟩
  exact (Below.refl _ _).alloc (Nat.le_refl _) _

theorem live_none (w : World) :
    Calls Tryd.prog 31 #[.pointer none] w fun x w' => x = .returned (.int .i64 0) ∧ Below w.heap.size w w' := by
  have T := tally_none w
  unfold tV at *
  have hf : ∀ W : World, (Instr.field 60 (.agg #[.int .i64 0, .int .i64 0, .int .i64 0, .int .i64 0, .int .i64 0]) 0).run Tryd.prog W = .ok (.int .i64 0) W := fun _ => by kernel_rfl
  go_enter Tryd.func31, Tryd.ntmps31
  go_wp2_with fail
  refine T.mono ?_
  rintro x w1 ⟨rfl, hb⟩
  go_wp2
  go_ret
  exact ⟨rfl, hb⟩

theorem peak_none (w : World) :
    Calls Tryd.prog 32 #[.pointer none] w fun x w' => x = .returned (.int .i64 0) ∧ Below w.heap.size w w' := by
  have T := tally_none w
  unfold tV at *
  have hf : ∀ W : World, (Instr.field 60 (.agg #[.int .i64 0, .int .i64 0, .int .i64 0, .int .i64 0, .int .i64 0]) 1).run Tryd.prog W = .ok (.int .i64 0) W := fun _ => by kernel_rfl
  go_enter Tryd.func32, Tryd.ntmps32
  go_wp2_with fail
  refine T.mono ?_
  rintro x w1 ⟨rfl, hb⟩
  go_wp2
  go_ret
  exact ⟨rfl, hb⟩

theorem add_none (l p e t s : Int) (w : World) :
    Calls Tryd.prog 69 #[.pointer none, tV l p e t s] w fun x w' => x = .returned (.tuple #[]) ∧ Below w.heap.size w w' := by
  unfold tV
  go_enter Tryd.func69, Tryd.ntmps69
  go_wp2
  exact bodyPost_ret (v := .tuple #[]) (results_none Tryd.results69 _ _ _) rfl ⟨rfl, (Below.refl _ _).alloc (Nat.le_refl _) _⟩

end Go.Proofs.YtladeppjccfbhaaDoor
