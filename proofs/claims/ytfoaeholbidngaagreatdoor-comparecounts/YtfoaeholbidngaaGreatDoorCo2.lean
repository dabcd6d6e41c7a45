/-
  A meter in memory, and what its calls answer.
-/
import Derived.Test.YtfoaeholbidngaaGreatDoorCp1
import Derived.Test.YtfoaeholbidngaaGreatDoorRows
import Derived.Laws.BitsAllLaws
import Derived.Lib.ItoaNum
import Derived.Laws.Externs
import Derived.WalkKit
import Derived.WalkSpells
import Derived.WalkLawsBesides
import Derived.Lib.Mul64
import Derived.Laws.Bits64b
import Derived.OwnWalk
import Derived.Lib.TrailingZeros
import Derived.Deep.OwnRows
import Derived.Laws.CopyOwn
import Derived.BigQuiet
import Derived.Deep.QuietTactic
import Derived.RegionTactic
import Derived.ChangeAlike
import Derived.BigRegion
import Derived.Deep.RegionHeld3
import Derived.Lib.SliceRun
import Derived.Deep.LoopGhost
import Derived.WalkMore
import Derived.Deep.RegionWith
import Derived.Deep.AppendLies
import Derived.Deep.DeepCutAuto
import Derived.LaidEql
import Derived.Stop.Asserts
import Derived.RowKitTokens
import Derived.Lib.Strings
import Derived.Lib.BufferWrite
import Derived.Lib.UnsafeStr
import Derived.Laws.MakeOwn
import Derived.Lib.ConvBytes
import Derived.Laws.AppendOwn
import Ieee.Arith
import Derived.Laws.FloatArith
namespace Go.Proofs.YtfoaeholbidngaaGreatDoor
open Go.RowKit

/-- Nothing has turned but the block b. -/
structure But (b : Nat) (w w' : World) : Prop where
  os : w'.os = w.os
  tape : w'.tape = w.tape
  output : w'.output = w.output
  size : w.heap.size ≤ w'.heap.size
  block : ∀ k, k < w.heap.size → k ≠ b → w'.heap[k]? = w.heap[k]?
theorem But.refl (b : Nat) (w : World) : But b w w := ⟨rfl, rfl, rfl, Nat.le_refl _, fun _ _ _ => rfl⟩
theorem But.trans {b : Nat} {u v w : World} (h : But b u v) (k : But b v w) : But b u w :=
  ⟨k.os.trans h.os, k.tape.trans h.tape, k.output.trans h.output, Nat.le_trans h.size k.size, fun i hi hn => (k.block i (Nat.lt_of_lt_of_le hi h.size) hn).trans (h.block i hi hn)⟩
theorem But.of {b : Nat} {w w' : World} (h : Below w.heap.size w w') : But b w w' := ⟨h.os, h.tape, h.output, h.size, fun k hk _ => h.block k hk⟩
theorem But.set (b : Nat) (w : World) (o : Nat) (v : Value) : But b w (w.setCell ⟨b, o, none⟩ v) :=
  ⟨rfl, rfl, rfl, by simp [World.setCell], fun k _ hn => Below.heap_setCell _ _ _ _ hn⟩
theorem But.drewN (b : Nat) (w : World) (k : Nat) : But b w (w.drewN k) := ⟨rfl, rfl, rfl, Nat.le_refl _, fun _ _ _ => rfl⟩
theorem But.bel {b B : Nat} {w w' : World} (h : But b w w') (hb : B ≤ b) (hw : B ≤ w.heap.size) : Below B w w' :=
  ⟨h.os, h.tape, h.output, h.size, fun k hk => h.block k (by omega) (by omega)⟩
theorem But.cell {b : Nat} {w w' : World} (h : But b w w') {p : Addr} (hp : p.block < w.heap.size) (hn : p.block ≠ b) : w'.cell? p = w.cell? p := World.cell?_of_block (w := w) (h.block p.block hp hn)
theorem But.frozen {b : Nat} {w w' : World} (h : But b w w') {p : Addr} (hp : p.block < w.heap.size) (hn : p.block ≠ b) : w'.frozen? p = w.frozen? p := World.frozen?_of_block (w := w) (h.block p.block hp hn)
/-- A meter's five numbers at the block b. -/
structure MS (W : World) (b : Nat) (l p e t s : Int) : Prop where
  lt : b < W.heap.size
  c0 : W.cell? ⟨b, 0, none⟩ = some (.int .i64 l)
  c1 : W.cell? ⟨b, 1, none⟩ = some (.int .i64 p)
  c2 : W.cell? ⟨b, 2, none⟩ = some (.int .i64 e)
  c3 : W.cell? ⟨b, 3, none⟩ = some (.int .i64 t)
  c4 : W.cell? ⟨b, 4, none⟩ = some (.int .i64 s)
  fr : ∀ o, W.frozen? ⟨b, o, none⟩ = false
  up : ∀ o, 5 ≤ o → W.cell? ⟨b, o, none⟩ = none
theorem MS.step {W W' : World} {b : Nat} {l p e t s : Int} (h : MS W b l p e t s) (hb : Below W.heap.size W W') : MS W' b l p e t s := by
  have k : ∀ o, W'.cell? ⟨b, o, none⟩ = W.cell? ⟨b, o, none⟩ := fun o => hb.cell (p := ⟨b, o, none⟩) h.lt
  exact ⟨Nat.lt_of_lt_of_le h.lt hb.size, (k 0).trans h.c0, (k 1).trans h.c1, (k 2).trans h.c2, (k 3).trans h.c3, (k 4).trans h.c4, fun o => (hb.frozen (p := ⟨b, o, none⟩) h.lt).trans (h.fr o), fun o ho => (k o).trans (h.up o ho)⟩
theorem MS.drewN {W : World} {b : Nat} {l p e t s : Int} (h : MS W b l p e t s) (k : Nat) : MS (W.drewN k) b l p e t s :=
  ⟨by simpa using h.lt, by simpa using h.c0, by simpa using h.c1, by simpa using h.c2, by simpa using h.c3, by simpa using h.c4, fun o => by simpa using h.fr o, fun o ho => by simpa using h.up o ho⟩
theorem MS.same {W : World} {b o : Nat} {v x : Value} (h : W.cell? ⟨b, o, none⟩ = some x) : (W.setCell ⟨b, o, none⟩ v).cell? ⟨b, o, none⟩ = some v := by
  exact World.cell?_setCell_same W ⟨b, o, none⟩ v (by rw [h])
theorem MS.oth {W : World} {b o q : Nat} (v : Value) (n : q ≠ o) : (W.setCell ⟨b, o, none⟩ v).cell? ⟨b, q, none⟩ = W.cell? ⟨b, q, none⟩ :=
  World.cell?_setCell_other W ⟨b, o, none⟩ ⟨b, q, none⟩ v (by intro z; injection z with _ z _; omega)
theorem MS.set2 {W : World} {b : Nat} {l p e t s : Int} (h : MS W b l p e t s) (x : Int) : MS (W.setCell ⟨b, 2, none⟩ (.int .i64 x)) b l p x t s :=
  ⟨by rw [World.size_setCell]; exact h.lt, (MS.oth _ (by omega)).trans h.c0, (MS.oth _ (by omega)).trans h.c1, MS.same h.c2, (MS.oth _ (by omega)).trans h.c3, (MS.oth _ (by omega)).trans h.c4, fun o => by rw [World.frozen?_setCell]; exact h.fr o, fun o ho => (MS.oth _ (by omega)).trans (h.up o ho)⟩
theorem MS.set3 {W : World} {b : Nat} {l p e t s : Int} (h : MS W b l p e t s) (x : Int) : MS (W.setCell ⟨b, 3, none⟩ (.int .i64 x)) b l p e x s :=
  ⟨by rw [World.size_setCell]; exact h.lt, (MS.oth _ (by omega)).trans h.c0, (MS.oth _ (by omega)).trans h.c1, (MS.oth _ (by omega)).trans h.c2, MS.same h.c3, (MS.oth _ (by omega)).trans h.c4, fun o => by rw [World.frozen?_setCell]; exact h.fr o, fun o ho => (MS.oth _ (by omega)).trans (h.up o ho)⟩
theorem MS.set4 {W : World} {b : Nat} {l p e t s : Int} (h : MS W b l p e t s) (x : Int) : MS (W.setCell ⟨b, 4, none⟩ (.int .i64 x)) b l p e t x :=
  ⟨by rw [World.size_setCell]; exact h.lt, (MS.oth _ (by omega)).trans h.c0, (MS.oth _ (by omega)).trans h.c1, (MS.oth _ (by omega)).trans h.c2, (MS.oth _ (by omega)).trans h.c3, MS.same h.c4, fun o => by rw [World.frozen?_setCell]; exact h.fr o, fun o ho => (MS.oth _ (by omega)).trans (h.up o ho)⟩
/-- A meter, as a value. -/
def mV (b : Nat) : Value := .pointer (some ⟨b, 0, none⟩)
/-- Five numbers, as a value. -/
def tV (l p e t s : Int) : Value := .agg #[.int .i64 l, .int .i64 p, .int .i64 e, .int .i64 t, .int .i64 s]
theorem new_none (w : World) (a b c d e : Value) (T : TypeId) {o : Nat} (h : 5 ≤ o) : (w.alloc (.cells #[a, b, c, d, e] T)).cell? ⟨w.heap.size, o, none⟩ = none := by
  obtain ⟨k, rfl⟩ : ∃ k, o = k + 5 := ⟨o - 5, by omega⟩
  simp
theorem new_any (w : World) : Calls Tryz.prog 18 #[] w fun e w' => e = .returned (mV w.heap.size) ∧ Below w.heap.size w w' ∧ MS w' w.heap.size 0 0 0 0 0 := by
  unfold mV
  go_enter Tryz.func18, Tryz.ntmps18
  go_wp2
  go_ret
  exact ⟨rfl, (Below.refl _ _).alloc (Nat.le_refl _) _, ⟨by simp, by simp, by simp, by simp, by simp, by simp, fun o => by simp, fun o ho => new_none _ _ _ _ _ _ _ ho⟩⟩
set_option maxRecDepth 100000 in
theorem tally_at {b : Nat} {l p e t s : Int} (w : World) (h : MS w b l p e t s) :
    Calls Tryz.prog 47 #[mV b] w fun x w' => x = .returned (tV l p e t s) ∧ Below w.heap.size w w' := by
  unfold mV tV
  obtain ⟨lt, c0, c1, c2, c3, c4, fr⟩ := h
  have k : ∀ ob o, (w.alloc ob).cell? ⟨b, o, none⟩ = w.cell? ⟨b, o, none⟩ := fun ob o => World.cell?_alloc_lt w ob ⟨b, o, none⟩ lt
  go_enter Tryz.func47, Tryz.ntmps47
  go_wp2
  refine bodyPost_ret (v := .agg #[.int .i64 l, .int .i64 p, .int .i64 e, .int .i64 t, .int .i64 s]) (by simp [results, Tryz.results47, go_sem, *]) rfl ⟨rfl, ?_⟩
  exact (Below.refl _ _).alloc (Nat.le_refl _) _
theorem live_at {b : Nat} {l p e t s : Int} (w : World) (h : MS w b l p e t s) :
    Calls Tryz.prog 20 #[mV b] w fun x w' => x = .returned (.int .i64 l) ∧ Below w.heap.size w w' := by
  have T := tally_at w h
  clear h
  unfold mV tV at *
  have hf : ∀ W : World, (Instr.field 82 (.agg #[.int .i64 l, .int .i64 p, .int .i64 e, .int .i64 t, .int .i64 s]) 0).run Tryz.prog W = .ok (.int .i64 l) W := fun _ => by kernel_rfl
  go_enter Tryz.func20, Tryz.ntmps20
  go_wp2_with fail
  refine T.mono ?_
  rintro x w1 ⟨rfl, hb⟩
  go_wp2
  go_ret
  exact ⟨rfl, hb⟩
theorem peak_at {b : Nat} {l p e t s : Int} (w : World) (h : MS w b l p e t s) :
    Calls Tryz.prog 21 #[mV b] w fun x w' => x = .returned (.int .i64 p) ∧ Below w.heap.size w w' := by
  have T := tally_at w h
  clear h
  unfold mV tV at *
  have hf : ∀ W : World, (Instr.field 82 (.agg #[.int .i64 l, .int .i64 p, .int .i64 e, .int .i64 t, .int .i64 s]) 1).run Tryz.prog W = .ok (.int .i64 p) W := fun _ => by kernel_rfl
  go_enter Tryz.func21, Tryz.ntmps21
  go_wp2_with fail
  refine T.mono ?_
  rintro x w1 ⟨rfl, hb⟩
  go_wp2
  go_ret
  exact ⟨rfl, hb⟩
/-- So many more, at most the greatest int. -/
def moreI (c n : Int) : Int := if n < 1 then c else if 9223372036854775807 - n < c then 9223372036854775807 else c + n
theorem more_any {c n : Int} (c0 : 0 ≤ c) (n1 : n ≤ 9223372036854775807) (w : World) :
    Calls Tryz.prog 75 #[.int .i64 c, .int .i64 n] w fun x w' => x = .returned (.int .i64 (moreI c n)) ∧ w' = w := by
  unfold moreI
  by_cases h1 : n < 1
  · rw [if_pos h1]
    clear n1 c0
    go_enter Tryz.func75, Tryz.ntmps75
    go_wp2
    go_ret
    exact ⟨rfl, rfl⟩
  · rw [if_neg h1]
    obtain ⟨d, hd⟩ : ∃ d, d = 9223372036854775807 - n := ⟨_, rfl⟩
    have w1 : IntKind.i64.wrap (9223372036854775807 - n) = d := by
      unfold IntKind.wrap
      simp [IntKind.bits, IntKind.signed]
      omega
    rw [← hd]
    by_cases h2 : d < c
    · rw [if_pos h2]
      clear n1 c0 hd
      go_enter Tryz.func75, Tryz.ntmps75
      go_wp2
      go_ret
      exact ⟨rfl, rfl⟩
    · rw [if_neg h2]
      have w2 : IntKind.i64.wrap (c + n) = c + n := by
        unfold IntKind.wrap
        simp [IntKind.bits, IntKind.signed]
        omega
      clear n1 c0 hd
      go_enter Tryz.func75, Tryz.ntmps75
      go_wp2
      go_ret
      exact ⟨rfl, rfl⟩
/-- Where a road's count stands. -/
def roadV (b : Nat) (k : Int) : Value := if k = 1 then .pointer (some ⟨b, 2, none⟩) else if k = 2 then .pointer (some ⟨b, 3, none⟩) else if k = 3 then .pointer (some ⟨b, 4, none⟩) else .pointer none
set_option maxRecDepth 100000 in
theorem road_at (b : Nat) (k : Int) (w : World) :
    Calls Tryz.prog 46 #[mV b, .int .i64 k] w fun x w' => x = .returned (roadV b k) ∧ w' = w := by
  unfold mV roadV
  by_cases h1 : k = 1
  · subst h1
    go_enter Tryz.func46, Tryz.ntmps46
    go_wp2
    go_ret
    exact ⟨rfl, rfl⟩
  · rw [if_neg h1]
    by_cases h2 : k = 2
    · subst h2
      go_enter Tryz.func46, Tryz.ntmps46
      go_wp2
      go_ret
      exact ⟨rfl, rfl⟩
    · rw [if_neg h2]
      by_cases h3 : k = 3
      · subst h3
        go_enter Tryz.func46, Tryz.ntmps46
        go_wp2
        go_ret
        exact ⟨rfl, rfl⟩
      · rw [if_neg h3]
        by_cases h4 : k < 1
        · clear h1 h2 h3
          go_enter Tryz.func46, Tryz.ntmps46
          go_wp2
          go_ret
          exact ⟨rfl, rfl⟩
        · have h5 : 3 < k := by omega
          clear h1 h2 h3
          go_enter Tryz.func46, Tryz.ntmps46
          go_wp2
          go_ret
          exact ⟨rfl, rfl⟩
theorem road_none (k : Int) (w : World) :
    Calls Tryz.prog 46 #[.pointer none, .int .i64 k] w fun x w' => x = .returned (.pointer none) ∧ w' = w := by
  by_cases h4 : k < 1
  · go_enter Tryz.func46, Tryz.ntmps46
    go_wp2
    go_ret
    exact ⟨rfl, rfl⟩
  · by_cases h5 : 3 < k
    · go_enter Tryz.func46, Tryz.ntmps46
      go_wp2
      go_ret
      exact ⟨rfl, rfl⟩
    · go_enter Tryz.func46, Tryz.ntmps46
      go_wp2
      go_ret
      exact ⟨rfl, rfl⟩
/-- How often a road was taken. -/
def cntI (e t s k : Int) : Int := if k = 1 then e else if k = 2 then t else if k = 3 then s else 0
set_option maxRecDepth 100000 in
theorem count_at {b : Nat} {l p e t s : Int} (k : Int) (w : World) (h : MS w b l p e t s) :
    Calls Tryz.prog 19 #[mV b, .int .i64 k] w fun x w' => x = .returned (.int .i64 (cntI e t s k)) ∧ w' = w := by
  have R := fun W => road_at b k W
  obtain ⟨lt, c0, c1, c2, c3, c4, fr⟩ := h
  unfold mV roadV at *
  unfold cntI
  by_cases h1 : k = 1
  · subst h1
    rw [if_pos rfl] at R ⊢
    go_enter Tryz.func19, Tryz.ntmps19
    go_wp2_with (refine (R _).mono ?_; rintro x w1 ⟨rfl, rfl⟩)
    go_ret
    exact ⟨rfl, rfl⟩
  · rw [if_neg h1] at R ⊢
    by_cases h2 : k = 2
    · subst h2
      rw [if_pos rfl] at R ⊢
      go_enter Tryz.func19, Tryz.ntmps19
      go_wp2_with (refine (R _).mono ?_; rintro x w1 ⟨rfl, rfl⟩)
      go_ret
      exact ⟨rfl, rfl⟩
    · rw [if_neg h2] at R ⊢
      by_cases h3 : k = 3
      · subst h3
        rw [if_pos rfl] at R ⊢
        go_enter Tryz.func19, Tryz.ntmps19
        go_wp2_with (refine (R _).mono ?_; rintro x w1 ⟨rfl, rfl⟩)
        go_ret
        exact ⟨rfl, rfl⟩
      · rw [if_neg h3] at R ⊢
        clear h1 h2 h3
        go_enter Tryz.func19, Tryz.ntmps19
        go_wp2_with (refine (R _).mono ?_; rintro x w1 ⟨rfl, rfl⟩)
        go_ret
        exact ⟨rfl, rfl⟩
theorem count_none (k : Int) (w : World) :
    Calls Tryz.prog 19 #[.pointer none, .int .i64 k] w fun x w' => x = .returned (.int .i64 0) ∧ w' = w := by
  have R := fun W => road_none k W
  go_enter Tryz.func19, Tryz.ntmps19
  go_wp2_with (refine (R _).mono ?_; rintro x w1 ⟨rfl, rfl⟩)
  go_ret
  exact ⟨rfl, rfl⟩
set_option maxRecDepth 100000 in
theorem Road_at {b : Nat} {l p e t s : Int} (k : Int) (e0 : 0 ≤ e) (t0 : 0 ≤ t) (s0 : 0 ≤ s) (w : World) (h : MS w b l p e t s) :
    Calls Tryz.prog 41 #[mV b, .int .i64 k] w fun x w' => x = .returned (.tuple #[]) ∧ But b w w' ∧ MS w' b l p (if k = 1 then moreI e 1 else e) (if k = 2 then moreI t 1 else t) (if k = 3 then moreI s 1 else s) := by
  have R := fun W => road_at b k W
  have M0 : Hid (MS w b l p e t s) := h
  obtain ⟨lt, c0, c1, c2, c3, c4, fr⟩ := h
  unfold mV roadV at *
  by_cases h1 : k = 1
  · subst h1
    rw [if_pos rfl] at R ⊢
    rw [if_neg (by decide), if_neg (by decide)]
    have M := fun W => more_any e0 (show (1 : Int) ≤ 9223372036854775807 by decide) W
    generalize moreI e 1 = y at *
    clear e0 t0 s0
    go_enter Tryz.func41, Tryz.ntmps41
    go_wp2_with fail
    refine (R _).mono ?_
    rintro x w1 ⟨rfl, rfl⟩
    go_wp2_with fail
    refine (M _).mono ?_
    rintro x w1 ⟨rfl, rfl⟩
    go_wp2
    exact bodyPost_end (v := .tuple #[]) (results_none Tryz.results41 _ _ _) rfl ⟨rfl, But.set b _ 2 _, M0.out.set2 y⟩
  · rw [if_neg h1] at R ⊢
    by_cases h2 : k = 2
    · subst h2
      rw [if_pos rfl] at R ⊢
      rw [if_neg (by decide)]
      have M := fun W => more_any t0 (show (1 : Int) ≤ 9223372036854775807 by decide) W
      generalize moreI t 1 = y at *
      clear e0 t0 s0
      go_enter Tryz.func41, Tryz.ntmps41
      go_wp2_with fail
      refine (R _).mono ?_
      rintro x w1 ⟨rfl, rfl⟩
      go_wp2_with fail
      refine (M _).mono ?_
      rintro x w1 ⟨rfl, rfl⟩
      go_wp2
      exact bodyPost_end (v := .tuple #[]) (results_none Tryz.results41 _ _ _) rfl ⟨rfl, But.set b _ 3 _, M0.out.set3 y⟩
    · rw [if_neg h2] at R ⊢
      by_cases h3 : k = 3
      · subst h3
        rw [if_pos rfl] at R ⊢
        have M := fun W => more_any s0 (show (1 : Int) ≤ 9223372036854775807 by decide) W
        generalize moreI s 1 = y at *
        clear e0 t0 s0
        go_enter Tryz.func41, Tryz.ntmps41
        go_wp2_with fail
        refine (R _).mono ?_
        rintro x w1 ⟨rfl, rfl⟩
        go_wp2_with fail
        refine (M _).mono ?_
        rintro x w1 ⟨rfl, rfl⟩
        go_wp2
        exact bodyPost_end (v := .tuple #[]) (results_none Tryz.results41 _ _ _) rfl ⟨rfl, But.set b _ 4 _, M0.out.set4 y⟩
      · rw [if_neg h3] at R ⊢
        clear h1 h2 h3 e0 t0 s0
        go_enter Tryz.func41, Tryz.ntmps41
        go_wp2_with fail
        refine (R _).mono ?_
        rintro x w1 ⟨rfl, rfl⟩
        go_wp2
        exact bodyPost_end (v := .tuple #[]) (results_none Tryz.results41 _ _ _) rfl ⟨rfl, But.refl _ _, M0.out⟩
theorem Road_none (k : Int) (w : World) :
    Calls Tryz.prog 41 #[.pointer none, .int .i64 k] w fun x w' => x = .returned (.tuple #[]) ∧ w' = w := by
  have R := fun W => road_none k W
  go_enter Tryz.func41, Tryz.ntmps41
  go_wp2_with fail
  refine (R _).mono ?_
  rintro x w1 ⟨rfl, rfl⟩
  go_wp2
  exact bodyPost_end (v := .tuple #[]) (results_none Tryz.results41 _ _ _) rfl ⟨rfl, rfl⟩
theorem tally_none (w : World) :
    Calls Tryz.prog 47 #[.pointer none] w fun x w' => x = .returned (tV 0 0 0 0 0) ∧ Below w.heap.size w w' := by
  unfold tV
  go_enter Tryz.func47, Tryz.ntmps47
  go_wp2
  refine bodyPost_ret (v := .agg #[.int .i64 0, .int .i64 0, .int .i64 0, .int .i64 0, .int .i64 0]) (by simp [results, Tryz.results47, go_sem, *]) rfl ⟨rfl, ?_⟩
  exact (Below.refl _ _).alloc (Nat.le_refl _) _
theorem live_none (w : World) :
    Calls Tryz.prog 20 #[.pointer none] w fun x w' => x = .returned (.int .i64 0) ∧ Below w.heap.size w w' := by
  have T := tally_none w
  unfold tV at *
  have hf : ∀ W : World, (Instr.field 82 (.agg #[.int .i64 0, .int .i64 0, .int .i64 0, .int .i64 0, .int .i64 0]) 0).run Tryz.prog W = .ok (.int .i64 0) W := fun _ => by kernel_rfl
  go_enter Tryz.func20, Tryz.ntmps20
  go_wp2_with fail
  refine T.mono ?_
  rintro x w1 ⟨rfl, hb⟩
  go_wp2
  go_ret
  exact ⟨rfl, hb⟩
theorem peak_none (w : World) :
    Calls Tryz.prog 21 #[.pointer none] w fun x w' => x = .returned (.int .i64 0) ∧ Below w.heap.size w w' := by
  have T := tally_none w
  unfold tV at *
  have hf : ∀ W : World, (Instr.field 82 (.agg #[.int .i64 0, .int .i64 0, .int .i64 0, .int .i64 0, .int .i64 0]) 1).run Tryz.prog W = .ok (.int .i64 0) W := fun _ => by kernel_rfl
  go_enter Tryz.func21, Tryz.ntmps21
  go_wp2_with fail
  refine T.mono ?_
  rintro x w1 ⟨rfl, hb⟩
  go_wp2
  go_ret
  exact ⟨rfl, hb⟩
end Go.Proofs.YtfoaeholbidngaaGreatDoor
