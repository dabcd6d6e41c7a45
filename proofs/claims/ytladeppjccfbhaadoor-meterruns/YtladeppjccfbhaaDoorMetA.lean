/-
  A meter in memory, and what the calls of New, Tally, Live, Peak, more, Take, Give answer.
-/
import Derived.Test.YtladeppjccfbhaaDoorShelf
import Derived.Test.YtladeppjccfbhaaDoorBits
import Derived.Deep.OwnRows
import Derived.Deep.RegionHeld3
import Derived.BigQuiet
import Derived.OwnWalk
namespace Go.Proofs.YtladeppjccfbhaaDoor
open Go.RowKit

/-- Nothing has turned but the block b. -/
structure But (b : Nat) (w w' : World) : Prop where
  os : w'.os = w.os
  tape : w'.tape = w.tape
  output : w'.output = w.output
  size : w.heap.size ≤ w'.heap.size
  block : ∀ k, k < w.heap.size → k ≠ b → w'.heap[k]? = w.heap[k]?
theorem But.refl (b : Nat) (w : World) : But b w w := ⟨rfl, rfl, rfl, Nat.le_refl _, fun _ _ _ => rfl⟩
theorem But.trans {b : Nat} {u v w : World} (h : But b u v) (k : But b v w) : But b u w :=
  ⟨k.os.trans h.os, k.tape.trans h.tape, k.output.trans h.output, Nat.le_trans h.size k.size, fun i hi hn => (k.block i (Nat.lt_of_lt_of_le hi h.size) hn).trans (h.block i hi hn)⟩
theorem But.of {b : Nat} {w w' : World} (h : Below w.heap.size w w') : But b w w' := ⟨h.os, h.tape, h.output, h.size, fun k hk _ => h.block k hk⟩
theorem But.set (b : Nat) (w : World) (o : Nat) (v : Value) : But b w (w.setCell ⟨b, o, none⟩ v) :=
  ⟨rfl, rfl, rfl, by simp [World.setCell], fun k _ hn => Below.heap_setCell _ _ _ _ hn⟩
theorem But.drewN (b : Nat) (w : World) (k : Nat) : But b w (w.drewN k) := ⟨rfl, rfl, rfl, Nat.le_refl _, fun _ _ _ => rfl⟩
theorem But.bel {b B : Nat} {w w' : World} (h : But b w w') (hb : B ≤ b) (hw : B ≤ w.heap.size) : Below B w w' :=
  ⟨h.os, h.tape, h.output, h.size, fun k hk => h.block k (by omega) (by omega)⟩
theorem But.cell {b : Nat} {w w' : World} (h : But b w w') {p : Addr} (hp : p.block < w.heap.size) (hn : p.block ≠ b) : w'.cell? p = w.cell? p := World.cell?_of_block (w := w) (h.block p.block hp hn)
theorem But.frozen {b : Nat} {w w' : World} (h : But b w w') {p : Addr} (hp : p.block < w.heap.size) (hn : p.block ≠ b) : w'.frozen? p = w.frozen? p := World.frozen?_of_block (w := w) (h.block p.block hp hn)

/-- A meter's five numbers at the block b. -/
structure MS (W : World) (b : Nat) (l p e t s : Int) : Prop where
  lt : b < W.heap.size
  c0 : W.cell? ⟨b, 0, none⟩ = some (.int .i64 l)
  c1 : W.cell? ⟨b, 1, none⟩ = some (.int .i64 p)
  c2 : W.cell? ⟨b, 2, none⟩ = some (.int .i64 e)
  c3 : W.cell? ⟨b, 3, none⟩ = some (.int .i64 t)
  c4 : W.cell? ⟨b, 4, none⟩ = some (.int .i64 s)
  fr : ∀ o, W.frozen? ⟨b, o, none⟩ = false
theorem MS.step {W W' : World} {b : Nat} {l p e t s : Int} (h : MS W b l p e t s) (hb : Below W.heap.size W W') : MS W' b l p e t s := by
  have k : ∀ o, W'.cell? ⟨b, o, none⟩ = W.cell? ⟨b, o, none⟩ := fun o => hb.cell (p := ⟨b, o, none⟩) h.lt
  exact ⟨Nat.lt_of_lt_of_le h.lt hb.size, (k 0).trans h.c0, (k 1).trans h.c1, (k 2).trans h.c2, (k 3).trans h.c3, (k 4).trans h.c4, fun o => (hb.frozen (p := ⟨b, o, none⟩) h.lt).trans (h.fr o)⟩
theorem MS.drewN {W : World} {b : Nat} {l p e t s : Int} (h : MS W b l p e t s) (k : Nat) : MS (W.drewN k) b l p e t s :=
  ⟨by simpa using h.lt, by simpa using h.c0, by simpa using h.c1, by simpa using h.c2, by simpa using h.c3, by simpa using h.c4, fun o => by simpa using h.fr o⟩
theorem MS.same {W : World} {b o : Nat} {v x : Value} (h : W.cell? ⟨b, o, none⟩ = some x) : (W.setCell ⟨b, o, none⟩ v).cell? ⟨b, o, none⟩ = some v := by
  exact World.cell?_setCell_same W ⟨b, o, none⟩ v (by rw [h])
theorem MS.oth {W : World} {b o q : Nat} (v : Value) (n : q ≠ o) : (W.setCell ⟨b, o, none⟩ v).cell? ⟨b, q, none⟩ = W.cell? ⟨b, q, none⟩ :=
  World.cell?_setCell_other W ⟨b, o, none⟩ ⟨b, q, none⟩ v (by intro z; injection z with _ z _; omega)
theorem MS.set0 {W : World} {b : Nat} {l p e t s : Int} (h : MS W b l p e t s) (x : Int) : MS (W.setCell ⟨b, 0, none⟩ (.int .i64 x)) b x p e t s :=
  ⟨by rw [World.size_setCell]; exact h.lt, MS.same h.c0, (MS.oth _ (by omega)).trans h.c1, (MS.oth _ (by omega)).trans h.c2, (MS.oth _ (by omega)).trans h.c3, (MS.oth _ (by omega)).trans h.c4, fun o => by rw [World.frozen?_setCell]; exact h.fr o⟩
theorem MS.set1 {W : World} {b : Nat} {l p e t s : Int} (h : MS W b l p e t s) (x : Int) : MS (W.setCell ⟨b, 1, none⟩ (.int .i64 x)) b l x e t s :=
  ⟨by rw [World.size_setCell]; exact h.lt, (MS.oth _ (by omega)).trans h.c0, MS.same h.c1, (MS.oth _ (by omega)).trans h.c2, (MS.oth _ (by omega)).trans h.c3, (MS.oth _ (by omega)).trans h.c4, fun o => by rw [World.frozen?_setCell]; exact h.fr o⟩
theorem MS.set2 {W : World} {b : Nat} {l p e t s : Int} (h : MS W b l p e t s) (x : Int) : MS (W.setCell ⟨b, 2, none⟩ (.int .i64 x)) b l p x t s :=
  ⟨by rw [World.size_setCell]; exact h.lt, (MS.oth _ (by omega)).trans h.c0, (MS.oth _ (by omega)).trans h.c1, MS.same h.c2, (MS.oth _ (by omega)).trans h.c3, (MS.oth _ (by omega)).trans h.c4, fun o => by rw [World.frozen?_setCell]; exact h.fr o⟩
theorem MS.set3 {W : World} {b : Nat} {l p e t s : Int} (h : MS W b l p e t s) (x : Int) : MS (W.setCell ⟨b, 3, none⟩ (.int .i64 x)) b l p e x s :=
  ⟨by rw [World.size_setCell]; exact h.lt, (MS.oth _ (by omega)).trans h.c0, (MS.oth _ (by omega)).trans h.c1, (MS.oth _ (by omega)).trans h.c2, MS.same h.c3, (MS.oth _ (by omega)).trans h.c4, fun o => by rw [World.frozen?_setCell]; exact h.fr o⟩
theorem MS.set4 {W : World} {b : Nat} {l p e t s : Int} (h : MS W b l p e t s) (x : Int) : MS (W.setCell ⟨b, 4, none⟩ (.int .i64 x)) b l p e t x :=
  ⟨by rw [World.size_setCell]; exact h.lt, (MS.oth _ (by omega)).trans h.c0, (MS.oth _ (by omega)).trans h.c1, (MS.oth _ (by omega)).trans h.c2, (MS.oth _ (by omega)).trans h.c3, MS.same h.c4, fun o => by rw [World.frozen?_setCell]; exact h.fr o⟩

/-- A meter, as a value. -/
def mV (b : Nat) : Value := .pointer (some ⟨b, 0, none⟩)
/-- Five numbers, as a value. -/
def tV (l p e t s : Int) : Value := .agg #[.int .i64 l, .int .i64 p, .int .i64 e, .int .i64 t, .int .i64 s]

theorem new_any (w : World) : Calls Tryd.prog 28 #[] w fun e w' => e = .returned (mV w.heap.size) ∧ Below w.heap.size w w' ∧ MS w' w.heap.size 0 0 0 0 0 := by
  unfold mV
  go_enter Tryd.func28, Tryd.ntmps28
  go_wp2
  go_ret
  exact ⟨rfl, (Below.refl _ _).alloc (Nat.le_refl _) _, ⟨by simp, by simp, by simp, by simp, by simp, by simp, fun o => by simp⟩⟩

set_option maxRecDepth 100000 in
theorem tally_at {b : Nat} {l p e t s : Int} (w : World) (h : MS w b l p e t s) :
    Calls Tryd.prog 30 #[mV b] w fun x w' => x = .returned (tV l p e t s) ∧ Below w.heap.size w w' := by
  unfold mV tV
  obtain ⟨lt, c0, c1, c2, c3, c4, fr⟩ := h
  have k : ∀ ob o, (w.alloc ob).cell? ⟨b, o, none⟩ = w.cell? ⟨b, o, none⟩ := fun ob o => World.cell?_alloc_lt w ob ⟨b, o, none⟩ lt
  go_enter Tryd.func30, Tryd.ntmps30
  go_wp2
  refine bodyPost_ret (v := .agg #[.int .i64 l, .int .i64 p, .int .i64 e, .int .i64 t, .int .i64 s]) (by simp [results, Tryd.results30, go_sem, *]) rfl ⟨rfl, ?_⟩
  exact (Below.refl _ _).alloc (Nat.le_refl _) _

theorem live_at {b : Nat} {l p e t s : Int} (w : World) (h : MS w b l p e t s) :
    Calls Tryd.prog 31 #[mV b] w fun x w' => x = .returned (.int .i64 l) ∧ Below w.heap.size w w' := by
  have T := tally_at w h
  clear h
  unfold mV tV at *
  have hf : ∀ W : World, (Instr.field 60 (.agg #[.int .i64 l, .int .i64 p, .int .i64 e, .int .i64 t, .int .i64 s]) 0).run Tryd.prog W = .ok (.int .i64 l) W := fun _ => by kernel_rfl
  go_enter Tryd.func31, Tryd.ntmps31
  go_wp2_with fail
  refine T.mono ?_
  rintro x w1 ⟨rfl, hb⟩
  go_wp2
  go_ret
  exact ⟨rfl, hb⟩

theorem peak_at {b : Nat} {l p e t s : Int} (w : World) (h : MS w b l p e t s) :
    Calls Tryd.prog 32 #[mV b] w fun x w' => x = .returned (.int .i64 p) ∧ Below w.heap.size w w' := by
  have T := tally_at w h
  clear h
  unfold mV tV at *
  have hf : ∀ W : World, (Instr.field 60 (.agg #[.int .i64 l, .int .i64 p, .int .i64 e, .int .i64 t, .int .i64 s]) 1).run Tryd.prog W = .ok (.int .i64 p) W := fun _ => by kernel_rfl
  go_enter Tryd.func32, Tryd.ntmps32
  go_wp2_with fail
  refine T.mono ?_
  rintro x w1 ⟨rfl, hb⟩
  go_wp2
  go_ret
  exact ⟨rfl, hb⟩

/-- So many more, at most the greatest int. -/
def moreI (c n : Int) : Int := if n < 1 then c else if 9223372036854775807 - n < c then 9223372036854775807 else c + n
theorem moreI_lo {c n : Int} (h : 0 ≤ c) : 0 ≤ moreI c n := by unfold moreI; split <;> (try split) <;> omega
theorem moreI_hi {c n : Int} (h : c ≤ 9223372036854775807) : moreI c n ≤ 9223372036854775807 := by unfold moreI; split <;> (try split) <;> omega

theorem more_any {c n : Int} (c0 : 0 ≤ c) (n1 : n ≤ 9223372036854775807) (w : World) :
    Calls Tryd.prog 93 #[.int .i64 c, .int .i64 n] w fun x w' => x = .returned (.int .i64 (moreI c n)) ∧ w' = w := by
  unfold moreI
  by_cases h1 : n < 1
  · rw [if_pos h1]
    clear n1 c0
    go_enter Tryd.func93, Tryd.ntmps93
    go_wp2
    go_ret
    exact ⟨rfl, rfl⟩
  · rw [if_neg h1]
    obtain ⟨d, hd⟩ : ∃ d, d = 9223372036854775807 - n := ⟨_, rfl⟩
    have w1 : IntKind.i64.wrap (9223372036854775807 - n) = d := by
      unfold IntKind.wrap
      simp [IntKind.bits, IntKind.signed]
      omega
    rw [← hd]
    by_cases h2 : d < c
    · rw [if_pos h2]
      clear n1 c0 hd
      go_enter Tryd.func93, Tryd.ntmps93
      go_wp2
      go_ret
      exact ⟨rfl, rfl⟩
    · rw [if_neg h2]
      have w2 : IntKind.i64.wrap (c + n) = c + n := by
        unfold IntKind.wrap
        simp [IntKind.bits, IntKind.signed]
        omega
      clear n1 c0 hd
      go_enter Tryd.func93, Tryd.ntmps93
      go_wp2
      go_ret
      exact ⟨rfl, rfl⟩

/-- The greatest of three. -/
def mx3 (p n l : Int) : Int := max p (max n l)

set_option maxRecDepth 100000 in
theorem raise_at {b : Nat} {l p e t s : Int} (n : Int) (w : World) (h : MS w b l p e t s) :
    Calls Tryd.prog 94 #[mV b, .int .i64 n] w fun x w' => x = .returned (.tuple #[]) ∧ But b w w' ∧ MS w' b l (mx3 p n l) e t s := by
  have M0 : Hid (MS w b l p e t s) := h
  obtain ⟨y, hy⟩ : ∃ y, y = mx3 p n l := ⟨_, rfl⟩
  rw [← hy]
  have HY : Hid (y = max p (max n l)) := hy
  clear hy
  unfold mV
  obtain ⟨lt, c0, c1, c2, c3, c4, fr⟩ := h
  go_enter Tryd.func94, Tryd.ntmps94
  go_wp2
  go_region
  all_goals
    go_wp2
  all_goals
    refine bodyPost_end (v := .tuple #[]) (results_none Tryd.results94 _ _ _) rfl ⟨rfl, ?_⟩
    refine ⟨(But.set b w 1 _).trans (But.drewN b _ 1), ?_⟩
    have q := (M0.out.set1 y).step (Below.refl _ _).drew
    have z := HY.out
    first
      | (rw [show y = l by omega] at q ⊢; exact q)
      | (rw [show y = n by omega] at q ⊢; exact q)
      | (rw [show y = p by omega] at q ⊢; exact q)

set_option maxRecDepth 100000 in
theorem take_at {b : Nat} {l p e t s : Int} {n : Int} (l0 : 0 ≤ l) (n1 : n ≤ 9223372036854775807) (w : World) (h : MS w b l p e t s) :
    Calls Tryd.prog 63 #[mV b, .int .i64 n] w fun x w' => x = .returned (.tuple #[]) ∧ But b w w' ∧ MS w' b (moreI l n) (mx3 p 0 (moreI l n)) e t s := by
  have M0 : Hid (MS w b l p e t s) := h
  have M := fun W => more_any l0 n1 W
  have R := fun W y (h : MS W b y p e t s) => raise_at 0 W h
  generalize moreI l n = y at *
  clear l0 n1
  unfold mV at *
  obtain ⟨lt, c0, c1, c2, c3, c4, fr⟩ := h
  go_enter Tryd.func63, Tryd.ntmps63
  go_wp2_with fail
  refine (M _).mono ?_
  rintro x w1 ⟨rfl, rfl⟩
  go_wp2_with fail
  refine (R _ _ (M0.out.set0 y)).mono ?_
  rintro x w2 ⟨rfl, b2, m2⟩
  go_wp2
  exact bodyPost_end (v := .tuple #[]) (results_none Tryd.results63 _ _ _) rfl ⟨rfl, (But.set b _ 0 _).trans b2, m2⟩

/-- So many fewer, not below 0. -/
def lessI (c n : Int) : Int := if n < 1 then c else max (c - n) 0
theorem lessI_lo {c n : Int} (h : 0 ≤ c) : 0 ≤ lessI c n := by unfold lessI; split <;> omega
theorem lessI_hi {c n : Int} (h : c ≤ 9223372036854775807) (h0 : 0 ≤ c) : lessI c n ≤ 9223372036854775807 := by unfold lessI; split <;> omega

set_option maxRecDepth 100000 in
theorem give_at {b : Nat} {l p e t s : Int} {n : Int} (l0 : 0 ≤ l) (l1 : l ≤ 9223372036854775807) (n1 : n ≤ 9223372036854775807) (w : World) (h : MS w b l p e t s) :
    Calls Tryd.prog 65 #[mV b, .int .i64 n] w fun x w' => x = .returned (.tuple #[]) ∧ But b w w' ∧ MS w' b (lessI l n) p e t s := by
  have M0 : Hid (MS w b l p e t s) := h
  unfold mV at *
  unfold lessI
  obtain ⟨lt, c0, c1, c2, c3, c4, fr⟩ := h
  by_cases h1 : n < 1
  · rw [if_pos h1]
    clear l0 l1 n1
    go_enter Tryd.func65, Tryd.ntmps65
    go_wp2
    first
      | exact bodyPost_ret (v := .tuple #[]) (results_none Tryd.results65 _ _ _) rfl ⟨rfl, But.refl _ _, M0.out⟩
      | exact bodyPost_end (v := .tuple #[]) (results_none Tryd.results65 _ _ _) rfl ⟨rfl, But.refl _ _, M0.out⟩
  · rw [if_neg h1]
    obtain ⟨d, hd⟩ : ∃ d, d = l - n := ⟨_, rfl⟩
    have w1 : IntKind.i64.wrap (l - n) = d := by
      unfold IntKind.wrap
      simp [IntKind.bits, IntKind.signed]
      omega
    rw [← hd]
    obtain ⟨y, hy⟩ : ∃ y, y = max d 0 := ⟨_, rfl⟩
    rw [← hy]
    have HY : Hid (y = max d 0) := hy
    clear hy l0 l1 n1 hd
    go_enter Tryd.func65, Tryd.ntmps65
    go_wp2
    all_goals
      refine bodyPost_end (v := .tuple #[]) (results_none Tryd.results65 _ _ _) rfl ⟨rfl, ?_⟩
      refine ⟨But.set b w 0 _, ?_⟩
      have q := M0.out.set0 y
      have z := HY.out
      first
        | (rw [z] at q ⊢; exact q)
        | (rw [show y = d by omega] at q ⊢; exact q)
        | (rw [show y = 0 by omega] at q ⊢; exact q)

end Go.Proofs.YtladeppjccfbhaaDoor
