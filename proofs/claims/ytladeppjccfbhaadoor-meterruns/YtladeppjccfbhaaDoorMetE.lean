/-
  An act told to a meter, and by the rules: do.
-/
import Derived.Test.YtladeppjccfbhaaDoorMetD
namespace Go.Proofs.YtladeppjccfbhaaDoor
open Go.RowKit

/-- An act, as a value. -/
def aV (k n l p e t s : Int) : Value := .agg #[.int .i64 k, .int .i64 n, .int .i64 l, .int .i64 p, .int .i64 e, .int .i64 t, .int .i64 s]
/-- An act in a box. -/
structure AC (W : World) (b : Nat) (k n l p e t s : Int) : Prop where
  lt : b < W.heap.size
  c0 : W.cell? ⟨b, 0, none⟩ = some (.int .i64 k)
  c1 : W.cell? ⟨b, 1, none⟩ = some (.int .i64 n)
  c2 : W.cell? ⟨b, 2, none⟩ = some (.int .i64 l)
  c3 : W.cell? ⟨b, 3, none⟩ = some (.int .i64 p)
  c4 : W.cell? ⟨b, 4, none⟩ = some (.int .i64 e)
  c5 : W.cell? ⟨b, 5, none⟩ = some (.int .i64 t)
  c6 : W.cell? ⟨b, 6, none⟩ = some (.int .i64 s)
theorem AC.but {W W' : World} {q b : Nat} {k n l p e t s : Int} (h : AC W q k n l p e t s) (hb : But b W W') (hn : q ≠ b) : AC W' q k n l p e t s := by
  have c : ∀ o, W'.cell? ⟨q, o, none⟩ = W.cell? ⟨q, o, none⟩ := fun o => hb.cell (p := ⟨q, o, none⟩) h.lt hn
  exact ⟨Nat.lt_of_lt_of_le h.lt hb.size, (c 0).trans h.c0, (c 1).trans h.c1, (c 2).trans h.c2, (c 3).trans h.c3, (c 4).trans h.c4, (c 5).trans h.c5, (c 6).trans h.c6⟩
theorem MS.but {W W' : World} {q b : Nat} {l p e t s : Int} (h : MS W q l p e t s) (hb : But b W W') (hn : q ≠ b) : MS W' q l p e t s := by
  have k : ∀ o, W'.cell? ⟨q, o, none⟩ = W.cell? ⟨q, o, none⟩ := fun o => hb.cell (p := ⟨q, o, none⟩) h.lt hn
  exact ⟨Nat.lt_of_lt_of_le h.lt hb.size, (k 0).trans h.c0, (k 1).trans h.c1, (k 2).trans h.c2, (k 3).trans h.c3, (k 4).trans h.c4, fun o => (hb.frozen (p := ⟨q, o, none⟩) h.lt hn).trans (h.fr o)⟩
theorem But.put {b q : Nat} {w W : World} (h : But b w W) (hq : w.heap.size ≤ q) (o : Nat) (v : Value) : But b w (W.setCell ⟨q, o, none⟩ v) :=
  ⟨h.os, h.tape, h.output, by rw [World.size_setCell]; exact h.size, fun k hk hn => (Below.heap_setCell _ _ _ _ (by show k ≠ q; omega)).trans (h.block k hk hn)⟩

/-- The boxes of do. -/
structure DoB (b : Nat) (w W : World) (l p e t s k n l2 p2 e2 t2 s2 : Int) : Prop where
  bt : But b w W
  T : MS W w.heap.size l p e t s
  A : AC W (w.heap.size + 1) k n l2 p2 e2 t2 s2
  R : MS W (w.heap.size + 2) 0 0 0 0 0
theorem DoB.step {b : Nat} {w W W' : World} {l p e t s k n l2 p2 e2 t2 s2 : Int} (h : DoB b w W l p e t s k n l2 p2 e2 t2 s2) (hb : But b W W') (n0 : w.heap.size ≠ b) (n1 : w.heap.size + 1 ≠ b) (n2 : w.heap.size + 2 ≠ b) : DoB b w W' l p e t s k n l2 p2 e2 t2 s2 :=
  ⟨h.bt.trans hb, h.T.but hb n0, h.A.but hb n1, h.R.but hb n2⟩
theorem MS.new (w : World) (l p e t s : Int) (ty : TypeId) : MS (w.alloc (.cells #[.int .i64 l, .int .i64 p, .int .i64 e, .int .i64 t, .int .i64 s] ty)) w.heap.size l p e t s :=
  ⟨by simp, by simp, by simp, by simp, by simp, by simp, fun o => by simp⟩
theorem AC.new (w : World) (k n l p e t s : Int) (ty : TypeId) : AC (w.alloc (.cells #[.int .i64 k, .int .i64 n, .int .i64 l, .int .i64 p, .int .i64 e, .int .i64 t, .int .i64 s] ty)) w.heap.size k n l p e t s :=
  ⟨by simp, by simp, by simp, by simp, by simp, by simp, by simp, by simp⟩
theorem DoB.start (b : Nat) (w : World) (l p e t s k n l2 p2 e2 t2 s2 : Int) : DoB b w (((w.alloc (.cells #[.int .i64 l, .int .i64 p, .int .i64 e, .int .i64 t, .int .i64 s] 56)).alloc (.cells #[.int .i64 k, .int .i64 n, .int .i64 l2, .int .i64 p2, .int .i64 e2, .int .i64 t2, .int .i64 s2] 59)).alloc (.cells #[.int .i64 0, .int .i64 0, .int .i64 0, .int .i64 0, .int .i64 0] 56)) l p e t s k n l2 p2 e2 t2 s2 := by
  have z1 : ∀ ob, (w.alloc ob).heap.size = w.heap.size + 1 := fun ob => by simp
  have z2 : ∀ ob oc, ((w.alloc ob).alloc oc).heap.size = w.heap.size + 2 := fun ob oc => by simp
  have a := (AC.new (w.alloc (.cells #[.int .i64 l, .int .i64 p, .int .i64 e, .int .i64 t, .int .i64 s] 56)) k n l2 p2 e2 t2 s2 59).but (b := w.heap.size) (But.of ((Below.refl _ _).alloc (Nat.le_refl _) (.cells #[.int .i64 0, .int .i64 0, .int .i64 0, .int .i64 0, .int .i64 0] 56))) (by rw [z1]; omega)
  rw [z1] at a
  have r := MS.new ((w.alloc (.cells #[.int .i64 l, .int .i64 p, .int .i64 e, .int .i64 t, .int .i64 s] 56)).alloc (.cells #[.int .i64 k, .int .i64 n, .int .i64 l2, .int .i64 p2, .int .i64 e2, .int .i64 t2, .int .i64 s2] 59)) 0 0 0 0 0 56
  rw [z2] at r
  exact ⟨But.of ((((Below.refl _ _).alloc (Nat.le_refl _) _).alloc (by simp) _).alloc (by simp; omega) _),
    (MS.new w l p e t s 56).step (((Below.refl _ _).alloc (Nat.le_refl _) _).alloc (by simp) _), a, r⟩

theorem TI.take {l p e t s : Int} (h : TI l p e t s) (n : Int) : TI (moreI l n) (mx3 p 0 (moreI l n)) e t s :=
  have a := moreI_lo (n := n) h.l0
  have b := moreI_hi (n := n) (Int.le_trans h.lp h.p1)
  ⟨a, by unfold mx3; omega, by have := h.p1; unfold mx3; omega, h.e0, h.e1, h.t0, h.t1, h.s0, h.s1⟩
theorem TI.give {l p e t s : Int} (h : TI l p e t s) (n : Int) : TI (lessI l n) p e t s :=
  ⟨lessI_lo h.l0, by have := h.lp; have := h.l0; unfold lessI; split <;> omega, h.p1, h.e0, h.e1, h.t0, h.t1, h.s0, h.s1⟩
theorem TI.road {l p e t s : Int} (h : TI l p e t s) (k : Int) : TI l p (if k = 1 then moreI e 1 else e) (if k = 2 then moreI t 1 else t) (if k = 3 then moreI s 1 else s) :=
  ⟨h.l0, h.lp, h.p1, by split; exact moreI_lo h.e0; exact h.e0, by split; exact moreI_hi h.e1; exact h.e1, by split; exact moreI_lo h.t0; exact h.t0, by split; exact moreI_hi h.t1; exact h.t1, by split; exact moreI_lo h.s0; exact h.s0, by split; exact moreI_hi h.s1; exact h.s1⟩
theorem TI.add {l p e t s l2 p2 e2 t2 s2 : Int} (h : TI l p e t s) (hp : p2 ≤ 9223372036854775807) : TI (moreI l l2) (mx3 p p2 (moreI l l2)) (moreI e e2) (moreI t t2) (moreI s s2) :=
  have b := moreI_hi (n := l2) (Int.le_trans h.lp h.p1)
  ⟨moreI_lo h.l0, by unfold mx3; omega, by have := h.p1; unfold mx3; omega, moreI_lo h.e0, moreI_hi h.e1, moreI_lo h.t0, moreI_hi h.t1, moreI_lo h.s0, moreI_hi h.s1⟩
theorem TI.zero : TI 0 0 0 0 0 := ⟨by decide, by decide, by decide, by decide, by decide, by decide, by decide, by decide, by decide⟩

set_option maxRecDepth 100000 in
set_option maxHeartbeats 4000000 in
theorem do_of {m : Value} {b : Nat} {l p e t s k n l2 p2 e2 t2 s2 : Int} (h : TI l p e t s) (hn : n ≤ 9223372036854775807) (hl : l2 ≤ 9223372036854775807) (hp : p2 ≤ 9223372036854775807) (he : e2 ≤ 9223372036854775807) (ht : t2 ≤ 9223372036854775807) (hs : s2 ≤ 9223372036854775807)
    (w : World) (n0 : w.heap.size ≠ b) (n1 : w.heap.size + 1 ≠ b) (n2 : w.heap.size + 2 ≠ b)
    (Z : World → Int → Int → Int → Int → Int → Prop) (z : Z w l p e t s)
    (Zs : ∀ W W' l p e t s, Z W l p e t s → Below w.heap.size W W' → Z W' l p e t s)
    (C0 : ∀ W, Z W l p e t s → Calls Tryd.prog 63 #[m, .int .i64 n] W fun x w' => x = .returned (.tuple #[]) ∧ But b W w' ∧ Z w' (moreI l n) (mx3 p 0 (moreI l n)) e t s)
    (C1 : ∀ W, Z W l p e t s → Calls Tryd.prog 65 #[m, .int .i64 n] W fun x w' => x = .returned (.tuple #[]) ∧ But b W w' ∧ Z w' (lessI l n) p e t s)
    (C2 : ∀ j W, Z W l p e t s → Calls Tryd.prog 67 #[m, .int .i64 j] W fun x w' => x = .returned (.tuple #[]) ∧ But b W w' ∧ Z w' l p (if j = 1 then moreI e 1 else e) (if j = 2 then moreI t 1 else t) (if j = 3 then moreI s 1 else s))
    (C3 : ∀ W, Z W l p e t s → Calls Tryd.prog 69 #[m, tV l2 p2 e2 t2 s2] W fun x w' => x = .returned (.tuple #[]) ∧ But b W w' ∧ Z w' (moreI l l2) (mx3 p p2 (moreI l l2)) (moreI e e2) (moreI t t2) (moreI s s2))
    (C4 : ∀ W, Z W l p e t s → Calls Tryd.prog 37 #[m] W fun x w' => (∃ v, x = .returned v) ∧ But b W w' ∧ Z w' 0 0 0 0 0) :
    Calls Tryd.prog 29 #[m, tV l p e t s, aV k n l2 p2 e2 t2 s2] w fun x w' => ∃ l' p' e' t' s', x = .returned (tV l' p' e' t' s') ∧ But b w w' ∧ TI l' p' e' t' s' ∧ Z w' l' p' e' t' s' := by
  have D0 : Hid (DoB b w _ l p e t s k n l2 p2 e2 t2 s2) := DoB.start b w l p e t s k n l2 p2 e2 t2 s2
  have Z0 : Hid (Z (((w.alloc (.cells #[.int .i64 l, .int .i64 p, .int .i64 e, .int .i64 t, .int .i64 s] 56)).alloc (.cells #[.int .i64 k, .int .i64 n, .int .i64 l2, .int .i64 p2, .int .i64 e2, .int .i64 t2, .int .i64 s2] 59)).alloc (.cells #[.int .i64 0, .int .i64 0, .int .i64 0, .int .i64 0, .int .i64 0] 56)) l p e t s) :=
    Zs _ _ _ _ _ _ _ z ((((Below.refl _ _).alloc (Nat.le_refl _) _).alloc (by simp) _).alloc (by simp; omega) _)
  have RT := fun W => rtake_any h hn W
  have RG := fun W => rgive_any h hn W
  have RR := fun j W => rroad_any (k := j) h W
  have RA := fun W => radd_any (p2 := p2) h hl he ht hs W
  have T0 : Hid (TI (moreI l n) (mx3 p 0 (moreI l n)) e t s) := h.take n
  have T1 : Hid (TI (lessI l n) p e t s) := h.give n
  have T2 : Hid (∀ j : Int, TI l p (if j = 1 then moreI e 1 else e) (if j = 2 then moreI t 1 else t) (if j = 3 then moreI s 1 else s)) := fun j => h.road j
  have T3 : Hid (TI (moreI l l2) (mx3 p p2 (moreI l l2)) (moreI e e2) (moreI t t2) (moreI s s2)) := h.add hp
  have HZs : Hid (∀ W W' l p e t s, Z W l p e t s → Below w.heap.size W W' → Z W' l p e t s) := Zs
  have N0 : Hid (w.heap.size ≠ b) := n0
  have N1 : Hid (w.heap.size + 1 ≠ b) := n1
  have N2 : Hid (w.heap.size + 2 ≠ b) := n2
  clear Zs n0 n1 n2 z h hn hl hp he ht hs
  generalize moreI l n = yl at *
  generalize mx3 p 0 yl = yp at *
  generalize lessI l n = yg at *
  generalize moreI l l2 = ya at *
  generalize mx3 p p2 ya = yb at *
  generalize moreI e e2 = yc at *
  generalize moreI t t2 = yd at *
  generalize moreI s s2 = ye at *
  obtain ⟨r, hr⟩ : ∃ r, (wrap64 (k.tmod 5 + 5)).tmod 5 = r := ⟨_, rfl⟩
  unfold aV tV at *
  by_cases h0 : r = 0
  · subst h0
    go_enter Tryd.func29, Tryd.ntmps29
    go_wp2_with fail
    refine (C0 _ Z0.out).mono ?_
    rintro x w1 ⟨rfl, b1, z1⟩
    have D1 : Hid (DoB b w w1 l p e t s k n l2 p2 e2 t2 s2) := D0.out.step b1 N0.out N1.out N2.out
    have Z1 : Hid (Z w1 yl yp e t s) := z1
    clear b1 z1
    obtain ⟨_, xt0, xt1, xt2, xt3, xt4, _⟩ := D1.out.T
    obtain ⟨_, xa0, xa1, xa2, xa3, xa4, xa5, xa6⟩ := D1.out.A
    obtain ⟨_, xr0, xr1, xr2, xr3, xr4, xf⟩ := D1.out.R
    go_wp2_with fail
    refine (RT _).mono ?_
    rintro x w2 ⟨rfl, b2⟩
    clear xt0 xt1 xt2 xt3 xt4 xa0 xa1 xa2 xa3 xa4 xa5 xa6 xr0 xr1 xr2 xr3 xr4 xf
    have D2 : Hid (DoB b w w2 l p e t s k n l2 p2 e2 t2 s2) := D1.out.step (But.of b2) N0.out N1.out N2.out
    have Z2 : Hid (Z w2 yl yp e t s) := HZs.out _ _ _ _ _ _ _ Z1.out (b2.mono D1.out.bt.size)
    clear b2
    obtain ⟨_, xt0, xt1, xt2, xt3, xt4, _⟩ := D2.out.T
    obtain ⟨_, xa0, xa1, xa2, xa3, xa4, xa5, xa6⟩ := D2.out.A
    obtain ⟨_, xr0, xr1, xr2, xr3, xr4, xf⟩ := D2.out.R
    go_wp2
    refine bodyPost_ret (v := .agg #[.int .i64 yl, .int .i64 yp, .int .i64 e, .int .i64 t, .int .i64 s]) (by simp [results, Tryd.results29, go_sem, *]) rfl ⟨yl, yp, e, t, s, rfl, ?_, T0.out, ?_⟩
    · exact ((((D2.out.bt.put (Nat.le_add_right _ 2) _ _).put (Nat.le_add_right _ 2) _ _).put (Nat.le_add_right _ 2) _ _).put (Nat.le_add_right _ 2) _ _).put (Nat.le_add_right _ 2) _ _
    · exact HZs.out w2 _ _ _ _ _ _ Z2.out ((((((Below.refl _ _).setCell (Nat.le_add_right _ 2) _).setCell (Nat.le_add_right _ 2) _).setCell (Nat.le_add_right _ 2) _).setCell (Nat.le_add_right _ 2) _).setCell (Nat.le_add_right _ 2) _)
  · by_cases h1 : r = 1
    · subst h1
      go_enter Tryd.func29, Tryd.ntmps29
      go_wp2_with fail
      refine (C1 _ Z0.out).mono ?_
      rintro x w1 ⟨rfl, b1, z1⟩
      have D1 : Hid (DoB b w w1 l p e t s k n l2 p2 e2 t2 s2) := D0.out.step b1 N0.out N1.out N2.out
      have Z1 : Hid (Z w1 yg p e t s) := z1
      clear b1 z1
      obtain ⟨_, xt0, xt1, xt2, xt3, xt4, _⟩ := D1.out.T
      obtain ⟨_, xa0, xa1, xa2, xa3, xa4, xa5, xa6⟩ := D1.out.A
      obtain ⟨_, xr0, xr1, xr2, xr3, xr4, xf⟩ := D1.out.R
      go_wp2_with fail
      refine (RG _).mono ?_
      rintro x w2 ⟨rfl, b2⟩
      clear xt0 xt1 xt2 xt3 xt4 xa0 xa1 xa2 xa3 xa4 xa5 xa6 xr0 xr1 xr2 xr3 xr4 xf
      have D2 : Hid (DoB b w w2 l p e t s k n l2 p2 e2 t2 s2) := D1.out.step (But.of b2) N0.out N1.out N2.out
      have Z2 : Hid (Z w2 yg p e t s) := HZs.out _ _ _ _ _ _ _ Z1.out (b2.mono D1.out.bt.size)
      clear b2
      obtain ⟨_, xt0, xt1, xt2, xt3, xt4, _⟩ := D2.out.T
      obtain ⟨_, xa0, xa1, xa2, xa3, xa4, xa5, xa6⟩ := D2.out.A
      obtain ⟨_, xr0, xr1, xr2, xr3, xr4, xf⟩ := D2.out.R
      go_wp2
      refine bodyPost_ret (v := .agg #[.int .i64 yg, .int .i64 p, .int .i64 e, .int .i64 t, .int .i64 s]) (by simp [results, Tryd.results29, go_sem, *]) rfl ⟨yg, p, e, t, s, rfl, ?_, T1.out, ?_⟩
      · exact ((((D2.out.bt.put (Nat.le_add_right _ 2) _ _).put (Nat.le_add_right _ 2) _ _).put (Nat.le_add_right _ 2) _ _).put (Nat.le_add_right _ 2) _ _).put (Nat.le_add_right _ 2) _ _
      · exact HZs.out w2 _ _ _ _ _ _ Z2.out ((((((Below.refl _ _).setCell (Nat.le_add_right _ 2) _).setCell (Nat.le_add_right _ 2) _).setCell (Nat.le_add_right _ 2) _).setCell (Nat.le_add_right _ 2) _).setCell (Nat.le_add_right _ 2) _)
    · by_cases h2 : r = 2
      · subst h2
        have CR := C2 (n)
        have RJ := RR (n)
        have TJ : Hid _ := T2.out (n)
        generalize (if (n) = 1 then moreI e 1 else e) = e1 at *
        generalize (if (n) = 2 then moreI t 1 else t) = t1 at *
        generalize (if (n) = 3 then moreI s 1 else s) = s1 at *
        go_enter Tryd.func29, Tryd.ntmps29
        go_wp2_with fail
        refine (CR _ Z0.out).mono ?_
        rintro x w1 ⟨rfl, b1, z1⟩
        have D1 : Hid (DoB b w w1 l p e t s k n l2 p2 e2 t2 s2) := D0.out.step b1 N0.out N1.out N2.out
        have Z1 : Hid (Z w1 l p e1 t1 s1) := z1
        clear b1 z1
        obtain ⟨_, xt0, xt1, xt2, xt3, xt4, _⟩ := D1.out.T
        obtain ⟨_, xa0, xa1, xa2, xa3, xa4, xa5, xa6⟩ := D1.out.A
        obtain ⟨_, xr0, xr1, xr2, xr3, xr4, xf⟩ := D1.out.R
        go_wp2_with fail
        refine (RJ _).mono ?_
        rintro x w2 ⟨rfl, b2⟩
        clear xt0 xt1 xt2 xt3 xt4 xa0 xa1 xa2 xa3 xa4 xa5 xa6 xr0 xr1 xr2 xr3 xr4 xf
        have D2 : Hid (DoB b w w2 l p e t s k n l2 p2 e2 t2 s2) := D1.out.step (But.of b2) N0.out N1.out N2.out
        have Z2 : Hid (Z w2 l p e1 t1 s1) := HZs.out _ _ _ _ _ _ _ Z1.out (b2.mono D1.out.bt.size)
        clear b2
        obtain ⟨_, xt0, xt1, xt2, xt3, xt4, _⟩ := D2.out.T
        obtain ⟨_, xa0, xa1, xa2, xa3, xa4, xa5, xa6⟩ := D2.out.A
        obtain ⟨_, xr0, xr1, xr2, xr3, xr4, xf⟩ := D2.out.R
        go_wp2
        refine bodyPost_ret (v := .agg #[.int .i64 l, .int .i64 p, .int .i64 e1, .int .i64 t1, .int .i64 s1]) (by simp [results, Tryd.results29, go_sem, *]) rfl ⟨l, p, e1, t1, s1, rfl, ?_, TJ.out, ?_⟩
        · exact ((((D2.out.bt.put (Nat.le_add_right _ 2) _ _).put (Nat.le_add_right _ 2) _ _).put (Nat.le_add_right _ 2) _ _).put (Nat.le_add_right _ 2) _ _).put (Nat.le_add_right _ 2) _ _
        · exact HZs.out w2 _ _ _ _ _ _ Z2.out ((((((Below.refl _ _).setCell (Nat.le_add_right _ 2) _).setCell (Nat.le_add_right _ 2) _).setCell (Nat.le_add_right _ 2) _).setCell (Nat.le_add_right _ 2) _).setCell (Nat.le_add_right _ 2) _)
      · by_cases h3 : r = 3
        · subst h3
          go_enter Tryd.func29, Tryd.ntmps29
          go_wp2_with fail
          refine (C3 _ Z0.out).mono ?_
          rintro x w1 ⟨rfl, b1, z1⟩
          have D1 : Hid (DoB b w w1 l p e t s k n l2 p2 e2 t2 s2) := D0.out.step b1 N0.out N1.out N2.out
          have Z1 : Hid (Z w1 ya yb yc yd ye) := z1
          clear b1 z1
          obtain ⟨_, xt0, xt1, xt2, xt3, xt4, _⟩ := D1.out.T
          obtain ⟨_, xa0, xa1, xa2, xa3, xa4, xa5, xa6⟩ := D1.out.A
          obtain ⟨_, xr0, xr1, xr2, xr3, xr4, xf⟩ := D1.out.R
          go_wp2_with fail
          refine (RA _).mono ?_
          rintro x w2 ⟨rfl, b2⟩
          clear xt0 xt1 xt2 xt3 xt4 xa0 xa1 xa2 xa3 xa4 xa5 xa6 xr0 xr1 xr2 xr3 xr4 xf
          have D2 : Hid (DoB b w w2 l p e t s k n l2 p2 e2 t2 s2) := D1.out.step (But.of b2) N0.out N1.out N2.out
          have Z2 : Hid (Z w2 ya yb yc yd ye) := HZs.out _ _ _ _ _ _ _ Z1.out (b2.mono D1.out.bt.size)
          clear b2
          obtain ⟨_, xt0, xt1, xt2, xt3, xt4, _⟩ := D2.out.T
          obtain ⟨_, xa0, xa1, xa2, xa3, xa4, xa5, xa6⟩ := D2.out.A
          obtain ⟨_, xr0, xr1, xr2, xr3, xr4, xf⟩ := D2.out.R
          go_wp2
          refine bodyPost_ret (v := .agg #[.int .i64 ya, .int .i64 yb, .int .i64 yc, .int .i64 yd, .int .i64 ye]) (by simp [results, Tryd.results29, go_sem, *]) rfl ⟨ya, yb, yc, yd, ye, rfl, ?_, T3.out, ?_⟩
          · exact ((((D2.out.bt.put (Nat.le_add_right _ 2) _ _).put (Nat.le_add_right _ 2) _ _).put (Nat.le_add_right _ 2) _ _).put (Nat.le_add_right _ 2) _ _).put (Nat.le_add_right _ 2) _ _
          · exact HZs.out w2 _ _ _ _ _ _ Z2.out ((((((Below.refl _ _).setCell (Nat.le_add_right _ 2) _).setCell (Nat.le_add_right _ 2) _).setCell (Nat.le_add_right _ 2) _).setCell (Nat.le_add_right _ 2) _).setCell (Nat.le_add_right _ 2) _)
        · by_cases h7 : n.tmod 7 = 0
          · have r0 : (r == 0) = false := by simpa using h0
            have r1 : (r == 1) = false := by simpa using h1
            have r2 : (r == 2) = false := by simpa using h2
            have r3 : (r == 3) = false := by simpa using h3
            go_enter Tryd.func29, Tryd.ntmps29
            go_wp2_with fail
            refine (C4 _ Z0.out).mono ?_
            rintro x w1 ⟨⟨_, rfl⟩, b1, z1⟩
            have D1 : Hid (DoB b w w1 l p e t s k n l2 p2 e2 t2 s2) := D0.out.step b1 N0.out N1.out N2.out
            have Z1 : Hid (Z w1 0 0 0 0 0) := z1
            clear b1 z1
            obtain ⟨_, xt0, xt1, xt2, xt3, xt4, _⟩ := D1.out.T
            obtain ⟨_, xa0, xa1, xa2, xa3, xa4, xa5, xa6⟩ := D1.out.A
            obtain ⟨_, xr0, xr1, xr2, xr3, xr4, xf⟩ := D1.out.R
            go_wp2
            refine bodyPost_ret (v := .agg #[.int .i64 0, .int .i64 0, .int .i64 0, .int .i64 0, .int .i64 0]) (by simp [results, Tryd.results29, go_sem, *]) rfl ⟨0, 0, 0, 0, 0, rfl, ?_, TI.zero, ?_⟩
            · exact ((((D1.out.bt.put (Nat.le_add_right _ 2) _ _).put (Nat.le_add_right _ 2) _ _).put (Nat.le_add_right _ 2) _ _).put (Nat.le_add_right _ 2) _ _).put (Nat.le_add_right _ 2) _ _
            · exact HZs.out w1 _ _ _ _ _ _ Z1.out ((((((Below.refl _ _).setCell (Nat.le_add_right _ 2) _).setCell (Nat.le_add_right _ 2) _).setCell (Nat.le_add_right _ 2) _).setCell (Nat.le_add_right _ 2) _).setCell (Nat.le_add_right _ 2) _)
          · have r0 : (r == 0) = false := by simpa using h0
            have r1 : (r == 1) = false := by simpa using h1
            have r2 : (r == 2) = false := by simpa using h2
            have r3 : (r == 3) = false := by simpa using h3
            have r7 : (n.tmod 7 == 0) = false := by simpa using h7
            have CR := C2 (n.tmod 4)
            have RJ := RR (n.tmod 4)
            have TJ : Hid _ := T2.out (n.tmod 4)
            generalize (if (n.tmod 4) = 1 then moreI e 1 else e) = e1 at *
            generalize (if (n.tmod 4) = 2 then moreI t 1 else t) = t1 at *
            generalize (if (n.tmod 4) = 3 then moreI s 1 else s) = s1 at *
            go_enter Tryd.func29, Tryd.ntmps29
            go_wp2_with fail
            refine (CR _ Z0.out).mono ?_
            rintro x w1 ⟨rfl, b1, z1⟩
            have D1 : Hid (DoB b w w1 l p e t s k n l2 p2 e2 t2 s2) := D0.out.step b1 N0.out N1.out N2.out
            have Z1 : Hid (Z w1 l p e1 t1 s1) := z1
            clear b1 z1
            obtain ⟨_, xt0, xt1, xt2, xt3, xt4, _⟩ := D1.out.T
            obtain ⟨_, xa0, xa1, xa2, xa3, xa4, xa5, xa6⟩ := D1.out.A
            obtain ⟨_, xr0, xr1, xr2, xr3, xr4, xf⟩ := D1.out.R
            go_wp2_with fail
            refine (RJ _).mono ?_
            rintro x w2 ⟨rfl, b2⟩
            clear xt0 xt1 xt2 xt3 xt4 xa0 xa1 xa2 xa3 xa4 xa5 xa6 xr0 xr1 xr2 xr3 xr4 xf
            have D2 : Hid (DoB b w w2 l p e t s k n l2 p2 e2 t2 s2) := D1.out.step (But.of b2) N0.out N1.out N2.out
            have Z2 : Hid (Z w2 l p e1 t1 s1) := HZs.out _ _ _ _ _ _ _ Z1.out (b2.mono D1.out.bt.size)
            clear b2
            obtain ⟨_, xt0, xt1, xt2, xt3, xt4, _⟩ := D2.out.T
            obtain ⟨_, xa0, xa1, xa2, xa3, xa4, xa5, xa6⟩ := D2.out.A
            obtain ⟨_, xr0, xr1, xr2, xr3, xr4, xf⟩ := D2.out.R
            go_wp2
            refine bodyPost_ret (v := .agg #[.int .i64 l, .int .i64 p, .int .i64 e1, .int .i64 t1, .int .i64 s1]) (by simp [results, Tryd.results29, go_sem, *]) rfl ⟨l, p, e1, t1, s1, rfl, ?_, TJ.out, ?_⟩
            · exact ((((D2.out.bt.put (Nat.le_add_right _ 2) _ _).put (Nat.le_add_right _ 2) _ _).put (Nat.le_add_right _ 2) _ _).put (Nat.le_add_right _ 2) _ _).put (Nat.le_add_right _ 2) _ _
            · exact HZs.out w2 _ _ _ _ _ _ Z2.out ((((((Below.refl _ _).setCell (Nat.le_add_right _ 2) _).setCell (Nat.le_add_right _ 2) _).setCell (Nat.le_add_right _ 2) _).setCell (Nat.le_add_right _ 2) _).setCell (Nat.le_add_right _ 2) _)

end Go.Proofs.YtladeppjccfbhaaDoor
