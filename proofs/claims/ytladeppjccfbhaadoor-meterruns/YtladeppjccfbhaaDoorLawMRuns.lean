/-
  The statement MeterRuns: for every row of acts and every kind the call of MeterRuns returns true, where the table of the powers of ten lies.
-/
import Derived.Test.YtladeppjccfbhaaDoorMetG
import Derived.OpenShut
import Derived.Lib.SliceRun
import Derived.Deep.LoopGhost
import Derived.WalkMore
namespace Go.Proofs.YtladeppjccfbhaaDoor
open Go.RowKit

theorem MS.bel {W W' : World} {b B : Nat} {l p e t s : Int} (h : MS W b l p e t s) (hb : Below B W W') (hB : b < B) : MS W' b l p e t s := by
  have k : ∀ o, W'.cell? ⟨b, o, none⟩ = W.cell? ⟨b, o, none⟩ := fun o => hb.cell (p := ⟨b, o, none⟩) hB
  exact ⟨Nat.lt_of_lt_of_le h.lt hb.size, (k 0).trans h.c0, (k 1).trans h.c1, (k 2).trans h.c2, (k 3).trans h.c3, (k 4).trans h.c4, fun o => (hb.frozen (p := ⟨b, o, none⟩) hB).trans (h.fr o)⟩

theorem do_at {b : Nat} {l p e t s k n l2 p2 e2 t2 s2 : Int} (h : TI l p e t s) (hn : n ≤ 9223372036854775807) (hl : l2 ≤ 9223372036854775807) (hp : p2 ≤ 9223372036854775807) (he : e2 ≤ 9223372036854775807) (ht : t2 ≤ 9223372036854775807) (hs : s2 ≤ 9223372036854775807) (w : World) (m : MS w b l p e t s) :
    Calls Tryd.prog 29 #[mV b, tV l p e t s, aV k n l2 p2 e2 t2 s2] w fun x w' => ∃ l' p' e' t' s', x = .returned (tV l' p' e' t' s') ∧ But b w w' ∧ TI l' p' e' t' s' ∧ MS w' b l' p' e' t' s' := by
  have lt := m.lt
  refine do_of (m := mV b) (b := b) h hn hl hp he ht hs w (by omega) (by omega) (by omega) (fun W l p e t s => MS W b l p e t s) m (fun W W' _ _ _ _ _ a c => a.bel c lt)
    (fun W h' => take_at h.l0 hn W h') (fun W h' => give_at h.l0 (Int.le_trans h.lp h.p1) hn W h') (fun j W h' => Road_at j h.e0 h.t0 h.s0 W h') (fun W h' => add_at h hl he ht hs W h') (fun W h' => (reset_at W h').mono ?_)
  rintro x w' ⟨rfl, a, c⟩
  exact ⟨⟨_, rfl⟩, a, c⟩

theorem count_bel {b : Nat} {l p e t s : Int} (k : Int) (w : World) (h : MS w b l p e t s) :
    Calls Tryd.prog 33 #[mV b, .int .i64 k] w fun x w' => x = .returned (.int .i64 (cntI e t s k)) ∧ Below w.heap.size w w' := by
  refine (count_at k w h).mono ?_
  rintro x w' ⟨rfl, h'⟩
  exact ⟨rfl, by rw [h']; exact Below.refl _ _⟩

/-- A slice of acts in memory. -/
structure SlA (w : World) (ao : Option Addr) (n c : Nat) (b o : Nat) (f : Nat → Nat → Int) : Prop where
  le : n ≤ c
  cap : c ≤ maxLen
  addr : 0 < n → ao = some ⟨b, o, none⟩
  blk : 0 < n → b < w.heap.size
  cell : ∀ i j, i < n → j < 7 → w.cell? ⟨b, o + i * 7 + j, none⟩ = some (.int .i64 (f i j))
  hi : ∀ i j, i < n → j < 7 → f i j ≤ 9223372036854775807

set_option maxRecDepth 100000 in
set_option maxHeartbeats 4000000 in
theorem law_mruns {ao : Option Addr} {n c b o : Nat} {f : Nat → Nat → Int} {kd : Int} (w : World) (S : SlA w ao n c b o f) (hP : PowB w.heap.size w) :
    Calls Tryd.prog 7 #[.slice ao n c, .int .i64 kd] w fun x w' => x = .returned (.bool true) ∧ Below w.heap.size w w' := by
  have HS : Hid (SlA w ao n c b o f) := S
  have HPo : Hid (PowB w.heap.size w) := hP
  clear S hP
  go_enter Tryd.func7, Tryd.ntmps7
  go_wp2_with fail
  refine (new_any _).mono ?_
  unfold mV
  rintro x w1 ⟨rfl, b1, m1⟩
  obtain ⟨q, hq⟩ : ∃ q, w1.heap.size = q := ⟨_, rfl⟩
  have QL : Hid (w.heap.size < q) := by show w.heap.size < q; rw [← hq]; exact m1.lt
  have A1 : Hid (MS (w1.alloc (.cells #[.int .i64 0, .int .i64 0, .int .i64 0, .int .i64 0, .int .i64 0] 56)) q 0 0 0 0 0) := hq ▸ MS.new w1 0 0 0 0 0 56
  have M1 : Hid (MS (w1.alloc (.cells #[.int .i64 0, .int .i64 0, .int .i64 0, .int .i64 0, .int .i64 0] 56)) w.heap.size 0 0 0 0 0) := m1.step ((Below.refl _ _).alloc (Nat.le_refl _) _)
  have B1 : Hid (Below w.heap.size w (w1.alloc (.cells #[.int .i64 0, .int .i64 0, .int .i64 0, .int .i64 0, .int .i64 0] 56))) := b1.alloc b1.size _
  clear m1 b1
  go_wp2
  clear hq
  go_loopw [7] (fun v7 wr => ∃ (k : Nat) (l p e t s : Int), v7 = .int .i64 (k : Int) ∧ k ≤ n ∧ TI l p e t s ∧ MS wr w.heap.size l p e t s ∧ MS wr q l p e t s ∧ Below w.heap.size w wr) (fun i _ => n - (intOf i).toNat)
  case atStart => exact ⟨0, 0, 0, 0, 0, 0, rfl, Nat.zero_le _, TI.zero, M1.out, A1.out, B1.out⟩
  case round =>
    obtain ⟨k, l, p, e, t, s, rfl, hk, ti, m2, a2, b2⟩ := hrel
    have TI2 : Hid (TI l p e t s) := ti
    have M2 : Hid (MS wr w.heap.size l p e t s) := m2
    have A2 : Hid (MS wr q l p e t s) := a2
    have B2 : Hid (Below w.heap.size w wr) := b2
    have HK : Hid (k ≤ n) := hk
    clear ti m2 a2 b2 hk
    by_cases c1 : k < n
    · obtain rfl := HS.out.addr (by omega)
      have hc : ∀ j, j < 7 → wr.cell? ⟨b, o + k * 7 + j, none⟩ = some (.int .i64 (f k j)) := fun j hj => (B2.out.cell (p := ⟨b, o + k * 7 + j, none⟩) (HS.out.blk (by omega))).trans (HS.out.cell k j c1 hj)
      have h0 : wr.cell? ⟨b, o + k * 7, none⟩ = some (.int .i64 (f k 0)) := hc 0 (by decide)
      have h1 := hc 1 (by decide)
      have h2 := hc 2 (by decide)
      have h3 := hc 3 (by decide)
      have h4 := hc 4 (by decide)
      have h5 := hc 5 (by decide)
      have h6 := hc 6 (by decide)
      have HI1 : Hid (f k 1 ≤ 9223372036854775807) := HS.out.hi k 1 c1 (by decide)
      have HI2 : Hid (f k 2 ≤ 9223372036854775807) := HS.out.hi k 2 c1 (by decide)
      have HI3 : Hid (f k 3 ≤ 9223372036854775807) := HS.out.hi k 3 c1 (by decide)
      have HI4 : Hid (f k 4 ≤ 9223372036854775807) := HS.out.hi k 4 c1 (by decide)
      have HI5 : Hid (f k 5 ≤ 9223372036854775807) := HS.out.hi k 5 c1 (by decide)
      have HI6 : Hid (f k 6 ≤ 9223372036854775807) := HS.out.hi k 6 c1 (by decide)
      have ik0 : (0 : Int) ≤ (k : Int) := by omega
      have ik1 : (k : Int) < (n : Int) := by omega
      have C1 : Hid (k < n) := c1
      have wk : IntKind.i64.wrap ((k : Int) + 1) = (k : Int) + 1 := by
        have z1 := HS.out.cap
        have z2 := HS.out.le
        unfold maxLen at z1
        unfold IntKind.wrap
        simp [IntKind.bits, IntKind.signed]
        omega
      clear hc c1
      generalize f k 0 = g0 at *
      generalize f k 1 = g1 at *
      generalize f k 2 = g2 at *
      generalize f k 3 = g3 at *
      generalize f k 4 = g4 at *
      generalize f k 5 = g5 at *
      generalize f k 6 = g6 at *
      have DO := fun W (h : MS W w.heap.size l p e t s) => do_at (k := g0) (n := g1) (l2 := g2) (p2 := g3) (e2 := g4) (t2 := g5) (s2 := g6) TI2.out HI1.out HI2.out HI3.out HI4.out HI5.out HI6.out W h
      unfold mV tV aV at DO
      obtain ⟨_, xa0, xa1, xa2, xa3, xa4, xf⟩ := A2.out
      go_wp2
      go_region_with (first | (go_at_call 29; refine (DO _ (M2.out.step (Below.refl _ _).drew)).mono ?_; rintro x w3 ⟨l3, p3, e3, t3, s3, rfl, b3, ti3, m3⟩; have TI3 : Hid (TI l3 p3 e3 t3 s3) := ti3; have M3 : Hid (MS w3 w.heap.size l3 p3 e3 t3 s3) := m3; have A3 : Hid (MS w3 q l p e t s) := (A2.out.step (Below.refl _ _).drew).but b3 (by have := QL.out; omega); have B3 : Hid (Below w.heap.size w w3) := B2.out.drew.trans (b3.bel (Nat.le_refl _) B2.out.size); clear ti3 m3 b3 xa0 xa1 xa2 xa3 xa4 xf; obtain ⟨_, xa0, xa1, xa2, xa3, xa4, xf⟩ := A3.out))
      all_goals
        clear DO xa0 xa1 xa2 xa3 xa4 xf
        have A4 : Hid (MS (((((w3.setCell ⟨q, 0, none⟩ (.int .i64 l3)).setCell ⟨q, 1, none⟩ (.int .i64 p3)).setCell ⟨q, 2, none⟩ (.int .i64 e3)).setCell ⟨q, 3, none⟩ (.int .i64 t3)).setCell ⟨q, 4, none⟩ (.int .i64 s3)) q l3 p3 e3 t3 s3) := ((((A3.out.set0 l3).set1 p3).set2 e3).set3 t3).set4 s3
        have nq : w.heap.size ≠ q := by have := QL.out; omega
        have M4 : Hid (MS (((((w3.setCell ⟨q, 0, none⟩ (.int .i64 l3)).setCell ⟨q, 1, none⟩ (.int .i64 p3)).setCell ⟨q, 2, none⟩ (.int .i64 e3)).setCell ⟨q, 3, none⟩ (.int .i64 t3)).setCell ⟨q, 4, none⟩ (.int .i64 s3)) w.heap.size l3 p3 e3 t3 s3) := ((((M3.out.but (But.set q _ _ _) nq).but (But.set q _ _ _) nq).but (But.set q _ _ _) nq).but (But.set q _ _ _) nq).but (But.set q _ _ _) nq
        have lq : w.heap.size ≤ q := by have := QL.out; omega
        have B4 : Hid (Below w.heap.size w (((((w3.setCell ⟨q, 0, none⟩ (.int .i64 l3)).setCell ⟨q, 1, none⟩ (.int .i64 p3)).setCell ⟨q, 2, none⟩ (.int .i64 e3)).setCell ⟨q, 3, none⟩ (.int .i64 t3)).setCell ⟨q, 4, none⟩ (.int .i64 s3))) := ((((B3.out.setCell (p := ⟨q, 0, none⟩) lq _).setCell (p := ⟨q, 1, none⟩) lq _).setCell (p := ⟨q, 2, none⟩) lq _).setCell (p := ⟨q, 3, none⟩) lq _).setCell (p := ⟨q, 4, none⟩) lq _
        clear nq lq h0 h1 h2 h3 h4 h5 h6
        generalize (((((w3.setCell ⟨q, 0, none⟩ (.int .i64 l3)).setCell ⟨q, 1, none⟩ (.int .i64 p3)).setCell ⟨q, 2, none⟩ (.int .i64 e3)).setCell ⟨q, 3, none⟩ (.int .i64 t3)).setCell ⟨q, 4, none⟩ (.int .i64 s3)) = w4 at *
        have TLY := fun W (h : MS W w.heap.size l3 p3 e3 t3 s3) => tally_at W h
        have LIV := fun W (h : MS W w.heap.size l3 p3 e3 t3 s3) => live_at W h
        have PEK := fun W (h : MS W w.heap.size l3 p3 e3 t3 s3) => peak_at W h
        have CNT := fun W (h : MS W w.heap.size l3 p3 e3 t3 s3) => count_bel kd W h
        have RCN := fun W => rcount_any (l := l3) (p := p3) (e := e3) (t := t3) (s := s3) (k := kd) W
        have TXT := fun W (h : MS W w.heap.size l3 p3 e3 t3 s3) (hb : Below w.heap.size w W) => text_full TI3.out W (fun w' h' => HPo.out w' (hb.trans (h'.mono hb.size))) (tally_at W h)
        have RTX := fun W => rtext_any TI3.out W
        generalize txt itB l3 p3 e3 t3 s3 = tx at *
        generalize cntI e3 t3 s3 kd = cn at *
        unfold mV tV at *
        obtain ⟨_, y0, y1, y2, y3, y4, _⟩ := A4.out
        go_wp2
        go_region_held3 (fun w' => w'.cell? ⟨q, 0, none⟩ = some (.int .i64 l3) ∧ w'.cell? ⟨q, 1, none⟩ = some (.int .i64 p3) ∧ w'.cell? ⟨q, 2, none⟩ = some (.int .i64 e3) ∧ w'.cell? ⟨q, 3, none⟩ = some (.int .i64 t3) ∧ w'.cell? ⟨q, 4, none⟩ = some (.int .i64 s3)) (simp [*, go_sem])
          (first
            | (go_at_call 30; refine (TLY _ (M4.out.step (Below.refl _ _).drew)).mono ?_; rintro x w5 ⟨rfl, b5⟩; have M5 : Hid (MS w5 w.heap.size l3 p3 e3 t3 s3) := (M4.out.step (Below.refl _ _).drew).step b5; have A5 : Hid (MS w5 q l3 p3 e3 t3 s3) := (A4.out.step (Below.refl _ _).drew).step b5; have B5 : Hid (Below w.heap.size w w5) := (B4.out.drew).trans (b5.mono (B4.out.drew).size); clear b5; obtain ⟨_, z50, z51, z52, z53, z54, _⟩ := A5.out)
            | (go_at_call 31; refine (LIV _ M5.out).mono ?_; rintro x w6 ⟨rfl, b6⟩; have M6 : Hid (MS w6 w.heap.size l3 p3 e3 t3 s3) := (M5.out).step b6; have A6 : Hid (MS w6 q l3 p3 e3 t3 s3) := (A5.out).step b6; have B6 : Hid (Below w.heap.size w w6) := (B5.out).trans (b6.mono (B5.out).size); clear b6; obtain ⟨_, z60, z61, z62, z63, z64, _⟩ := A6.out)
            | (go_at_call 32; refine (PEK _ M6.out).mono ?_; rintro x w7 ⟨rfl, b7⟩; have M7 : Hid (MS w7 w.heap.size l3 p3 e3 t3 s3) := (M6.out).step b7; have A7 : Hid (MS w7 q l3 p3 e3 t3 s3) := (A6.out).step b7; have B7 : Hid (Below w.heap.size w w7) := (B6.out).trans (b7.mono (B6.out).size); clear b7; obtain ⟨_, z70, z71, z72, z73, z74, _⟩ := A7.out)
            | (go_at_call 33; refine (CNT _ M7.out).mono ?_; rintro x w8 ⟨rfl, b8⟩; have M8 : Hid (MS w8 w.heap.size l3 p3 e3 t3 s3) := (M7.out).step b8; have A8 : Hid (MS w8 q l3 p3 e3 t3 s3) := (A7.out).step b8; have B8 : Hid (Below w.heap.size w w8) := (B7.out).trans (b8.mono (B7.out).size); clear b8; obtain ⟨_, z80, z81, z82, z83, z84, _⟩ := A8.out)
            | (go_at_call 34; refine (RCN _).mono ?_; rintro x w9 ⟨rfl, b9⟩; have M9 : Hid (MS w9 w.heap.size l3 p3 e3 t3 s3) := (M8.out).step b9; have A9 : Hid (MS w9 q l3 p3 e3 t3 s3) := (A8.out).step b9; have B9 : Hid (Below w.heap.size w w9) := (B8.out).trans (b9.mono (B8.out).size); clear b9; obtain ⟨_, z90, z91, z92, z93, z94, _⟩ := A9.out)
            | (go_at_call 35; refine (TXT _ M9.out B9.out).mono ?_; rintro x w10 ⟨rfl, b10⟩; have M10 : Hid (MS w10 w.heap.size l3 p3 e3 t3 s3) := (M9.out).step b10; have A10 : Hid (MS w10 q l3 p3 e3 t3 s3) := (A9.out).step b10; have B10 : Hid (Below w.heap.size w w10) := (B9.out).trans (b10.mono (B9.out).size); clear b10; obtain ⟨_, z100, z101, z102, z103, z104, _⟩ := A10.out)
            | (go_at_call 36; refine (RTX _).mono ?_; rintro x w11 ⟨rfl, b11⟩; have M11 : Hid (MS w11 w.heap.size l3 p3 e3 t3 s3) := (M10.out).step b11; have A11 : Hid (MS w11 q l3 p3 e3 t3 s3) := (A10.out).step b11; have B11 : Hid (Below w.heap.size w w11) := (B10.out).trans (b11.mono (B10.out).size); clear b11; obtain ⟨_, z110, z111, z112, z113, z114, _⟩ := A11.out))
        go_wp2
        go_roundw
        case rel => exact ⟨k + 1, l3, p3, e3, t3, s3, by go_num, by have := C1.out; omega, TI3.out, M11.out, A11.out, B11.out⟩
        case measure => have := C1.out; simp [intOf]; omega
    · have ik1 : ¬ (k : Int) < (n : Int) := by omega
      have RST := fun W (h : MS W w.heap.size l p e t s) => reset_at W h
      have TLY := fun W (h : MS W w.heap.size 0 0 0 0 0) => tally_at W h
      have WRK := fun W => works_any W
      unfold mV tV at *
      obtain ⟨_, y0, y1, y2, y3, y4, _⟩ := A2.out
      go_wp2
      go_region_held3 (fun w' => w'.cell? ⟨q, 0, none⟩ = some (.int .i64 l) ∧ w'.cell? ⟨q, 1, none⟩ = some (.int .i64 p) ∧ w'.cell? ⟨q, 2, none⟩ = some (.int .i64 e) ∧ w'.cell? ⟨q, 3, none⟩ = some (.int .i64 t) ∧ w'.cell? ⟨q, 4, none⟩ = some (.int .i64 s)) (simp [*, go_sem])
        (first
          | (go_at_call 37; refine (RST _ (M2.out.step (Below.refl _ _).drew)).mono ?_; rintro x w5 ⟨rfl, b5, m5⟩; have M5 : Hid (MS w5 w.heap.size 0 0 0 0 0) := m5; have A5 : Hid (MS w5 q l p e t s) := (A2.out.step (Below.refl _ _).drew).but b5 (by have := QL.out; omega); have B5 : Hid (Below w.heap.size w w5) := B2.out.drew.trans (b5.bel (Nat.le_refl _) B2.out.size); clear b5 m5; obtain ⟨_, z0, z1, z2, z3, z4, _⟩ := A5.out)
          | (go_at_call 30; refine (TLY _ M5.out).mono ?_; rintro x w6 ⟨rfl, b6⟩; have M6 : Hid (MS w6 w.heap.size 0 0 0 0 0) := (M5.out).step b6; have A6 : Hid (MS w6 q l p e t s) := (A5.out).step b6; have B6 : Hid (Below w.heap.size w w6) := (B5.out).trans (b6.mono (B5.out).size); clear b6; obtain ⟨_, z60, z61, z62, z63, z64, _⟩ := A6.out)
          | (go_at_call 38; refine (WRK _).mono ?_; rintro x w7 ⟨rfl, b7⟩; have M7 : Hid (MS w7 w.heap.size 0 0 0 0 0) := (M6.out).step b7; have A7 : Hid (MS w7 q l p e t s) := (A6.out).step b7; have B7 : Hid (Below w.heap.size w w7) := (B6.out).trans (b7.mono (B6.out).size); clear b7; obtain ⟨_, z70, z71, z72, z73, z74, _⟩ := A7.out))
      go_wp2
      go_ret
      exact ⟨rfl, B7.out⟩

end Go.Proofs.YtladeppjccfbhaaDoor
