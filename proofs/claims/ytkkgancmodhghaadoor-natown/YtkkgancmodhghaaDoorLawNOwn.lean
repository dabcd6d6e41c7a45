/-
  The statement NatOwn: for all slices of words (of at most 2^47 bytes) the call of NatOwn returns true, where math/bits' table lies as the program's text lays it.
-/
import Derived.Test.YtkkgancmodhghaaDoorNatOw
namespace Go.Proofs.YtkkgancmodhghaaDoor
open Go.RowKit

theorem six_row (w : World) (a b c d e f : Value) : (w.alloc (.cells #[a, b, c, d, e, f] 23)).rowIs w.heap.size 23 6 (fun i => [a, b, c, d, e, f].getD i .nilIface) := by
  refine ⟨#[a, b, c, d, e, f], heap_alloc_new w _, rfl, fun i hi => ?_⟩
  rcases (by omega : i = 0 ∨ i = 1 ∨ i = 2 ∨ i = 3 ∨ i = 4 ∨ i = 5) with rfl | rfl | rfl | rfl | rfl | rfl <;> rfl

set_option maxRecDepth 100000 in
set_option maxHeartbeats 4000000 in
theorem law_nown {w : World} (hT : Tab w) {ao : Option Addr} {n ca ba oa : Nat} {f : Nat → Nat} (S : Sl w ao n ca ba oa f) (hn : n * 8 ≤ 140737488355328) {bo : Option Addr} {m cb bb ob : Nat} {g : Nat → Nat} (S' : Sl w bo m cb bb ob g) (hm : m * 8 ≤ 140737488355328) :
    Calls Tryd.prog 8 #[.slice ao n ca, .slice bo m cb] w fun e w' => e = .returned (.bool true) ∧ Below w.heap.size w w' := by
  obtain ⟨E1, HE1⟩ : ∃ E, Hid (err2 (verr2 f n g m) (wE (V f n + V g m)) = E) := ⟨_, (rfl : _ = _)⟩
  have HS : Hid (Sl w ao n ca ba oa f ∧ Sl w bo m cb bb ob g) := ⟨S, S'⟩
  go_enter Tryd.func8, Tryd.ntmps8
  have T := twin_any S hn
  go_wp2_with fail
  refine T.mono ?_
  rintro e w1 ⟨ao1, c1, b1, rfl, Sx, _, B1⟩
  clear T
  have T := twin_any (S'.below B1) hm
  go_wp2_with fail
  refine T.mono ?_
  rintro e w2 ⟨bo2, c2, b2, rfl, Sy, _, hb⟩
  clear T
  have B2 : Below w.heap.size w w2 := B1.trans (hb.mono B1.size)
  replace Sx := Sx.below hb
  have HXY : Hid (Sl w2 ao1 n c1 b1 0 f ∧ Sl w2 bo2 m c2 b2 0 g ∧ Below w.heap.size w w2) := ⟨Sx, Sy, B2⟩
  clear hb
  have T := add_own Sx Sy
  go_wp2_with fail
  refine T.mono ?_
  rintro e w3 ⟨vs, us, Xs, rfl, ns, hb⟩
  clear T
  have B3 : Below w.heap.size w w3 := B2.trans (hb.mono B2.size)
  replace Sx := Sx.below hb
  replace Sy := Sy.below hb
  have C3 : Below w2.heap.size w2 w3 := hb
  clear hb
  have T := mul_own Sx Sy
  go_wp2_with fail
  refine T.mono ?_
  rintro e w4 ⟨vp, up, Xp, rfl, np, hb⟩
  clear T
  have B4 : Below w.heap.size w w4 := B3.trans (hb.mono B3.size)
  replace Sx := Sx.below hb
  replace Sy := Sy.below hb
  replace ns := ns.below hb
  have C4 : Below w2.heap.size w2 w4 := C3.trans (hb.mono C3.size)
  clear hb
  have T := div_own (hT.next B4) Sx Sy
  go_wp2_with fail
  refine T.mono ?_
  rintro e w5 ⟨vq, vr, uq, Xq, Xr, rfl, nq, nr, hb⟩
  clear T
  have B5 : Below w.heap.size w w5 := B4.trans (hb.mono B4.size)
  replace Sx := Sx.below hb
  replace Sy := Sy.below hb
  replace ns := ns.below hb
  replace np := np.below hb
  have C5 : Below w2.heap.size w2 w5 := C4.trans (hb.mono C4.size)
  clear hb
  have T := shl_own Sx
  go_wp2_with fail
  refine T.mono ?_
  rintro e w6 ⟨vl, ul, Xl, rfl, nl, hb⟩
  clear T
  have B6 : Below w.heap.size w w6 := B5.trans (hb.mono B5.size)
  replace Sx := Sx.below hb
  replace Sy := Sy.below hb
  replace ns := ns.below hb
  replace np := np.below hb
  replace nq := nq.below hb
  replace nr := nr.below hb
  have C6 : Below w2.heap.size w2 w6 := C5.trans (hb.mono C5.size)
  clear hb
  have T := shr_own (hT.next B6) Sx
  go_wp2_with fail
  refine T.mono ?_
  rintro e w7 ⟨vh, th, uh, Xh, rfl, nh, hb⟩
  clear T
  have B7 : Below w.heap.size w w7 := B6.trans (hb.mono B6.size)
  replace Sx := Sx.below hb
  replace Sy := Sy.below hb
  replace ns := ns.below hb
  replace np := np.below hb
  replace nq := nq.below hb
  replace nr := nr.below hb
  replace nl := nl.below hb
  have C7 : Below w2.heap.size w2 w7 := C6.trans (hb.mono C6.size)
  clear hb
  obtain ⟨ass, es, ds, rfl⟩ := ns.form
  obtain ⟨ap, ep, dp, rfl⟩ := np.form
  obtain ⟨aq, eq, dq, rfl⟩ := nq.form
  obtain ⟨ar, er, dr, rfl⟩ := nr.form
  obtain ⟨al, el, dl, rfl⟩ := nl.form
  obtain ⟨ah, eh, dh, rfl⟩ := nh.form
  have z3 := C3.size
  have z4 := C4.size
  have z5 := C5.size
  have z6 := C6.size
  have z7 := C7.size
  obtain ⟨W, hW⟩ : ∃ W, W = w7.alloc (.cells #[.slice ass es ds, .slice ap ep dp, .slice aq eq dq, .slice ar er dr, .slice al el dl, .slice ah eh dh] 23) := ⟨_, rfl⟩
  have bW : Below w7.heap.size w7 W := by rw [hW]; exact (Below.refl _ _).alloc (Nat.le_refl _) _
  have RA : W.rowIs w7.heap.size 23 6 (fun i => [.slice ass es ds, .slice ap ep dp, .slice aq eq dq, .slice ar er dr, .slice al el dl, .slice ah eh dh].getD i .nilIface) := by rw [hW]; exact six_row w7 _ _ _ _ _ _
  have CW : Below w2.heap.size w2 W := C7.trans (bW.mono z7)
  have WR : ∀ j, j < 6 → Wr W w2.heap.size w7.heap.size ([.slice ass es ds, .slice ap ep dp, .slice aq eq dq, .slice ar er dr, .slice al el dl, .slice ah eh dh].getD j .nilIface) := by
    intro j hj
    have q0 := (ns.wr (base' := w2.heap.size) (G := w7.heap.size) (by omega) (Nat.le_refl _)).below bW
    have q1 := (np.wr (base' := w2.heap.size) (G := w7.heap.size) (by omega) (Nat.le_refl _)).below bW
    have q2 := (nq.wr (base' := w2.heap.size) (G := w7.heap.size) (by omega) (Nat.le_refl _)).below bW
    have q3 := (nr.wr (base' := w2.heap.size) (G := w7.heap.size) (by omega) (Nat.le_refl _)).below bW
    have q4 := (nl.wr (base' := w2.heap.size) (G := w7.heap.size) (by omega) (Nat.le_refl _)).below bW
    have q5 := (nh.wr (base' := w2.heap.size) (G := w7.heap.size) (by omega) (Nat.le_refl _)).below bW
    rcases (by omega : j = 0 ∨ j = 1 ∨ j = 2 ∨ j = 3 ∨ j = 4 ∨ j = 5) with rfl | rfl | rfl | rfl | rfl | rfl
    · exact q0
    · exact q1
    · exact q2
    · exact q3
    · exact q4
    · exact q5
  have HW : Hid (W = w7.alloc (.cells #[.slice ass es ds, .slice ap ep dp, .slice aq eq dq, .slice ar er dr, .slice al el dl, .slice ah eh dh] 23)) := hW
  have HI : Hid (W.rowIs w7.heap.size 23 6 (fun i => [.slice ass es ds, .slice ap ep dp, .slice aq eq dq, .slice ar er dr, .slice al el dl, .slice ah eh dh].getD i .nilIface) ∧ Below w2.heap.size w2 W ∧ ∀ j, j < 6 → Wr W w2.heap.size w7.heap.size ([.slice ass es ds, .slice ap ep dp, .slice aq eq dq, .slice ar er dr, .slice al el dl, .slice ah eh dh].getD j .nilIface)) := ⟨RA, CW, WR⟩
  clear hW RA CW WR bW ns np nq nr nl nh Sx Sy S S' C3 C4 C5 C6 B1 B2 B3 B4 B5 B6 B7 z3 z4 z5 z6
  have HC7 : Hid (Below w2.heap.size w2 w7) := C7
  clear C7
  go_wp2
  rw [← HW.out]
  generalize hG : w7.heap.size = G at *
  have HGG : Hid (w7.heap.size = G) := hG
  clear hG
  go_loopw [20] (fun i wr => ∃ (k : Nat) (vals : Nat → Value), i = .int .i64 (k : Int) ∧ k ≤ 6 ∧ Hid (wr.rowIs G 23 6 vals ∧ Below w2.heap.size w2 wr ∧ ∀ j, k ≤ j → j < 6 → Wr wr w2.heap.size G (vals j))) (fun i _ => 6 - (intOf i).toNat)
  case atStart => exact ⟨0, _, rfl, by omega, ⟨HI.out.1, HI.out.2.1, fun j _ hj => HI.out.2.2 j hj⟩⟩
  case round =>
    obtain ⟨k, vals, rfl, hk, HR⟩ := hrel
    by_cases c1 : k < 6
    · have i1 : (0 : Int) ≤ (k : Int) := by omega
      have i2 : (k : Int) < 6 := by omega
      clear HI
      go_wp2
      go_loopw [21] (fun t wr => ∃ (j : Nat), t = .int .i64 (j : Int) ∧ j ≤ 200 ∧ Hid (wr.rowIs G 23 6 vals ∧ Below w2.heap.size w2 wr ∧ ∀ j, k ≤ j → j < 6 → Wr wr w2.heap.size G (vals j))) (fun t _ => 200 - (intOf t).toNat)
      case atStart => exact ⟨0, rfl, by omega, HR⟩
      case round =>
        clear HR
        obtain ⟨j, rfl, hj, HR⟩ := hrel
        have cz := HR.out.1.cell (i := k) c1
        have fzA := HR.out.1.frozen k
        have hwk := HR.out.2.2 k (Nat.le_refl _) c1
        have hfin : ∀ (v : Value), vals k = v → Wr wr w2.heap.size G v → True := fun _ _ _ => trivial
        rcases hwk with hv | ⟨gb, kk, NN, FF, hv, ha, hb', RR, hbase, hne⟩
        · rw [hv] at cz
          have cj : ¬ (j : Int) < 0 := by omega
          obtain ⟨a', n', c', w3, hr, hb3⟩ := append_wr (w := wr.alloc (.cells #[.int .u64 78] 35)) (base := w2.heap.size) (G := G) (v := .slice none 0 0) (Or.inl rfl) 78 ⟨wr.heap.size, 0, none⟩ (World.news_of_block (cs := #[.int .u64 78]) (t := 35) (fr := (0, 0)) (heap_alloc_new wr _))
          have bA : Below wr.heap.size wr (wr.alloc (.cells #[.int .u64 78] 35)) := (Below.refl _ _).alloc (Nat.le_refl _) _
          have b3 : Below wr.heap.size wr w3 := bA.trans (hb3.mono bA.size)
          have A3 := HR.out.1.of_block (b3.block G HR.out.1.lt)
          have hsz := HR.out.2.1.size
          have hG2 : w2.heap.size ≤ G := by have := HC7.out.size; have := HGG.out; omega
          have cz3 := A3.cell (i := k) c1
          have fz3 := A3.frozen k
          rw [hv] at cz3
          have HN : Hid ((w3.setCell ⟨G, k, none⟩ (.slice (some a') n' c')).rowIs G 23 6 (fun i => if i = k then .slice (some a') n' c' else vals i) ∧ Below w2.heap.size w2 (w3.setCell ⟨G, k, none⟩ (.slice (some a') n' c')) ∧ ∀ i, k + 1 ≤ i → i < 6 → Wr (w3.setCell ⟨G, k, none⟩ (.slice (some a') n' c')) w2.heap.size G ((fun i => if i = k then .slice (some a') n' c' else vals i) i)) := by
            refine ⟨A3.set k _, (HR.out.2.1.trans (b3.mono hsz)).setCell hG2 _, fun i a b => ?_⟩
            show Wr _ _ _ (if i = k then .slice (some a') n' c' else vals i)
            rw [if_neg (by omega)]
            exact ((HR.out.2.2 i (by omega) b).below b3).setAll k _
          have HRN : Hid ((Builtin.append_ #[23, 23] 23 #[.slice none 0 0, .slice (some ⟨wr.heap.size, 0, none⟩) 1 1]).run Tryd.prog (wr.alloc (.cells #[.int .u64 78] 35)) = .ok (.slice (some a') n' c') w3) := hr
          clear hr hb3 bA A3 hfin
          go_wp2_with (first | (at_builtin; refine wpList_app rfl _ _ 23 23 rfl _ _ _ _ rfl rfl HRN.out ?_) | go_in)
          go_wp2
          go_roundw
          case rel => exact ⟨k + 1, _, by go_num, by omega, HN⟩
          case measure => simp [intOf]; omega
        · rw [hv] at cz
          by_cases c2 : j < kk
          · have cj : (j : Int) < (kk : Int) := by omega
            have j0 : (0 : Int) ≤ (j : Int) := by omega
            have cr := RR.row.cell (i := j) (by omega)
            have fr := RR.row.frozen j
            have HN : Hid ((wr.setCell ⟨gb, j, none⟩ (.int .u64 77)).rowIs G 23 6 vals ∧ Below w2.heap.size w2 (wr.setCell ⟨gb, j, none⟩ (.int .u64 77)) ∧ ∀ i, k ≤ i → i < 6 → Wr (wr.setCell ⟨gb, j, none⟩ (.int .u64 77)) w2.heap.size G (vals i)) := by
              refine ⟨?_, HR.out.2.1.setCell hbase _, fun i a b => (HR.out.2.2 i a b).set gb j (r := 77) (by decide)⟩
              exact HR.out.1.of_block (Below.heap_setCell _ _ _ _ (fun e => hne e.symm))
            clear RR
            go_wp2
            go_roundw
            case rel => exact ⟨j + 1, by go_num, by omega, HN⟩
            case measure => simp [intOf]; omega
          · have cj : ¬ (j : Int) < (kk : Int) := by omega
            obtain ⟨a', n', c', w3, hr, hb3⟩ := append_wr (w := wr.alloc (.cells #[.int .u64 78] 35)) (base := w2.heap.size) (G := G) (v := .slice (some ⟨gb, 0, none⟩) kk kk) (Or.inr ⟨gb, kk, NN, FF, rfl, ha, hb', RR.below ((Below.refl _ _).alloc (Nat.le_refl _) _), hbase, hne⟩) 78 ⟨wr.heap.size, 0, none⟩ (World.news_of_block (cs := #[.int .u64 78]) (t := 35) (fr := (0, 0)) (heap_alloc_new wr _))
            have bA : Below wr.heap.size wr (wr.alloc (.cells #[.int .u64 78] 35)) := (Below.refl _ _).alloc (Nat.le_refl _) _
            have b3 : Below wr.heap.size wr w3 := bA.trans (hb3.mono bA.size)
            have A3 := HR.out.1.of_block (b3.block G HR.out.1.lt)
            have hsz := HR.out.2.1.size
            have hG2 : w2.heap.size ≤ G := by have := HC7.out.size; have := HGG.out; omega
            have cz3 := A3.cell (i := k) c1
            have fz3 := A3.frozen k
            rw [hv] at cz3
            have HN : Hid ((w3.setCell ⟨G, k, none⟩ (.slice (some a') n' c')).rowIs G 23 6 (fun i => if i = k then .slice (some a') n' c' else vals i) ∧ Below w2.heap.size w2 (w3.setCell ⟨G, k, none⟩ (.slice (some a') n' c')) ∧ ∀ i, k + 1 ≤ i → i < 6 → Wr (w3.setCell ⟨G, k, none⟩ (.slice (some a') n' c')) w2.heap.size G ((fun i => if i = k then .slice (some a') n' c' else vals i) i)) := by
              refine ⟨A3.set k _, (HR.out.2.1.trans (b3.mono hsz)).setCell hG2 _, fun i a b => ?_⟩
              show Wr _ _ _ (if i = k then .slice (some a') n' c' else vals i)
              rw [if_neg (by omega)]
              exact ((HR.out.2.2 i (by omega) b).below b3).setAll k _
            have HRN : Hid ((Builtin.append_ #[23, 23] 23 #[.slice (some ⟨gb, 0, none⟩) kk kk, .slice (some ⟨wr.heap.size, 0, none⟩) 1 1]).run Tryd.prog (wr.alloc (.cells #[.int .u64 78] 35)) = .ok (.slice (some a') n' c') w3) := hr
            clear hr hb3 bA A3 hfin RR
            go_wp2_with (first | (at_builtin; refine wpList_app rfl _ _ 23 23 rfl _ _ _ _ rfl rfl HRN.out ?_) | go_in)
            go_wp2
            go_roundw
            case rel => exact ⟨k + 1, _, by go_num, by omega, HN⟩
            case measure => simp [intOf]; omega
    · obtain rfl : k = 6 := by omega
      have hB := HR.out.2.1
      have X1 := HXY.out.1.below hB
      have Y1 := HXY.out.2.1.below hB
      have B8 : Below w.heap.size w wr := HXY.out.2.2.trans (hB.mono HXY.out.2.2.size)
      clear HI HR
      have T := addN_any X1 Y1
      rw [HE1.out] at T
      go_wp2_with fail
      refine T.mono ?_
      rintro e w9 ⟨vt, rfl, nt, hb⟩
      clear T
      have B9 : Below w.heap.size w w9 := B8.trans (hb.mono B8.size)
      replace X1 := X1.below hb
      replace Y1 := Y1.below hb
      clear hb
      have T := radd_any (HS.out.1.below B9) (HS.out.2.below B9)
      rw [HE1.out] at T
      go_wp2_with fail
      refine T.mono ?_
      rintro e w10 ⟨vu, rfl, nu, hb⟩
      clear T
      have B10 : Below w.heap.size w w10 := B9.trans (hb.mono B9.size)
      replace X1 := X1.below hb
      replace Y1 := Y1.below hb
      replace nt := nt.below hb
      clear hb
      have T := same_yes X1 (HS.out.1.below B10) (fun _ _ => rfl)
      go_wp2_with fail
      refine T.mono ?_
      rintro e w11 ⟨rfl, hb⟩
      clear T
      have B11 : Below w.heap.size w w11 := B10.trans (hb.mono B10.size)
      replace Y1 := Y1.below hb
      replace nt := nt.below hb
      replace nu := nu.below hb
      clear hb
      have T := same_yes Y1 (HS.out.2.below B11) (fun _ _ => rfl)
      go_wp2_with fail
      refine T.mono ?_
      rintro e w12 ⟨rfl, hb⟩
      clear T
      have B12 : Below w.heap.size w w12 := B11.trans (hb.mono B11.size)
      replace nt := nt.below hb
      replace nu := nu.below hb
      clear hb
      have T := same_natv nt nu
      go_wp2_with fail
      refine T.mono ?_
      rintro e w13 ⟨rfl, hb⟩
      clear T
      have B13 : Below w.heap.size w w13 := B12.trans (hb.mono B12.size)
      clear hb
      have T := num_any E1 w13
      go_wp2_with fail
      refine T.mono ?_
      rintro e w13 ⟨rfl, rfl⟩
      clear T
      have T := works_any _ (hT.next B13)
      go_wp2_with fail
      refine T.mono ?_
      rintro e w14 ⟨rfl, hb⟩
      clear T
      have B14 : Below w.heap.size w w14 := B13.trans (hb.mono B13.size)
      go_wp2
      go_ret
      exact ⟨rfl, B14⟩

end Go.Proofs.YtkkgancmodhghaaDoor
