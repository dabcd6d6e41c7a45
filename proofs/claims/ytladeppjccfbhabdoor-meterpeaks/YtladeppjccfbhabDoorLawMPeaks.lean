/-
  The statement MeterPeaks: for every row of words and either way the call of MeterPeaks returns true.
-/
import Derived.Test.YtladeppjccfbhabDoorMetE
import Derived.OpenShut
import Derived.Lib.SliceRun
import Derived.Deep.LoopGhost
import Derived.WalkMore
namespace Go.Proofs.YtladeppjccfbhabDoor
open Go.RowKit

/-- A slice of ints in memory. -/
structure SlI (w : World) (ao : Option Addr) (n c : Nat) (b o : Nat) (f : Nat → Int) : Prop where
  le : n ≤ c
  cap : c ≤ maxLen
  addr : 0 < n → ao = some ⟨b, o, none⟩
  blk : 0 < n → b < w.heap.size
  cell : ∀ i, i < n → w.cell? ⟨b, o + i, none⟩ = some (.int .i64 (f i))

theorem mod_lo (x : Int) : 0 ≤ (wrap64 (x.tmod 1000 + 1000)).tmod 1000 ∧ (wrap64 (x.tmod 1000 + 1000)).tmod 1000 < 1000 := by
  have h1 := Int.tmod_lt_of_pos x (show (0 : Int) < 1000 by decide)
  have h2 : -1000 < x.tmod 1000 := by
    have := Int.lt_tmod_of_pos x (show (0 : Int) < 1000 by decide)
    omega
  have e : wrap64 (x.tmod 1000 + 1000) = x.tmod 1000 + 1000 := by
    unfold wrap64
    omega
  rw [e]
  have h3 : 0 ≤ x.tmod 1000 + 1000 := by omega
  exact ⟨Int.tmod_nonneg _ h3, Int.tmod_lt_of_pos _ (by decide)⟩

set_option maxRecDepth 100000 in
set_option maxHeartbeats 4000000 in
theorem law_mpeaks {ao : Option Addr} {n c b o : Nat} {f : Nat → Int} {g : Bool} (w : World) (S : SlI w ao n c b o f) :
    Calls Tryd.prog 4 #[.slice ao n c, .bool g] w fun x w' => x = .returned (.bool true) ∧ Below w.heap.size w w' := by
  have HS : Hid (SlI w ao n c b o f) := S
  clear S
  by_cases hn : 1000 < n
  · have i1 : (1000 : Int) < (n : Int) := by omega
    go_enter Tryd.func4, Tryd.ntmps4
    go_wp2_with fail
    refine (new_any _).mono ?_
    unfold mV
    rintro x w1 ⟨rfl, b1, m1⟩
    have B1 : Hid (Below w.heap.size w w1) := b1
    clear m1 b1
    go_wp2_with fail
    refine (works_any _).mono ?_
    rintro x w2 ⟨rfl, b2⟩
    have B2 : Hid (Below w.heap.size w w2) := B1.out.trans (b2.mono B1.out.size)
    clear b2
    go_wp2
    go_ret
    exact ⟨rfl, B2.out⟩
  · have i1 : ¬ (1000 : Int) < (n : Int) := by omega
    have HN : Hid (n ≤ 1000) := by show n ≤ 1000; omega
    go_enter Tryd.func4, Tryd.ntmps4
    go_wp2_with fail
    refine (new_any _).mono ?_
    unfold mV
    rintro x w1 ⟨rfl, b1, m1⟩
    have B1 : Hid (Below w.heap.size w w1) := b1
    have M1 : Hid (MS w1 w.heap.size 0 0 0 0 0) := m1
    clear m1 b1
    go_wp2
    clear i1 hn
    go_loopw [6, 7, 8] (fun v6 v7 v8 wr => ∃ (k : Nat) (l p : Int), v6 = .int .i64 l ∧ v7 = .int .i64 p ∧ v8 = .int .i64 (k : Int) ∧ k ≤ n ∧ 0 ≤ l ∧ l ≤ p ∧ p ≤ 1000 * (k : Int) ∧ MS wr w.heap.size l p 0 0 0 ∧ Below w.heap.size w wr) (fun _ _ i _ => n - (intOf i).toNat)
    case atStart => exact ⟨0, 0, 0, rfl, rfl, rfl, Nat.zero_le _, by decide, by decide, by decide, M1.out, B1.out⟩
    case round =>
      obtain ⟨k, l, p, rfl, rfl, rfl, hk, l0, lp, pk, m2, b2⟩ := hrel
      have M2 : Hid (MS wr w.heap.size l p 0 0 0) := m2
      have B2 : Hid (Below w.heap.size w wr) := b2
      have HP : Hid (0 ≤ l ∧ l ≤ p ∧ p ≤ 1000 * (k : Int)) := ⟨l0, lp, pk⟩
      have HK : Hid (k ≤ n) := hk
      clear m2 b2 l0 lp pk hk
      by_cases c1 : k < n
      · obtain rfl := HS.out.addr (by omega)
        have hc : wr.cell? ⟨b, o + k, none⟩ = some (.int .i64 (f k)) := (B2.out.cell (p := ⟨b, o + k, none⟩) (HS.out.blk (by omega))).trans (HS.out.cell k c1)
        have ik0 : (0 : Int) ≤ (k : Int) := by omega
        have ik1 : (k : Int) < (n : Int) := by omega
        obtain ⟨y, hy⟩ : ∃ y, (wrap64 ((f k).tmod 1000 + 1000)).tmod 1000 = y := ⟨_, rfl⟩
        have HY : Hid (0 ≤ y ∧ y < 1000) := by show 0 ≤ y ∧ y < 1000; rw [← hy]; exact mod_lo (f k)
        have C1 : Hid (k < n) := c1
        obtain ⟨g3, hg3⟩ : ∃ g3, ((k : Int) % 3 == 2) = g3 := ⟨_, rfl⟩
        have wk : IntKind.i64.wrap ((k : Int) + 1) = (k : Int) + 1 := by
          have := HN.out
          unfold IntKind.wrap
          simp [IntKind.bits, IntKind.signed]
          omega
        cases g with
        | false =>
          have HT : Hid (moreI l y = l + y ∧ mx3 p 0 (l + y) = max p (l + y)) := by
            have h1 := HP.out; have h2 := HY.out; have h3 := HN.out; have h4 := C1.out
            refine ⟨?_, ?_⟩
            · unfold moreI; by_cases q : y < 1
              · rw [if_pos q]; omega
              · rw [if_neg q, if_neg (by omega)]
            · unfold mx3; omega
          obtain ⟨l2, hl2⟩ : ∃ l2, l2 = l + y := ⟨_, rfl⟩
          have HL : Hid (l2 = l + y) := hl2
          have wl : IntKind.i64.wrap (l + y) = l2 := by
            have h1 := HP.out; have h2 := HY.out; have h3 := HN.out; have h4 := C1.out
            unfold IntKind.wrap
            simp [IntKind.bits, IntKind.signed]
            omega
          clear hl2
          obtain ⟨p2, hp2⟩ : ∃ p2, max p l2 = p2 := ⟨_, rfl⟩
          have HQ : Hid (max p l2 = p2) := hp2
          go_wp2_with fail
          refine (take_at (b := w.heap.size) (l := l) (n := y) HP.out.1 (by have := HY.out; omega) _ M2.out).mono ?_
          rintro x w3 ⟨rfl, b3, m3⟩
          rw [HT.out.1, HT.out.2, ← HL.out, HQ.out] at m3
          have M3 : Hid (MS w3 w.heap.size l2 p2 0 0 0) := m3
          have B3 : Hid (Below w.heap.size w w3) := B2.out.trans (b3.bel (Nat.le_refl _) (Nat.le_of_lt M2.out.lt))
          clear m3 b3
          have LP : Hid (0 ≤ l2 ∧ l2 ≤ p2 ∧ p2 ≤ 1000 * ((k + 1 : Nat) : Int)) := by
            have h1 := HP.out; have h2 := HY.out; have h3 := HL.out; have h4 := HQ.out
            show 0 ≤ l2 ∧ l2 ≤ p2 ∧ p2 ≤ 1000 * ((k + 1 : Nat) : Int)
            omega
          have lp2 : ¬ p2 < l2 := by have := LP.out; omega
          go_wp2_with fail
          refine (live_at (b := w.heap.size) _ M3.out).mono ?_
          rintro x w4 ⟨rfl, b4⟩
          have M4 : Hid (MS w4 w.heap.size l2 p2 0 0 0) := M3.out.step b4
          have B4 : Hid (Below w.heap.size w w4) := B3.out.trans (b4.mono B3.out.size)
          clear b4
          go_wp2_with fail
          refine (peak_at (b := w.heap.size) _ M4.out).mono ?_
          rintro x w5 ⟨rfl, b5⟩
          have M5 : Hid (MS w5 w.heap.size l2 p2 0 0 0) := M4.out.step b5
          have B5 : Hid (Below w.heap.size w w5) := B4.out.trans (b5.mono B4.out.size)
          clear b5
          go_wp2_with fail
          refine (live_at (b := w.heap.size) _ M5.out).mono ?_
          rintro x w6 ⟨rfl, b6⟩
          have M6 : Hid (MS w6 w.heap.size l2 p2 0 0 0) := M5.out.step b6
          have B6 : Hid (Below w.heap.size w w6) := B5.out.trans (b6.mono B5.out.size)
          clear b6
          go_wp2_with fail
          refine (peak_at (b := w.heap.size) _ M6.out).mono ?_
          rintro x w7 ⟨rfl, b7⟩
          have M7 : Hid (MS w7 w.heap.size l2 p2 0 0 0) := M6.out.step b7
          have B7 : Hid (Below w.heap.size w w7) := B6.out.trans (b7.mono B6.out.size)
          clear b7
          go_wp2
          go_roundw
          case rel => exact ⟨k + 1, l2, p2, rfl, rfl, by go_num, by have := C1.out; omega, LP.out.1, LP.out.2.1, LP.out.2.2, M7.out, B7.out⟩
          case measure => have := C1.out; simp [intOf]; omega
        | true =>
          cases g3 with
          | false =>
            have HT : Hid (moreI l y = l + y ∧ mx3 p 0 (l + y) = max p (l + y)) := by
              have h1 := HP.out; have h2 := HY.out; have h3 := HN.out; have h4 := C1.out
              refine ⟨?_, ?_⟩
              · unfold moreI; by_cases q : y < 1
                · rw [if_pos q]; omega
                · rw [if_neg q, if_neg (by omega)]
              · unfold mx3; omega
            obtain ⟨l2, hl2⟩ : ∃ l2, l2 = l + y := ⟨_, rfl⟩
            have HL : Hid (l2 = l + y) := hl2
            have wl : IntKind.i64.wrap (l + y) = l2 := by
              have h1 := HP.out; have h2 := HY.out; have h3 := HN.out; have h4 := C1.out
              unfold IntKind.wrap
              simp [IntKind.bits, IntKind.signed]
              omega
            clear hl2
            obtain ⟨p2, hp2⟩ : ∃ p2, max p l2 = p2 := ⟨_, rfl⟩
            have HQ : Hid (max p l2 = p2) := hp2
            go_wp2_with fail
            refine (take_at (b := w.heap.size) (l := l) (n := y) HP.out.1 (by have := HY.out; omega) _ M2.out).mono ?_
            rintro x w3 ⟨rfl, b3, m3⟩
            rw [HT.out.1, HT.out.2, ← HL.out, HQ.out] at m3
            have M3 : Hid (MS w3 w.heap.size l2 p2 0 0 0) := m3
            have B3 : Hid (Below w.heap.size w w3) := B2.out.trans (b3.bel (Nat.le_refl _) (Nat.le_of_lt M2.out.lt))
            clear m3 b3
            have LP : Hid (0 ≤ l2 ∧ l2 ≤ p2 ∧ p2 ≤ 1000 * ((k + 1 : Nat) : Int)) := by
              have h1 := HP.out; have h2 := HY.out; have h3 := HL.out; have h4 := HQ.out
              show 0 ≤ l2 ∧ l2 ≤ p2 ∧ p2 ≤ 1000 * ((k + 1 : Nat) : Int)
              omega
            have lp2 : ¬ p2 < l2 := by have := LP.out; omega
            go_wp2_with fail
            refine (live_at (b := w.heap.size) _ M3.out).mono ?_
            rintro x w4 ⟨rfl, b4⟩
            have M4 : Hid (MS w4 w.heap.size l2 p2 0 0 0) := M3.out.step b4
            have B4 : Hid (Below w.heap.size w w4) := B3.out.trans (b4.mono B3.out.size)
            clear b4
            go_wp2_with fail
            refine (peak_at (b := w.heap.size) _ M4.out).mono ?_
            rintro x w5 ⟨rfl, b5⟩
            have M5 : Hid (MS w5 w.heap.size l2 p2 0 0 0) := M4.out.step b5
            have B5 : Hid (Below w.heap.size w w5) := B4.out.trans (b5.mono B4.out.size)
            clear b5
            go_wp2_with fail
            refine (live_at (b := w.heap.size) _ M5.out).mono ?_
            rintro x w6 ⟨rfl, b6⟩
            have M6 : Hid (MS w6 w.heap.size l2 p2 0 0 0) := M5.out.step b6
            have B6 : Hid (Below w.heap.size w w6) := B5.out.trans (b6.mono B5.out.size)
            clear b6
            go_wp2_with fail
            refine (peak_at (b := w.heap.size) _ M6.out).mono ?_
            rintro x w7 ⟨rfl, b7⟩
            have M7 : Hid (MS w7 w.heap.size l2 p2 0 0 0) := M6.out.step b7
            have B7 : Hid (Below w.heap.size w w7) := B6.out.trans (b7.mono B6.out.size)
            clear b7
            go_wp2
            go_roundw
            case rel => exact ⟨k + 1, l2, p2, rfl, rfl, by go_num, by have := C1.out; omega, LP.out.1, LP.out.2.1, LP.out.2.2, M7.out, B7.out⟩
            case measure => have := C1.out; simp [intOf]; omega
          | true =>
            obtain ⟨z, hz⟩ : ∃ z, min y l = z := ⟨_, rfl⟩
            have HZ : Hid (min y l = z) := hz
            have HT : Hid (lessI l z = l - z) := by
              have h1 := HP.out; have h2 := HY.out; have h3 := HZ.out
              show lessI l z = l - z
              unfold lessI; by_cases q : z < 1
              · rw [if_pos q]; omega
              · rw [if_neg q]; omega
            obtain ⟨l2, hl2⟩ : ∃ l2, l2 = l - z := ⟨_, rfl⟩
            have HL : Hid (l2 = l - z) := hl2
            have wl : IntKind.i64.wrap (l - z) = l2 := by
              have h1 := HP.out; have h2 := HY.out; have h3 := HN.out; have h4 := C1.out; have h5 := HZ.out
              unfold IntKind.wrap
              simp [IntKind.bits, IntKind.signed]
              omega
            clear hl2
            have hp2 : max p l2 = p := by have h1 := HP.out; have h2 := HY.out; have h3 := HL.out; have h5 := HZ.out; omega
            go_wp2_with fail
            refine (give_at (b := w.heap.size) (l := l) (n := z) HP.out.1 (by have h1 := HP.out; have h3 := HN.out; have h4 := C1.out; omega) (by have h1 := HP.out; have h2 := HY.out; have h3 := HZ.out; omega) _ M2.out).mono ?_
            rintro x w3 ⟨rfl, b3, m3⟩
            rw [HT.out, ← HL.out] at m3
            have M3 : Hid (MS w3 w.heap.size l2 p 0 0 0) := m3
            have B3 : Hid (Below w.heap.size w w3) := B2.out.trans (b3.bel (Nat.le_refl _) (Nat.le_of_lt M2.out.lt))
            clear m3 b3
            have LP : Hid (0 ≤ l2 ∧ l2 ≤ p ∧ p ≤ 1000 * ((k + 1 : Nat) : Int)) := by
              have h1 := HP.out; have h2 := HY.out; have h3 := HL.out; have h5 := HZ.out
              show 0 ≤ l2 ∧ l2 ≤ p ∧ p ≤ 1000 * ((k + 1 : Nat) : Int)
              omega
            have lp2 : ¬ p < l2 := by have := LP.out; omega
            go_wp2_with fail
            refine (live_at (b := w.heap.size) _ M3.out).mono ?_
            rintro x w4 ⟨rfl, b4⟩
            have M4 : Hid (MS w4 w.heap.size l2 p 0 0 0) := M3.out.step b4
            have B4 : Hid (Below w.heap.size w w4) := B3.out.trans (b4.mono B3.out.size)
            clear b4
            go_wp2_with fail
            refine (peak_at (b := w.heap.size) _ M4.out).mono ?_
            rintro x w5 ⟨rfl, b5⟩
            have M5 : Hid (MS w5 w.heap.size l2 p 0 0 0) := M4.out.step b5
            have B5 : Hid (Below w.heap.size w w5) := B4.out.trans (b5.mono B4.out.size)
            clear b5
            go_wp2_with fail
            refine (live_at (b := w.heap.size) _ M5.out).mono ?_
            rintro x w6 ⟨rfl, b6⟩
            have M6 : Hid (MS w6 w.heap.size l2 p 0 0 0) := M5.out.step b6
            have B6 : Hid (Below w.heap.size w w6) := B5.out.trans (b6.mono B5.out.size)
            clear b6
            go_wp2_with fail
            refine (peak_at (b := w.heap.size) _ M6.out).mono ?_
            rintro x w7 ⟨rfl, b7⟩
            have M7 : Hid (MS w7 w.heap.size l2 p 0 0 0) := M6.out.step b7
            have B7 : Hid (Below w.heap.size w w7) := B6.out.trans (b7.mono B6.out.size)
            clear b7
            go_wp2
            go_roundw
            case rel => exact ⟨k + 1, l2, p, rfl, rfl, by go_num, by have := C1.out; omega, LP.out.1, LP.out.2.1, LP.out.2.2, M7.out, B7.out⟩
            case measure => have := C1.out; simp [intOf]; omega
      · have ik1 : ¬ (k : Int) < (n : Int) := by omega
        go_wp2_with fail
        refine (give_at (b := w.heap.size) (l := l) (n := l) HP.out.1 (by have h1 := HP.out; have h3 := HN.out; have h4 := HK.out; omega) (by have h1 := HP.out; have h3 := HN.out; have h4 := HK.out; omega) _ M2.out).mono ?_
        rintro x w3 ⟨rfl, b3, m3⟩
        rw [show lessI l l = 0 by have := HP.out; unfold lessI; by_cases q : l < 1; · rw [if_pos q]; omega
                                  · rw [if_neg q]; omega] at m3
        have M3 : Hid (MS w3 w.heap.size 0 p 0 0 0) := m3
        have B3 : Hid (Below w.heap.size w w3) := B2.out.trans (b3.bel (Nat.le_refl _) (Nat.le_of_lt M2.out.lt))
        clear m3 b3
        go_wp2_with fail
        refine (live_at (b := w.heap.size) _ M3.out).mono ?_
        rintro x w4 ⟨rfl, b4⟩
        have M4 : Hid (MS w4 w.heap.size 0 p 0 0 0) := M3.out.step b4
        have B4 : Hid (Below w.heap.size w w4) := B3.out.trans (b4.mono B3.out.size)
        clear b4
        go_wp2_with fail
        refine (peak_at (b := w.heap.size) _ M4.out).mono ?_
        rintro x w5 ⟨rfl, b5⟩
        have B5 : Hid (Below w.heap.size w w5) := B4.out.trans (b5.mono B4.out.size)
        clear b5
        go_wp2_with fail
        refine (works_any _).mono ?_
        rintro x w6 ⟨rfl, b6⟩
        have B6 : Hid (Below w.heap.size w w6) := B5.out.trans (b6.mono B5.out.size)
        clear b6
        go_wp2
        go_ret
        exact ⟨rfl, B6.out⟩

end Go.Proofs.YtladeppjccfbhabDoor
