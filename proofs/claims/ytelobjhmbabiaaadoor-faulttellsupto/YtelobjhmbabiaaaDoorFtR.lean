/-
  The document's Quote: what it answers for every text.
-/
import Derived.Test.YtelobjhmbabiaaaDoorFtW
import Derived.Lib.BufferWrite
import Derived.Deep.AppendLies
import Derived.Laws.BytesArg
import Derived.OwnWalk
namespace Go.Proofs.YtelobjhmbabiaaaDoor
open Go.RowKit

theorem info_parts {T : Type} {o : Option T} {f : T → Option Value × Nat × Nat} {a : Option Value} {b c : Nat} (h : o.map f = some (a, b, c)) : ∃ i, o = some i ∧ (f i).1 = a ∧ (f i).2.1 = b ∧ (f i).2.2 = c := by
  obtain ⟨i, hi, e⟩ := Option.map_eq_some_iff.1 h
  exact ⟨i, hi, by rw [e], by rw [e], by rw [e]⟩
theorem und_bs : Tryd.prog.underlying 60 = some (.slice 5) := by kernel_rfl
theorem und_b8 : Tryd.prog.underlying 5 = some (.int .u8) := by kernel_rfl
theorem und_s9 : Tryd.prog.underlying 9 = some .string := by kernel_rfl
theorem info_b8 : (Tryd.prog.info? 5).map (fun i => (i.zero, i.size, i.bytes)) = some (some (.int .u8 0), 1, 1) := by kernel_rfl

/-- A row of bytes that the call owns. -/
structure RB (w wr : World) (v : Value) (l : List UInt8) : Prop where
  own : wr.ownsRow w.heap.size 5 1 v l.length (Lib.byteCells l)
  bel : Below w.heap.size w wr
theorem cells_append (a b : List UInt8) : Lib.byteCells (a ++ b) = Lib.byteCells a ++ Lib.byteCells b := by simp [Lib.byteCells]
theorem RB.app {w wr w3 : World} {v v' : Value} {l m : List UInt8} {o : Obj} (h : RB w wr v l) (ho : w3.ownsRow w.heap.size 5 1 v' (l.length + m.length) (Lib.byteCells l ++ Lib.byteCells m)) (hg : (wr.alloc o).grownBy w3 v.ownBlock) : RB w w3 v' (l ++ m) := by
  have hs := h.bel.size
  refine ⟨?_, (h.bel.alloc hs _).grown hg (by rw [World.size_alloc]; omega) (fun q hq => (h.own.lt q hq).1)⟩
  rw [cells_append, List.length_append]
  exact ho
theorem nums_text (l : List UInt8) : strOfNums (l.map fun c => (c.toNat : Int)) = ⟨l.toArray⟩ := by
  unfold strOfNums
  simp [Function.comp_def]
theorem RB.text {w wr : World} {v : Value} {l : List UInt8} (h : RB w wr v l) : (Go.convert 60 9 v).run Tryd.prog wr = .ok (.string ⟨l.toArray⟩) wr := by
  rcases h.own.2 with ⟨rfl, h0⟩ | ⟨g, cap, cur, rfl, _⟩
  · obtain rfl : l = [] := List.length_eq_zero_iff.mp h0
    kernel_rfl
  · have hc := h.own.cells (g := g) rfl
    have := run_convert_bytes_arg wr 60 5 und_bs und_b8 g 0 l.length cap (l.map fun c => (c.toNat : Int)) (by simp) (fun i hi => by
      have q := hc i (.int .u8 ((l[i]'hi).toNat : Int)) (by unfold Lib.byteCells; simp [hi])
      have e : (⟨g, 0, none⟩ : Addr).add i = ⟨g, 0 + i, none⟩ := Lib.add_plain g 0 i
      rw [e] at q
      rw [q]
      congr 2
      simp [List.getD_eq_getElem?_getD, hi]) 9 und_s9
    rw [nums_text] at this
    exact this

theorem and_15 (c : UInt8) : bits BinOp.and IntKind.u8 (c.toNat : Int) 15 = ((c.toNat % 16 : Nat) : Int) := by revert c; refine all8 ?_; decide +kernel

set_option maxRecDepth 100000 in
set_option maxHeartbeats 2000000 in
theorem rquote_any (s : ByteArray) (hs : s.size ≤ 35000000000000) (w : World) :
    Calls Tryd.prog 11 #[.string s] w fun e w' => e = .returned (.string ⟨(qL s.data.toList).toArray⟩) ∧ Below w.heap.size w w' := by
  obtain ⟨i0, hi, hz0, hz1, hz2⟩ := info_parts info_b8
  have HS : Hid (s.size ≤ 35000000000000) := hs
  have hs2 : s.size ≤ 9223372036854775805 := by omega
  clear hs
  go_enter Tryd.func11, Tryd.ntmps11
  go_wp2_with (first | (at_builtin; refine wpList_append_own _ rfl _ _ 60 rfl w.heap.size 5 i0 (.int .u8 0) 1 1 und_bs hi hz0 hz1 hz2 rfl (by decide) _ _ _ rfl ((World.ownsRow_nil _ _ _ _).alloc _) ⟨w.heap.size, 0, none⟩ 1 1 [.int .u8 34] rfl rfl (World.news_of_block (cs := #[.int .u8 34]) (t := 5) (fr := (0, 0)) (heap_alloc_new _ _)) (by simp [Value.oneCell']) (by unfold maxLen; simp) (by simp) (by simp) ?_) | go_in)
  intro v1 w1 ho1 hg1 _
  have R1 : Hid (RB w w1 v1 [34]) := RB.app (l := []) (m := [34]) ⟨World.ownsRow_nil _ _ _ _, Below.refl _ _⟩ ho1 hg1
  clear ho1 hg1
  go_wp2
  go_loopw [3, 4] (fun v i wr => ∃ k : Nat, k ≤ s.size ∧ i = .int .i64 k ∧ Hid (RB w wr v (34 :: qIn (s.data.toList.take k)))) (fun _ i _ => s.size - (intOf i).toNat)
  case atStart => exact ⟨0, Nat.zero_le _, rfl, R1.out⟩
  case round =>
    clear R1
    obtain ⟨k, hk, rfl, R3⟩ := hrel
    have HL : Hid ((qIn (s.data.toList.take k)).length ≤ 4 * s.size) := take_len s k
    by_cases hlt : k < s.size
    · have HT : Hid (qIn (s.data.toList.take (k + 1)) = qIn (s.data.toList.take k) ++ esc (s[k]'hlt)) := qIn_take s hlt
      obtain ⟨c, hc⟩ : ∃ c, s[k]'hlt = c := ⟨_, rfl⟩
      rw [hc] at HT
      obtain ⟨M2, HM2⟩ : ∃ M2, Hid (qIn (s.data.toList.take (k + 1)) = M2) := ⟨_, rfl⟩
      rw [HM2.out] at HT
      generalize qIn (s.data.toList.take k) = M at *
      have hc' : (((s[k]'hlt).toNat : Nat) : Int) = (c.toNat : Int) := by rw [hc]
      have HZ : Hid (w.heap.size ≤ wr.heap.size) := R3.out.bel.size
      have pl : plainB c = (decide (32 ≤ c.toNat) && decide (c.toNat ≤ 126)) := by simp [plainB, UInt8.le_iff_toNat_le]
      have sl : specB c = (decide (c.toNat = 34) || decide (c.toNat = 92)) := by
        unfold specB
        congr 1 <;> (simp only [decide_eq_decide]; rw [← UInt8.toNat_inj]; rfl)
      rcases esc_cases c with ⟨p1, p2, p3, _⟩ | ⟨p1, p2, p3, _⟩ | ⟨p1, p3⟩
      · rw [p1] at pl
        rw [p2] at sl
        simp only [Bool.false_eq, Bool.true_eq, Bool.and_eq_true, Bool.or_eq_false_iff, decide_eq_true_eq, decide_eq_false_iff_not] at pl sl
        have n1 : ((c.toNat : Int) == 34) = false := by simp; omega
        have n2 : ((c.toNat : Int) == 92) = false := by simp; omega
        have g1 : ¬ (c.toNat : Int) < 32 := by omega
        have g2 : ¬ (126 : Int) < (c.toNat : Int) := by omega
        clear pl sl hc p1 p2
        go_wp2_with (first | (at_builtin; refine wpList_append_own _ rfl _ _ 60 rfl w.heap.size 5 i0 (.int .u8 0) 1 1 und_bs hi hz0 hz1 hz2 rfl (by decide) _ _ _ rfl (R3.out.own.alloc _) ⟨wr.heap.size, 0, none⟩ 1 1 [.int .u8 (c.toNat : Int)] rfl rfl (World.news_of_block (cs := #[.int .u8 (c.toNat : Int)]) (t := 5) (fr := (0, 0)) (heap_alloc_new _ _)) (by simp [Value.oneCell']) (by have := HL.out; have := HS.out; unfold maxLen; simp; omega) (by have := HL.out; have := HS.out; simp; omega) (by have := HZ.out; simp; omega) ?_) | go_in)
        intro v5 w5 ho5 hg5 _
        have B5 : Hid (RB w w5 v5 (34 :: M2)) := by rw [HT.out, p3]; exact R3.out.app (m := [c]) ho5 hg5
        clear ho5 hg5
        go_wp2
        go_roundw
        case rel => exact ⟨k + 1, by omega, by go_num, by rw [HM2.out]; exact B5⟩
        case measure => simp [intOf]; omega
      · rw [p2] at sl
        simp only [Bool.true_eq, Bool.or_eq_true, decide_eq_true_eq] at sl
        clear pl p1 p2
        rcases sl with q | q
        · have hc2 : (((s[k]'hlt).toNat : Nat) : Int) = 34 := by rw [hc', q]; rfl
          have HC : Hid (c = 34) := UInt8.toNat_inj.mp q
          clear hc hc' q
          go_wp2_with (first | (at_builtin; refine wpList_append_own _ rfl _ _ 60 rfl w.heap.size 5 i0 (.int .u8 0) 1 1 und_bs hi hz0 hz1 hz2 rfl (by decide) _ _ _ rfl (R3.out.own.alloc _) ⟨wr.heap.size, 0, none⟩ 2 2 [.int .u8 92, .int .u8 34] rfl rfl (World.news_of_block (cs := #[.int .u8 92, .int .u8 34]) (t := 5) (fr := (0, 0)) (heap_alloc_new _ _)) (by simp [Value.oneCell']) (by have := HL.out; have := HS.out; unfold maxLen; simp; omega) (by have := HL.out; have := HS.out; simp; omega) (by have := HZ.out; simp; omega) ?_) | go_in)
          intro v5 w5 ho5 hg5 _
          have B5 : Hid (RB w w5 v5 (34 :: M2)) := by rw [HT.out, p3, HC.out]; exact R3.out.app (m := [92, 34]) ho5 hg5
          clear ho5 hg5
          go_wp2
          go_roundw
          case rel => exact ⟨k + 1, by omega, by go_num, by rw [HM2.out]; exact B5⟩
          case measure => simp [intOf]; omega
        · have hc2 : (((s[k]'hlt).toNat : Nat) : Int) = 92 := by rw [hc', q]; rfl
          have HC : Hid (c = 92) := UInt8.toNat_inj.mp q
          clear hc hc' q
          go_wp2_with (first | (at_builtin; refine wpList_append_own _ rfl _ _ 60 rfl w.heap.size 5 i0 (.int .u8 0) 1 1 und_bs hi hz0 hz1 hz2 rfl (by decide) _ _ _ rfl (R3.out.own.alloc _) ⟨wr.heap.size, 0, none⟩ 2 2 [.int .u8 92, .int .u8 92] rfl rfl (World.news_of_block (cs := #[.int .u8 92, .int .u8 92]) (t := 5) (fr := (0, 0)) (heap_alloc_new _ _)) (by simp [Value.oneCell']) (by have := HL.out; have := HS.out; unfold maxLen; simp; omega) (by have := HL.out; have := HS.out; simp; omega) (by have := HZ.out; simp; omega) ?_) | go_in)
          intro v5 w5 ho5 hg5 _
          have B5 : Hid (RB w w5 v5 (34 :: M2)) := by rw [HT.out, p3, HC.out]; exact R3.out.app (m := [92, 92]) ho5 hg5
          clear ho5 hg5
          go_wp2
          go_roundw
          case rel => exact ⟨k + 1, by omega, by go_num, by rw [HM2.out]; exact B5⟩
          case measure => simp [intOf]; omega
      · rw [p1] at pl
        have n34 : specB c = false := by
          cases q : specB c with
          | false => rfl
          | true => rw [spec_plain c q] at p1; cases p1
        rw [n34] at sl
        simp only [Bool.false_eq, Bool.or_eq_false_iff, Bool.and_eq_false_iff, decide_eq_false_iff_not] at pl sl
        have n1 : ((c.toNat : Int) == 34) = false := by simp; omega
        have n2 : ((c.toNat : Int) == 92) = false := by simp; omega
        have g1 : c.toNat / 16 < 16 := by have := c.toNat_lt; omega
        have g2 : c.toNat % 16 < 16 := by omega
        have d1 : ∀ hh, ((⟨#[48, 49, 50, 51, 52, 53, 54, 55, 56, 57, 97, 98, 99, 100, 101, 102]⟩ : ByteArray)[c.toNat / 16]'hh).toNat = (hx (c >>> 4)).toNat := fun hh => by rw [hex_hi]
        have d2 : ∀ hh, ((⟨#[48, 49, 50, 51, 52, 53, 54, 55, 56, 57, 97, 98, 99, 100, 101, 102]⟩ : ByteArray)[c.toNat % 16]'hh).toNat = (hx (c &&& 15)).toNat := fun hh => by rw [hex_lo]
        obtain ⟨x1, hx1⟩ : ∃ x, (hx (c >>> 4)).toNat = x := ⟨_, rfl⟩
        obtain ⟨x2, hx2⟩ : ∃ x, (hx (c &&& 15)).toNat = x := ⟨_, rfl⟩
        have HX : Hid ((hx (c >>> 4)).toNat = x1 ∧ (hx (c &&& 15)).toNat = x2) := ⟨hx1, hx2⟩
        rw [hx1] at d1
        rw [hx2] at d2
        have an := and_15 c
        have m1 : (c.toNat : Int) / 16 = ((c.toNat / 16 : Nat) : Int) := by omega
        generalize c.toNat / 16 = r1 at *
        generalize c.toNat % 16 = r2 at *
        have v1 : (0 : Int) ≤ (r2 : Int) := by omega
        have v2 : (r2 : Int) < 16 := by omega
        have u1 : (0 : Int) ≤ (r1 : Int) := by omega
        have u2 : (r1 : Int) < 16 := by omega
        clear hx1 hx2 hc p1 n34 sl
        rcases pl with q | q
        · have g3 : (c.toNat : Int) < 32 := by omega
          clear q
          go_wp2_with fail
          go_region_held3 (fun _ => True) (trivial)
            ((refine step_append_lies _ (by rfl) _ _ _ (by rfl) w.heap.size 5 i0 (.int .u8 0) 1 1 und_bs hi hz0 hz1 hz2 rfl (by omega) _ _ _ (by rfl) ((R3.out.own.alloc _).drew) ⟨wr.heap.size, 0, none⟩ 4 4 [.int .u8 92, .int .u8 120, .int .u8 (x1 : Int), .int .u8 (x2 : Int)] (by rfl) (by rfl) (World.news_of_block (cs := #[.int .u8 92, .int .u8 120, .int .u8 (x1 : Int), .int .u8 (x2 : Int)]) (t := 5) (fr := (0, 0)) (heap_alloc_new wr _)) (by simp [Value.oneCell']) (by omega) (by have := HL.out; have := HS.out; unfold maxLen; simp; omega) (by have := HL.out; have := HS.out; simp; omega) (by have := HZ.out; simp; omega) (wr.heap.size + 1) (by simp) ?_; intro gg cap w5 ho5 hg5 hat hlt2))
          all_goals
            have B5 : Hid (RB w w5 (.slice (some ⟨gg, 0, none⟩) ((34 :: M).length + 4) cap) (34 :: M2)) := by
              rw [HT.out, p3]
              refine ⟨?_, ((R3.out.bel.alloc HZ.out _).drew).grown hg5 (by have := HZ.out; simp; omega) (fun q hq => (R3.out.own.lt q hq).1)⟩
              have e : Lib.byteCells (34 :: (M ++ [92, 120, hx (c >>> 4), hx (c &&& 15)])) = Lib.byteCells (34 :: M) ++ [.int .u8 92, .int .u8 120, .int .u8 (x1 : Int), .int .u8 (x2 : Int)] := by
                rw [← HX.out.1, ← HX.out.2]
                exact cells_append (34 :: M) [92, 120, hx (c >>> 4), hx (c &&& 15)]
              rw [e]
              simpa using ho5
            clear ho5 hg5 hat hlt2
            go_wp2
            go_roundw
            case rel => exact ⟨k + 1, by omega, by go_num, by rw [HM2.out]; exact B5⟩
            case measure => simp [intOf]; omega
        · have g3 : ¬ (c.toNat : Int) < 32 := by omega
          have g4 : (126 : Int) < (c.toNat : Int) := by omega
          clear q
          go_wp2_with fail
          go_region_held3 (fun _ => True) (trivial)
            ((refine step_append_lies _ (by rfl) _ _ _ (by rfl) w.heap.size 5 i0 (.int .u8 0) 1 1 und_bs hi hz0 hz1 hz2 rfl (by omega) _ _ _ (by rfl) ((R3.out.own.alloc _).drew) ⟨wr.heap.size, 0, none⟩ 4 4 [.int .u8 92, .int .u8 120, .int .u8 (x1 : Int), .int .u8 (x2 : Int)] (by rfl) (by rfl) (World.news_of_block (cs := #[.int .u8 92, .int .u8 120, .int .u8 (x1 : Int), .int .u8 (x2 : Int)]) (t := 5) (fr := (0, 0)) (heap_alloc_new wr _)) (by simp [Value.oneCell']) (by omega) (by have := HL.out; have := HS.out; unfold maxLen; simp; omega) (by have := HL.out; have := HS.out; simp; omega) (by have := HZ.out; simp; omega) (wr.heap.size + 1) (by simp) ?_; intro gg cap w5 ho5 hg5 hat hlt2))
          all_goals
            have B5 : Hid (RB w w5 (.slice (some ⟨gg, 0, none⟩) ((34 :: M).length + 4) cap) (34 :: M2)) := by
              rw [HT.out, p3]
              refine ⟨?_, ((R3.out.bel.alloc HZ.out _).drew).grown hg5 (by have := HZ.out; simp; omega) (fun q hq => (R3.out.own.lt q hq).1)⟩
              have e : Lib.byteCells (34 :: (M ++ [92, 120, hx (c >>> 4), hx (c &&& 15)])) = Lib.byteCells (34 :: M) ++ [.int .u8 92, .int .u8 120, .int .u8 (x1 : Int), .int .u8 (x2 : Int)] := by
                rw [← HX.out.1, ← HX.out.2]
                exact cells_append (34 :: M) [92, 120, hx (c >>> 4), hx (c &&& 15)]
              rw [e]
              simpa using ho5
            clear ho5 hg5 hat hlt2
            go_wp2
            go_roundw
            case rel => exact ⟨k + 1, by omega, by go_num, by rw [HM2.out]; exact B5⟩
            case measure => simp [intOf]; omega
    · obtain rfl : k = s.size := by omega
      have e1 : s.data.toList.take s.size = s.data.toList := List.take_of_length_le (by simp)
      rw [e1] at R3 HL
      have HZ : Hid (w.heap.size ≤ wr.heap.size) := R3.out.bel.size
      go_wp2_with (first | (at_builtin; refine wpList_append_own _ rfl _ _ 60 rfl w.heap.size 5 i0 (.int .u8 0) 1 1 und_bs hi hz0 hz1 hz2 rfl (by decide) _ _ _ rfl (R3.out.own.alloc _) ⟨wr.heap.size, 0, none⟩ 1 1 [.int .u8 34] rfl rfl (World.news_of_block (cs := #[.int .u8 34]) (t := 5) (fr := (0, 0)) (heap_alloc_new _ _)) (by simp [Value.oneCell']) (by have := HL.out; have := HS.out; unfold maxLen; simp; omega) (by have := HL.out; have := HS.out; simp; omega) (by have := HZ.out; simp; omega) ?_) | go_in)
      intro v5 w5 ho5 hg5 _
      have B5 : Hid (RB w w5 v5 (qL s.data.toList)) := R3.out.app (m := [34]) ho5 hg5
      have cv := B5.out.text
      clear ho5 hg5
      go_wp2
      go_ret
      exact ⟨rfl, B5.out.bel⟩
end Go.Proofs.YtelobjhmbabiaaaDoor
