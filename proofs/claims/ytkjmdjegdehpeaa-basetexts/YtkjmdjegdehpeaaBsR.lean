/-
  The document's Is, Head, Clean: what they answer for every text.
-/
import Derived.Test.YtkjmdjegdehpeaaBsK
import Derived.Lib.BufferWrite
import Derived.Deep.AppendLies
import Derived.Laws.BytesArg
import Derived.OwnWalk
namespace Go.Proofs.Ytkjmdjegdehpeaa
open Go.RowKit

theorem is_at (s : ByteArray) (k : Nat) (h : k < s.size) (b : Nat) (hb : b ≤ 36) (w : World) :
    Calls Try.prog 32 #[.string s, .int .i64 (k : Int), .int .i64 (b : Int)] w fun e w' => e = .returned (.bool (isD b (s[k]'h))) ∧ w' = w := by
  have R := fun W => rvalue_any (s[k]'h).toNat (UInt8.toNat_lt _) W
  unfold isD
  obtain ⟨x, hx⟩ : ∃ x, (s[k]'h).toNat = x := ⟨_, rfl⟩
  rw [hx] at R ⊢
  have hx' : (((s[k]'h).toNat : Nat) : Int) = (x : Int) := by rw [hx]
  clear hx
  by_cases q : dv x < 36
  · rw [rv_pos q] at R
    clear q
    generalize dv x = n at *
    go_enter Try.func32, Try.ntmps32
    go_wp2_with fail
    refine (R _).mono ?_
    rintro e w ⟨rfl, rfl⟩
    go_wp2
    go_ret
    exact ⟨rfl, rfl⟩
  · rw [rv_neg q] at R
    rw [decide_eq_false (show ¬ dv x < b by omega)]
    clear q
    go_enter Try.func32, Try.ntmps32
    go_wp2_with fail
    refine (R _).mono ?_
    rintro e w ⟨rfl, rfl⟩
    go_wp2
    go_ret
    exact ⟨rfl, rfl⟩
theorem is_out (s : ByteArray) (i : Int) (h : i < 0 ∨ (s.size : Int) ≤ i) (b : Int) (w : World) :
    Calls Try.prog 32 #[.string s, .int .i64 i, .int .i64 b] w fun e w' => e = .returned (.bool false) ∧ w' = w := by
  rcases h with h | h
  · go_enter Try.func32, Try.ntmps32
    go_wp2
    go_ret
    exact ⟨rfl, rfl⟩
  · have h1 : ¬ i < 0 := by omega
    go_enter Try.func32, Try.ntmps32
    go_wp2
    go_ret
    exact ⟨rfl, rfl⟩

set_option maxRecDepth 100000 in
set_option maxHeartbeats 1000000 in
theorem rhead_yes (s : ByteArray) (hs : s.size ≤ 140737488355327) (b : Nat) (h1 : 2 ≤ b) (h2 : b ≤ 36) (w : World) :
    Calls Try.prog 20 #[.string s, .int .i64 (b : Int)] w fun e w' => e = .returned (.tuple #[.int .i64 (hdn b s.data.toList : Int), .int .i64 0]) ∧ w' = w := by
  have V := fun W => rvalid_yes (b : Int) (by omega) (by omega) W
  have I := fun k h W => is_at s k h b h2 W
  have O := fun W => is_out s (s.size : Int) (by omega) (b : Int) W
  obtain ⟨n, hn⟩ : ∃ n, n = hdn b s.data.toList := ⟨_, rfl⟩
  rw [← hn]
  have HN : Hid (n = hdn b s.data.toList) := hn
  clear hn h1 h2
  go_enter Try.func20, Try.ntmps20
  go_wp2_with fail
  refine (V _).mono ?_
  rintro e w ⟨rfl, rfl⟩
  go_wp2
  go_loop [6] (fun i => ∃ k : Nat, k ≤ s.size ∧ i = .int .i64 (k : Int) ∧ Hid (n = k + hdn b (s.data.toList.drop k))) (fun i => s.size - (intOf i).toNat)
  case atStart => exact ⟨0, Nat.zero_le _, rfl, by rw [List.drop_zero, Nat.zero_add]; exact HN.out⟩
  case round =>
    clear V HN
    obtain ⟨k, hk, rfl, HK⟩ := hrel
    by_cases hlt : k < s.size
    · have hd := drop_at s hlt
      have I1 := fun W => I k hlt W
      by_cases q : isD b (s[k]'hlt) = true
      · rw [q] at I1
        have HK2 : Hid (n = (k + 1) + hdn b (s.data.toList.drop (k + 1))) := by
          show _ = _
          rw [HK.out, hd, hdn_yes q]; omega
        clear hd q I O
        go_wp2_with fail
        refine (I1 _).mono ?_
        rintro e w ⟨rfl, rfl⟩
        go_wp2
        go_round
        case rel => exact ⟨k + 1, by omega, by go_num, HK2⟩
        case measure => simp [intOf]; omega
      · have q' : isD b (s[k]'hlt) = false := by simpa using q
        rw [q'] at I1
        have HK2 : Hid (n = k) := by
          show _ = _
          rw [HK.out, hd, hdn_no q']; omega
        clear hd q q' I O
        go_wp2_with fail
        refine (I1 _).mono ?_
        rintro e w ⟨rfl, rfl⟩
        go_wp2
        go_ret2
        exact ⟨by rw [HK2.out]; rfl, rfl⟩
    · have HK2 : Hid (n = k) := by
        show _ = _
        rw [HK.out, drop_end s hlt]; rfl
      obtain rfl : k = s.size := by omega
      clear I
      go_wp2_with fail
      refine (O _).mono ?_
      rintro e w ⟨rfl, rfl⟩
      go_wp2
      go_ret2
      exact ⟨by rw [HK2.out]; rfl, rfl⟩
theorem rhead_no (s : ByteArray) (b : Int) (h : b < 2 ∨ 36 < b) (w : World) :
    Calls Try.prog 20 #[.string s, .int .i64 b] w fun e w' => e = .returned (.tuple #[.int .i64 0, .int .i64 7]) ∧ w' = w := by
  have V := fun W => rvalid_no b h W
  go_enter Try.func20, Try.ntmps20
  go_wp2_with fail
  refine (V _).mono ?_
  rintro e w ⟨rfl, rfl⟩
  go_wp2
  go_ret2
  exact ⟨rfl, rfl⟩

theorem info_parts {T : Type} {o : Option T} {f : T → Option Value × Nat × Nat} {a : Option Value} {b c : Nat} (h : o.map f = some (a, b, c)) : ∃ i, o = some i ∧ (f i).1 = a ∧ (f i).2.1 = b ∧ (f i).2.2 = c := by
  obtain ⟨i, hi, e⟩ := Option.map_eq_some_iff.1 h
  exact ⟨i, hi, by rw [e], by rw [e], by rw [e]⟩
theorem und_bs : Try.prog.underlying 53 = some (.slice 5) := by kernel_rfl
theorem und_b8 : Try.prog.underlying 5 = some (.int .u8) := by kernel_rfl
theorem und_s9 : Try.prog.underlying 9 = some .string := by kernel_rfl
theorem info_b8 : (Try.prog.info? 5).map (fun i => (i.zero, i.size, i.bytes)) = some (some (.int .u8 0), 1, 1) := by kernel_rfl
/-- A row of bytes that the call owns. -/
theorem add_plain0 (b o j : Nat) : (⟨b, o, none⟩ : Addr).add j = ⟨b, o + j, none⟩ := by unfold Addr.add; split <;> simp_all
structure RB (w wr : World) (v : Value) (l : List UInt8) : Prop where
  own : wr.ownsRow w.heap.size 5 1 v l.length (Lib.byteCells l)
  bel : Below w.heap.size w wr
theorem cells_append (a b : List UInt8) : Lib.byteCells (a ++ b) = Lib.byteCells a ++ Lib.byteCells b := by simp [Lib.byteCells]
theorem RB.app {w wr w3 : World} {v v' : Value} {l m : List UInt8} {o : Obj} (h : RB w wr v l) (ho : w3.ownsRow w.heap.size 5 1 v' (l.length + m.length) (Lib.byteCells l ++ Lib.byteCells m)) (hg : (wr.alloc o).grownBy w3 v.ownBlock) : RB w w3 v' (l ++ m) := by
  have hs := h.bel.size
  refine ⟨?_, (h.bel.alloc hs _).grown hg (by rw [World.size_alloc]; omega) (fun q hq => (h.own.lt q hq).1)⟩
  rw [cells_append, List.length_append]
  exact ho
theorem nums_text (l : List UInt8) : strOfNums (l.map fun c => (c.toNat : Int)) = ⟨l.toArray⟩ := by
  unfold strOfNums
  simp [Function.comp_def]
theorem RB.text {w wr : World} {v : Value} {l : List UInt8} (h : RB w wr v l) : (Go.convert 53 9 v).run Try.prog wr = .ok (.string ⟨l.toArray⟩) wr := by
  rcases h.own.2 with ⟨rfl, h0⟩ | ⟨g, cap, cur, rfl, _⟩
  · obtain rfl : l = [] := List.length_eq_zero_iff.mp h0
    kernel_rfl
  · have hc := h.own.cells (g := g) rfl
    have := run_convert_bytes_arg wr 53 5 und_bs und_b8 g 0 l.length cap (l.map fun c => (c.toNat : Int)) (by simp) (fun i hi => by
      have q := hc i (.int .u8 ((l[i]'hi).toNat : Int)) (by unfold Lib.byteCells; simp [hi])
      have e : (⟨g, 0, none⟩ : Addr).add i = ⟨g, 0 + i, none⟩ := add_plain0 g 0 i
      rw [e] at q
      rw [q]
      congr 2
      simp [List.getD_eq_getElem?_getD, hi]) 9 und_s9
    rw [nums_text] at this
    exact this
theorem RB.len {w wr : World} {v : Value} {l : List UInt8} (h : RB w wr v l) : ∃ ao c, v = .slice ao l.length c := by
  rcases h.own.2 with ⟨rfl, h0⟩ | ⟨g, cap, cur, rfl, _⟩
  · exact ⟨none, 0, by rw [h0]⟩
  · exact ⟨_, _, rfl⟩

/-- May an underscore stand at a place, by what stands ahead of it? -/
def jAt (s : ByteArray) (b : Nat) (pre : Bool) (k : Nat) : Bool := if k = 0 then pre else decide (dv (bt s (k - 1)) < b)
theorem jAt_zero (s : ByteArray) (b : Nat) (pre : Bool) : jAt s b pre 0 = pre := by unfold jAt; rw [if_pos rfl]
theorem jAt_succ {s : ByteArray} {b : Nat} {pre : Bool} {k : Nat} (h : k < s.size) : jAt s b pre (k + 1) = isD b (s[k]'h) := by unfold jAt isD; rw [if_neg (by omega), Nat.add_sub_cancel, bt_in h]
/-- How far the document's Clean has come. -/
structure ClR (w wr : World) (s : ByteArray) (b : Nat) (pre : Bool) (k : Nat) (v : Value) (o : List UInt8) : Prop where
  row : RB w wr v o
  len : o.length ≤ k
  go : cgo b pre s.data.toList = (cgo b (jAt s b pre k) (s.data.toList.drop k)).map (o ++ ·)
/-- What the document's Clean answers. -/
def rclV : Option (List UInt8) → Value
  | some o => .tuple #[.string ⟨o.toArray⟩, .int .i64 0]
  | none => .tuple #[.string ⟨#[]⟩, .int .i64 3]
theorem hdD_in {s : ByteArray} {b k : Nat} (h : k < s.size) : hdD b (s.data.toList.drop k) = isD b (s[k]'h) := by rw [drop_at s h]; rfl
theorem hdD_out {s : ByteArray} {b k : Nat} (h : ¬ k < s.size) : hdD b (s.data.toList.drop k) = false := by rw [drop_end s h]; rfl

set_option maxRecDepth 100000 in
set_option maxHeartbeats 4000000 in
theorem rclean_yes (s : ByteArray) (hs : s.size ≤ 140737488355327) (b : Nat) (h1 : 2 ≤ b) (h2 : b ≤ 36) (pre : Bool) (w : World) :
    Calls Try.prog 18 #[.string s, .int .i64 (b : Int), .bool pre] w fun e w' => e = .returned (rclV (clean b pre s.data.toList)) ∧ Below w.heap.size w w' := by
  obtain ⟨i0, hi, hz0, hz1, hz2⟩ := info_parts info_b8
  have V := fun W => rvalid_yes (b : Int) (by omega) (by omega) W
  have I := fun k h W => is_at s k h b h2 W
  have O := fun i h W => is_out s i h (b : Int) W
  have HS : Hid (s.size ≤ 140737488355327 ∧ b ≤ 36) := ⟨hs, h2⟩
  have hs2 : s.size ≤ 9223372036854775805 := by omega
  clear hs h1 h2
  obtain ⟨R, hR⟩ : ∃ R, R = clean b pre s.data.toList := ⟨_, rfl⟩
  rw [← hR]
  have HR : Hid (R = clean b pre s.data.toList) := hR
  clear hR
  go_enter Try.func18, Try.ntmps18
  go_wp2_with fail
  refine (V _).mono ?_
  rintro e w ⟨rfl, rfl⟩
  clear V
  have B1 : Hid (ClR w w s b pre 0 (.slice none 0 0) []) := ⟨⟨World.ownsRow_nil _ _ _ _, Below.refl _ _⟩, Nat.le_refl _, by rw [List.drop_zero, jAt_zero]; simp⟩
  go_wp2
  go_loopw [8, 9] (fun v i wr => ∃ (k : Nat) (o : List UInt8), k ≤ s.size ∧ i = .int .i64 (k : Int) ∧ Hid (ClR w wr s b pre k v o)) (fun _ i _ => s.size - (intOf i).toNat)
  case atStart => exact ⟨0, [], Nat.zero_le _, rfl, B1⟩
  case round =>
    clear B1
    obtain ⟨k, o, hk, rfl, B3⟩ := hrel
    by_cases hlt : k < s.size
    · have HT : Hid (s.data.toList.drop k = (s[k]'hlt) :: s.data.toList.drop (k + 1)) := drop_at s hlt
      have HJ : Hid (jAt s b pre (k + 1) = isD b (s[k]'hlt)) := jAt_succ hlt
      have I1 := fun W => I k hlt W
      have HZ : Hid (w.heap.size ≤ wr.heap.size) := B3.out.row.bel.size
      obtain ⟨c, hc⟩ : ∃ c, s[k]'hlt = c := ⟨_, rfl⟩
      rw [hc] at HT HJ I1
      have hc' : (((s[k]'hlt).toNat : Nat) : Int) = (c.toNat : Int) := by rw [hc]
      by_cases q : isD b c = true
      · rw [q] at I1
        have HQ : Hid (isD b c = true) := q
        clear hc q I O
        go_wp2_with fail
        refine (I1 _).mono ?_
        rintro e wr ⟨rfl, rfl⟩
        go_wp2_with (first | (at_builtin; refine wpList_append_own _ rfl _ _ 53 rfl w.heap.size 5 i0 (.int .u8 0) 1 1 und_bs hi hz0 hz1 hz2 rfl (by decide) _ _ _ rfl (B3.out.row.own.alloc _) ⟨wr.heap.size, 0, none⟩ 1 1 [.int .u8 (c.toNat : Int)] rfl rfl (World.news_of_block (cs := #[.int .u8 (c.toNat : Int)]) (t := 5) (fr := (0, 0)) (heap_alloc_new _ _)) (by simp [Value.oneCell']) (by have := B3.out.len; have := HS.out; unfold maxLen; simp; omega) (by have := B3.out.len; have := HS.out; simp; omega) (by have := HZ.out; simp; omega) ?_) | go_in)
        intro v5 w5 ho5 hg5 _
        have B5 : Hid (ClR w w5 s b pre (k + 1) v5 (o ++ [c])) := ⟨B3.out.row.app (m := [c]) ho5 hg5, by have := B3.out.len; simp; omega, map_step (by rw [B3.out.go, HT.out, cgo_digit HQ.out, HJ.out, HQ.out])⟩
        clear ho5 hg5
        go_wp2
        go_roundw
        case rel => exact ⟨k + 1, o ++ [c], by omega, by go_num, B5⟩
        case measure => simp [intOf]; omega
      · have q' : isD b c = false := by simpa using q
        rw [q'] at I1
        have HQ : Hid (isD b c = false) := q'
        clear q q'
        by_cases z : c = 95
        · have hc2 : (((s[k]'hlt).toNat : Nat) : Int) = 95 := by rw [hc, z]; rfl
          have HC : Hid (c = 95) := z
          clear hc hc' z
          by_cases g : hdD b (s.data.toList.drop (k + 1)) = true
          · have hlt2 : k + 1 < s.size := by
              rcases Nat.lt_or_ge (k + 1) s.size with y | y
              · exact y
              · rw [hdD_out (by omega)] at g; cases g
            have I2 := fun W => I (k + 1) hlt2 W
            have gq : isD b (s[k + 1]'hlt2) = true := by rw [← hdD_in hlt2]; exact g
            rw [gq] at I2
            simp only [Int.natCast_add, Int.natCast_one] at I2
            have HG : Hid (hdD b (s.data.toList.drop (k + 1)) = true) := g
            clear g gq
            rcases Nat.eq_zero_or_pos k with k0 | k0
            · subst k0
              have O1 := fun W => O (-1) (by omega) W
              clear I O
              cases pre with
              | true =>
                have B5 : Hid (ClR w wr s b true (0 + 1) u8 o) := ⟨B3.out.row, by have := B3.out.len; omega, by rw [B3.out.go, HT.out, jAt_zero, cgo_bar HQ.out HC.out HG.out, HJ.out, HQ.out]⟩
                go_wp2_with fail
                refine (I1 _).mono ?_
                rintro e wr ⟨rfl, rfl⟩
                go_wp2_with fail
                refine (I2 _).mono ?_
                rintro e wr ⟨rfl, rfl⟩
                go_wp2_with fail
                refine (O1 _).mono ?_
                rintro e wr ⟨rfl, rfl⟩
                go_wp2
                go_roundw
                case rel => exact ⟨0 + 1, o, by omega, by go_num, B5⟩
                case measure => simp [intOf]; omega
              | false =>
                have HN : Hid (R = none) := by
                  show _ = _
                  rw [HR.out]
                  exact clean_none (by rw [B3.out.go, HT.out, jAt_zero, cgo_bad HQ.out (fun y => by cases y.2.1)]; rfl)
                go_wp2_with fail
                refine (I1 _).mono ?_
                rintro e wr ⟨rfl, rfl⟩
                go_wp2_with fail
                refine (I2 _).mono ?_
                rintro e wr ⟨rfl, rfl⟩
                go_wp2_with fail
                refine (O1 _).mono ?_
                rintro e wr ⟨rfl, rfl⟩
                go_wp2
                go_ret2
                exact ⟨by rw [HN.out]; rfl, B3.out.row.bel⟩
            · obtain ⟨m, rfl⟩ : ∃ m, k = m + 1 := ⟨k - 1, by omega⟩
              have hm : m < s.size := by omega
              have HJ0 : Hid (jAt s b pre (m + 1) = isD b (s[m]'hm)) := jAt_succ hm
              have O1 := fun W => I m hm W
              have km : ((m + 1 : Nat) : Int) - 1 = (m : Int) := by omega
              have kp : ¬ ((m + 1 : Nat) : Int) ≤ 0 := by omega
              clear I O
              cases ge : isD b (s[m]'hm) with
              | true =>
                rw [ge] at HJ0 O1
                have B5 : Hid (ClR w wr s b pre (m + 1 + 1) u8 o) := ⟨B3.out.row, by have := B3.out.len; omega, by rw [B3.out.go, HT.out, HJ0.out, cgo_bar HQ.out HC.out HG.out, HJ.out, HQ.out]⟩
                clear ge
                go_wp2_with fail
                refine (I1 _).mono ?_
                rintro e wr ⟨rfl, rfl⟩
                go_wp2_with fail
                refine (I2 _).mono ?_
                rintro e wr ⟨rfl, rfl⟩
                go_wp2_with fail
                refine (O1 _).mono ?_
                rintro e wr ⟨rfl, rfl⟩
                go_wp2
                go_roundw
                case rel => exact ⟨m + 1 + 1, o, by omega, by go_num, B5⟩
                case measure => simp [intOf]; omega
              | false =>
                rw [ge] at HJ0 O1
                have HN : Hid (R = none) := by
                  show _ = _
                  rw [HR.out]
                  exact clean_none (by rw [B3.out.go, HT.out, HJ0.out, cgo_bad HQ.out (fun y => by cases y.2.1)]; rfl)
                clear ge
                go_wp2_with fail
                refine (I1 _).mono ?_
                rintro e wr ⟨rfl, rfl⟩
                go_wp2_with fail
                refine (I2 _).mono ?_
                rintro e wr ⟨rfl, rfl⟩
                go_wp2_with fail
                refine (O1 _).mono ?_
                rintro e wr ⟨rfl, rfl⟩
                go_wp2
                go_ret2
                exact ⟨by rw [HN.out]; rfl, B3.out.row.bel⟩
          · have HN : Hid (R = none) := by
              show _ = _
              rw [HR.out]
              exact clean_none (by rw [B3.out.go, HT.out, cgo_bad HQ.out (fun y => g y.2.2)]; rfl)
            have I2 : ∀ W, Calls Try.prog 32 #[.string s, .int .i64 ((k : Int) + 1), .int .i64 (b : Int)] W fun e w' => e = .returned (.bool false) ∧ w' = W := fun W => by
              rcases Nat.lt_or_ge (k + 1) s.size with y | y
              · have x := I (k + 1) y W
                have gq : isD b (s[k + 1]'y) = false := by
                  rw [← hdD_in y]; simpa using g
                rw [gq] at x
                exact x
              · exact O ((k : Int) + 1) (by omega) W
            clear g I O
            go_wp2_with fail
            refine (I1 _).mono ?_
            rintro e wr ⟨rfl, rfl⟩
            go_wp2_with fail
            refine (I2 _).mono ?_
            rintro e wr ⟨rfl, rfl⟩
            go_wp2
            go_ret2
            exact ⟨by rw [HN.out]; rfl, B3.out.row.bel⟩
        · have z2 : ((c.toNat : Int) != 95) = true := by
            refine bne_iff_ne.mpr fun y => z (UInt8.toNat_inj.mp ?_)
            exact Int.ofNat_inj.mp y
          have HN : Hid (R = none) := by
            show _ = _
            rw [HR.out]
            exact clean_none (by rw [B3.out.go, HT.out, cgo_bad HQ.out (fun y => z y.1)]; rfl)
          clear hc z I O
          go_wp2_with fail
          refine (I1 _).mono ?_
          rintro e wr ⟨rfl, rfl⟩
          go_wp2
          go_ret2
          exact ⟨by rw [HN.out]; rfl, B3.out.row.bel⟩
    · obtain rfl : k = s.size := by omega
      have HE : Hid (cgo b pre s.data.toList = some o) := by
        have := B3.out.go
        rw [drop_end s hlt] at this
        show _ = _
        rw [this]
        show some (o ++ []) = _
        rw [List.append_nil]
      have cv := B3.out.row.text
      obtain ⟨ao, cp, rfl⟩ := B3.out.row.len
      clear I O
      by_cases ho : o = []
      · have HN : Hid (R = none) := by
          show _ = _
          rw [HR.out]
          exact clean_nil (by rw [HE.out, ho])
        have hl : ((o.length : Int) == 0) = true := by rw [ho]; rfl
        clear ho
        generalize hln : (o.length : Int) = ln at *
        go_wp2
        go_ret2
        exact ⟨by rw [HN.out]; rfl, B3.out.row.bel⟩
      · have hl : ((o.length : Int) == 0) = false := beq_eq_false_iff_ne.mpr fun y => ho (List.length_eq_zero_iff.mp (by omega))
        have HN : Hid (R = some o) := by
          show _ = _
          rw [HR.out]
          exact clean_some HE.out ho
        clear ho
        go_wp2
        go_ret2
        exact ⟨by rw [HN.out]; rfl, B3.out.row.bel⟩
theorem rclean_no (s : ByteArray) (b : Int) (h : b < 2 ∨ 36 < b) (pre : Bool) (w : World) :
    Calls Try.prog 18 #[.string s, .int .i64 b, .bool pre] w fun e w' => e = .returned (.tuple #[.string ⟨#[]⟩, .int .i64 7]) ∧ w' = w := by
  have V := fun W => rvalid_no b h W
  go_enter Try.func18, Try.ntmps18
  go_wp2_with fail
  refine (V _).mono ?_
  rintro e w ⟨rfl, rfl⟩
  go_wp2
  go_ret2
  exact ⟨rfl, rfl⟩
end Go.Proofs.Ytkjmdjegdehpeaa
