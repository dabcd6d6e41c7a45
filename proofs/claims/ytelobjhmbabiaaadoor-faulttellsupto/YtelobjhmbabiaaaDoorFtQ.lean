/-
  fault's Quote: what it answers for every text.
-/
import Derived.Test.YtelobjhmbabiaaaDoorFtM
import Derived.Test.YtelobjhmbabiaaaDoorShelf
import Derived.WalkKit
import Derived.Deep.DeepMust
import Derived.Deep.RegionHeld3
namespace Go.Proofs.YtelobjhmbabiaaaDoor
open Go.RowKit

set_option maxRecDepth 100000 in
theorem plain_any (c : UInt8) (w : World) : Calls Tryd.prog 38 #[.int .u8 (c.toNat : Int)] w fun e w' => e = .returned (.bool (plainB c)) ∧ w' = w := by
  have key : plainB c = (decide (32 ≤ c.toNat) && decide (c.toNat ≤ 126)) := by simp [plainB, UInt8.le_iff_toNat_le]
  rw [key]
  generalize c.toNat = x
  by_cases h1 : 32 ≤ x
  · have h1' : ¬ (x : Int) < 32 := by omega
    by_cases h2 : x ≤ 126
    · have h2' : ¬ (126 : Int) < (x : Int) := by omega
      simp only [h1, h2, decide_true, Bool.and_self]
      clear h1 h2
      go_enter Tryd.func38, Tryd.ntmps38
      go_wp2
      go_ret
      exact ⟨rfl, rfl⟩
    · have h2' : (126 : Int) < (x : Int) := by omega
      simp only [h1, h2, decide_true, decide_false, Bool.and_false]
      clear h1 h2
      go_enter Tryd.func38, Tryd.ntmps38
      go_wp2
      go_ret
      exact ⟨by show Ending.returned (.bool (decide ((x : Int) ≤ 126))) = _; rw [decide_eq_false (by omega)], rfl⟩
  · have h1' : (x : Int) < 32 := by omega
    simp only [h1, decide_false, Bool.false_and]
    clear h1
    go_enter Tryd.func38, Tryd.ntmps38
    go_wp2
    go_ret
    exact ⟨rfl, rfl⟩

set_option maxRecDepth 100000 in
theorem special_any (c : UInt8) (w : World) : Calls Tryd.prog 39 #[.int .u8 (c.toNat : Int)] w fun e w' => e = .returned (.bool (specB c)) ∧ w' = w := by
  have key : specB c = (decide (c.toNat = 34) || decide (c.toNat = 92)) := by
    unfold specB
    congr 1 <;> (simp only [decide_eq_decide]; rw [← UInt8.toNat_inj]; rfl)
  rw [key]
  generalize c.toNat = x
  by_cases h1 : x = 34
  · subst h1
    go_enter Tryd.func39, Tryd.ntmps39
    go_wp2
    go_ret
    exact ⟨rfl, rfl⟩
  · have h1' : ((x : Int) == 34) = false := by simp; omega
    by_cases h2 : x = 92
    · subst h2
      go_enter Tryd.func39, Tryd.ntmps39
      go_wp2
      go_ret
      exact ⟨rfl, rfl⟩
    · have h2' : ((x : Int) == 92) = false := by simp; omega
      simp only [h1, h2, decide_false, Bool.or_false]
      clear h1 h2
      go_enter Tryd.func39, Tryd.ntmps39
      go_wp2
      go_ret
      exact ⟨rfl, rfl⟩

theorem list_data (s : ByteArray) : s.toList = s.data.toList := by
  have go : ∀ (n i : Nat) (r : List UInt8), n = s.size - i → ByteArray.toList.loop s i r = r.reverse ++ s.data.toList.drop i := by
    intro n
    induction n with
    | zero =>
      intro i r h
      rw [ByteArray.toList.loop, if_neg (by omega), List.drop_eq_nil_of_le (by simpa using (show s.size ≤ i by omega))]
      simp
    | succ n ih =>
      intro i r h
      have hi : i < s.size := by omega
      have hl : i < s.data.toList.length := by simpa using hi
      rw [ByteArray.toList.loop, if_pos hi, ih (i + 1) _ (by omega), List.drop_eq_getElem_cons hl, List.reverse_cons, List.append_assoc]
      congr 1
      simp only [List.singleton_append, List.cons.injEq, and_true]
      simp [ByteArray.get!, hi]
  show ByteArray.toList.loop s 0 [] = _
  simpa using go s.size 0 [] (by omega)
theorem len_data (s : ByteArray) : s.data.toList.length = s.size := by simp
theorem take_get (s : ByteArray) {k : Nat} (h : k < s.size) : s.data.toList.take (k + 1) = s.data.toList.take k ++ [s[k]'h] := by
  have hl : k < s.data.toList.length := by simpa using h
  rw [List.take_succ_eq_append_getElem hl]
  rfl
theorem qIn_take (s : ByteArray) {k : Nat} (h : k < s.size) : qIn (s.data.toList.take (k + 1)) = qIn (s.data.toList.take k) ++ esc (s[k]'h) := by
  rw [take_get s h, qIn_append, qIn_one]
/-- The builder of a call, in the world wr: what is in it. -/
structure Bld (w wr : World) (b : Nat) (l : List UInt8) : Prop where
  bd : Lib.IsBuilder 62 5 w.heap.size b (Lib.byteCells l) wr
  bel : Below w.heap.size w wr
theorem bld_write {w wr : World} {b : Nat} {l : List UInt8} (h : Bld w wr b l) (c : UInt8) {x : Int} (hx : (c.toNat : Int) = x) (hl : l.length + 1 ≤ 140737488355328) :
    Calls Tryd.prog 35 #[.pointer (some ⟨b, 0, none⟩), .int .u8 x] wr fun e w' => e = .returned .nilIface ∧ Bld w w' b (l ++ [c]) := by
  subst hx
  exact (writeByte_any w.heap.size b l c wr h.bd hl h.bel.size).mono fun _ _ q => ⟨q.1, q.2.1, h.bel.trans q.2.2⟩
theorem hex_at (d : UInt8) (h : d.toNat < 16) : ∀ hh, ((⟨#[48, 49, 50, 51, 52, 53, 54, 55, 56, 57, 97, 98, 99, 100, 101, 102]⟩ : ByteArray)[d.toNat]'hh) = hx d := by
  have key : ∀ r : Fin 16, ((⟨#[48, 49, 50, 51, 52, 53, 54, 55, 56, 57, 97, 98, 99, 100, 101, 102]⟩ : ByteArray)[r.val]'r.isLt) = hx (UInt8.ofNat r.val) := by decide
  intro hh
  have := key ⟨d.toNat, h⟩
  simpa using this
theorem hex_hi (c : UInt8) : ∀ hh, ((⟨#[48, 49, 50, 51, 52, 53, 54, 55, 56, 57, 97, 98, 99, 100, 101, 102]⟩ : ByteArray)[c.toNat / 16]'hh) = hx (c >>> 4) := by
  intro hh
  have e : c.toNat / 16 = (c >>> 4).toNat := by simp [UInt8.toNat_shiftRight, Nat.shiftRight_eq_div_pow]
  have h := c.toNat_lt
  have k := hex_at (c >>> 4) (by omega) (by rw [← e]; exact hh)
  simp only [e]; exact k
theorem hex_lo (c : UInt8) : ∀ hh, ((⟨#[48, 49, 50, 51, 52, 53, 54, 55, 56, 57, 97, 98, 99, 100, 101, 102]⟩ : ByteArray)[c.toNat % 16]'hh) = hx (c &&& 15) := by
  intro hh
  have e : c.toNat % 16 = (c &&& 15).toNat := by
    have := Nat.and_two_pow_sub_one_eq_mod c.toNat 4
    simpa using this.symm
  have k := hex_at (c &&& 15) (by rw [← e]; omega) (by rw [← e]; exact hh)
  simp only [e]; exact k
theorem take_len (s : ByteArray) (k : Nat) : (qIn (s.data.toList.take k)).length ≤ 4 * s.size := by
  have a := qIn_length_le (s.data.toList.take k)
  have b : (s.data.toList.take k).length ≤ s.size := by simp; omega
  omega

set_option maxRecDepth 100000 in
set_option maxHeartbeats 2000000 in
theorem quote_any (s : ByteArray) (hs : s.size ≤ 35000000000000) (w : World) :
    Calls Tryd.prog 10 #[.string s] w fun e w' => e = .returned (.string ⟨(qL s.data.toList).toArray⟩) ∧ Below w.heap.size w w' := by
  have P := plain_any
  have S := special_any
  have G := grow_any w.heap.size w.heap.size (s.size + 2) (w.alloc (.cells #[.pointer none, .slice none 0 0] 62)) (Nat.le_refl _) (heap_alloc_new w _) (by simp) (by omega)
  have q2 : ((s.size + 2 : Nat) : Int) = (s.size : Int) + 2 := by omega
  rw [q2] at G
  clear q2
  have HS : Hid (s.size ≤ 35000000000000) := hs
  have hs2 : s.size ≤ 9223372036854775805 := by omega
  clear hs
  go_enter Tryd.func10, Tryd.ntmps10
  go_wp2_with fail
  refine G.mono ?_
  rintro e w1 ⟨rfl, d1, b1⟩
  clear G
  have B1 : Hid (Bld w w1 w.heap.size []) := ⟨d1, ((Below.refl _ _).alloc (Nat.le_refl _) _).trans b1⟩
  clear d1 b1
  go_wp2_with fail
  refine (bld_write B1.out 34 rfl (by simp)).mono ?_
  rintro e w2 ⟨rfl, b2⟩
  have B2 : Hid (Bld w w2 w.heap.size [34]) := b2
  clear b2 B1
  go_wp2
  go_loopw [13] (fun i wr => ∃ k : Nat, k ≤ s.size ∧ i = .int .i64 k ∧ Hid (Bld w wr w.heap.size (34 :: qIn (s.data.toList.take k)))) (fun i _ => s.size - (intOf i).toNat)
  case atStart => exact ⟨0, Nat.zero_le _, rfl, B2.out⟩
  case round =>
    clear B2
    obtain ⟨k, hk, rfl, B3⟩ := hrel
    have HL : Hid ((qIn (s.data.toList.take k)).length ≤ 4 * s.size) := take_len s k
    by_cases hlt : k < s.size
    · have HT : Hid (qIn (s.data.toList.take (k + 1)) = qIn (s.data.toList.take k) ++ esc (s[k]'hlt)) := qIn_take s hlt
      obtain ⟨c, hc⟩ : ∃ c, s[k]'hlt = c := ⟨_, rfl⟩
      rw [hc] at HT
      obtain ⟨M2, HM2⟩ : ∃ M2, Hid (qIn (s.data.toList.take (k + 1)) = M2) := ⟨_, rfl⟩
      rw [HM2.out] at HT
      generalize qIn (s.data.toList.take k) = M at *
      have hc' : (((s[k]'hlt).toNat : Nat) : Int) = (c.toNat : Int) := by rw [hc]
      rcases esc_cases c with ⟨p1, p2, p3, _⟩ | ⟨p1, p2, p3, _⟩ | ⟨p1, p3⟩
      · have P1 := fun W => P c W
        have S1 := fun W => S c W
        rw [p1] at P1
        rw [p2] at S1
        clear P S hc
        go_wp2_with fail
        refine (P1 _).mono ?_
        rintro e w3 ⟨rfl, rfl⟩
        go_wp2_with fail
        refine (S1 _).mono ?_
        rintro e w4 ⟨rfl, rfl⟩
        go_wp2_with fail
        refine (bld_write B3.out c rfl (by have := HL.out; have := HS.out; simp; omega)).mono ?_
        rintro e w5 ⟨rfl, b5⟩
        have B5 : Hid (Bld w w5 w.heap.size (34 :: M2)) := by rw [HT.out, p3]; exact b5
        clear b5
        go_wp2
        go_roundw
        case rel => exact ⟨k + 1, by omega, by go_num, by rw [HM2.out]; exact B5⟩
        case measure => simp [intOf]; omega
      · have P1 := fun W => P c W
        have S1 := fun W => S c W
        rw [p1] at P1
        rw [p2] at S1
        clear P S hc
        go_wp2_with fail
        refine (P1 _).mono ?_
        rintro e w3 ⟨rfl, rfl⟩
        go_wp2_with fail
        refine (S1 _).mono ?_
        rintro e w4 ⟨rfl, rfl⟩
        go_wp2_with fail
        refine (bld_write B3.out 92 rfl (by have := HL.out; have := HS.out; simp; omega)).mono ?_
        rintro e w5 ⟨rfl, b5⟩
        have B5 : Hid (Bld w w5 w.heap.size (34 :: M ++ [92])) := b5
        clear b5
        go_wp2_with fail
        refine (bld_write B5.out c rfl (by have := HL.out; have := HS.out; simp; omega)).mono ?_
        rintro e w6 ⟨rfl, b6⟩
        have B6 : Hid (Bld w w6 w.heap.size (34 :: M2)) := by rw [HT.out, p3]; exact (by simpa using b6 : Bld w w6 w.heap.size (34 :: (M ++ [92, c])))
        clear b6 B5
        go_wp2
        go_roundw
        case rel => exact ⟨k + 1, by omega, by go_num, by rw [HM2.out]; exact B6⟩
        case measure => simp [intOf]; omega
      · have P1 := fun W => P c W
        rw [p1] at P1
        clear P S hc
        go_wp2_with fail
        refine (P1 _).mono ?_
        rintro e w3 ⟨rfl, rfl⟩
        go_wp2_with fail
        refine (bld_write B3.out 92 rfl (by have := HL.out; have := HS.out; simp; omega)).mono ?_
        rintro e w5 ⟨rfl, b5⟩
        have B5 : Hid (Bld w w5 w.heap.size (34 :: M ++ [92])) := b5
        clear b5
        go_wp2_with fail
        refine (bld_write B5.out 120 rfl (by have := HL.out; have := HS.out; simp; omega)).mono ?_
        rintro e w6 ⟨rfl, b6⟩
        have B6 : Hid (Bld w w6 w.heap.size (34 :: M ++ [92] ++ [120])) := b6
        clear b6 B5
        have g1 : c.toNat / 16 < 16 := by have := c.toNat_lt; omega
        go_wp2_with fail
        refine (bld_write B6.out (hx (c >>> 4)) (by rw [hex_hi]) (by have := HL.out; have := HS.out; simp; omega)).mono ?_
        rintro e w7 ⟨rfl, b7⟩
        have B7 : Hid (Bld w w7 w.heap.size (34 :: (M ++ [92, 120, hx (c >>> 4)]))) := (by simpa using b7 : Bld w w7 w.heap.size (34 :: (M ++ [92, 120, hx (c >>> 4)])))
        clear b7 B6
        go_wp2_with fail
        refine (bld_write B7.out (hx (c &&& 15)) (by rw [hex_lo]) (by have := HL.out; have := HS.out; simp; omega)).mono ?_
        rintro e w8 ⟨rfl, b8⟩
        have B8 : Hid (Bld w w8 w.heap.size (34 :: M2)) := by rw [HT.out, p3]; exact (by simpa using b8 : Bld w w8 w.heap.size (34 :: (M ++ [92, 120, hx (c >>> 4), hx (c &&& 15)])))
        clear b8 B7
        go_wp2
        go_roundw
        case rel => exact ⟨k + 1, by omega, by go_num, by rw [HM2.out]; exact B8⟩
        case measure => simp [intOf]; omega
    · obtain rfl : k = s.size := by omega
      have e1 : s.data.toList.take s.size = s.data.toList := List.take_of_length_le (by simp)
      rw [e1] at B3 HL
      go_wp2_with fail
      refine (bld_write B3.out 34 rfl (by have := HL.out; have := HS.out; simp; omega)).mono ?_
      rintro e w5 ⟨rfl, b5⟩
      have B5 : Hid (Bld w w5 w.heap.size (qL s.data.toList)) := b5
      clear b5 e1
      go_wp2_with fail
      refine (string_any _ _ _ _ B5.out.bd B5.out.bel.size).mono ?_
      rintro e w6 ⟨rfl, b6⟩
      have B6 := B5.out.bel.trans b6
      go_wp2
      go_ret
      exact ⟨rfl, B6⟩
end Go.Proofs.YtelobjhmbabiaaaDoor
