/-
  fault's Unquote: what it answers for every text.
-/
import Derived.Test.YtelobjhmbabiaaaDoorFtV
namespace Go.Proofs.YtelobjhmbabiaaaDoor
open Go.RowKit

/-- A text that begins and ends with a quote. -/
structure Hdr (q : ByteArray) : Prop where
  len : 2 ≤ q.size
  a : ((q[0]'(by omega)).toNat : Int) = 34
  b : ((q[q.size - 1]'(by omega)).toNat : Int) = 34
/-- What stands between the quotes. -/
def inn (q : ByteArray) : List UInt8 := (q.extract 1 (q.size - 1)).data.toList
theorem u8_34 {c : UInt8} (h : (c.toNat : Int) = 34) : c = 34 := by
  have : c.toNat = 34 := by omega
  exact UInt8.toNat_inj.mp (by simpa using this)
theorem hdr_list {q : ByteArray} (h : Hdr q) : q.data.toList = 34 :: (inn q ++ [34]) := by
  obtain ⟨h2, ha, hb⟩ := h
  have ha' := u8_34 ha
  have hb' := u8_34 hb
  apply List.ext_getElem?
  intro i
  have hs : q.data.size = q.size := rfl
  by_cases i0 : i = 0
  · subst i0
    rw [← ha', Array.getElem?_toList, Array.getElem?_eq_getElem (by omega)]
    rfl
  · obtain ⟨j, rfl⟩ : ∃ j, i = j + 1 := ⟨i - 1, by omega⟩
    have il : (inn q).length = q.size - 2 := by unfold inn; simp; omega
    rw [List.getElem?_cons_succ]
    by_cases j1 : j < q.size - 2
    · rw [List.getElem?_append_left (by omega)]
      unfold inn
      simp only [ByteArray.data_extract, Array.toList_extract, Array.getElem?_toList, List.extract_eq_take_drop, List.getElem?_take, List.getElem?_drop]
      rw [if_pos (by omega), Nat.add_comm]
    · rw [List.getElem?_append_right (by omega), il]
      by_cases j2 : j = q.size - 2
      · subst j2
        have e1 : q.size - 2 + 1 = q.size - 1 := by omega
        rw [e1, Nat.sub_self]
        rw [← hb']
        simp only [Array.getElem?_toList, List.getElem?_cons_zero]
        rw [Array.getElem?_eq_getElem (by omega)]
        rfl
      · rw [List.getElem?_eq_none (by simp; omega), List.getElem?_eq_none (by simp; omega)]
theorem hdr_of {q : ByteArray} {t : List UInt8} (h : q.data.toList = qL t) : Hdr q := by
  have hz := size_list h
  have hl : (qL t).length = (qIn t).length + 2 := by simp [qL]
  obtain ⟨h0, e0⟩ := at_list h (i := 0) (x := 34) rfl
  obtain ⟨h1, e1⟩ := at_list h (i := q.size - 1) (x := 34) (by
    have : q.size - 1 = (qIn t).length + 1 := by omega
    rw [this]; unfold qL; simp)
  exact ⟨by omega, by rw [e0]; rfl, by rw [e1]; rfl⟩
theorem inn_of {q : ByteArray} {t : List UInt8} (h : q.data.toList = qL t) : inn q = qIn t := by
  have a := hdr_list (hdr_of h)
  rw [h] at a
  unfold qL at a
  exact (List.append_cancel_right (List.cons.inj a).2).symm
theorem of_inn {q : ByteArray} {t : List UInt8} (h : Hdr q) (e : inn q = qIn t) : q.data.toList = qL t := by
  rw [hdr_list h, e]; rfl

set_option maxRecDepth 100000 in
set_option maxHeartbeats 2000000 in
theorem dunq_hdr (q : ByteArray) (hs : q.size ≤ 9223372036854775807) (h : ¬ Hdr q) (w : World) :
    Calls Tryd.prog 8 #[.string q] w fun e w' => e = .returned (.tuple #[.string ⟨#[]⟩, .iface 32 (.int .i64 3)]) ∧ Below w.heap.size w w' := by
  by_cases h2 : 2 ≤ q.size
  · have z : ¬ (q.size : Int) < 2 := by omega
    have p0 : 0 < q.size := by omega
    by_cases ha : ((q[0]'(by omega)).toNat : Int) = 34
    · have hb : ((q[q.size - 1]'(by omega)).toNat : Int) ≠ 34 := fun b => h ⟨h2, ha, b⟩
      obtain ⟨x, hx⟩ : ∃ x, ((q[q.size - 1]'(by omega)).toNat : Int) = x := ⟨_, rfl⟩
      rw [hx] at hb
      have nb : (x != 34) = true := bne_iff_ne.mpr hb
      have ix : ((q.size : Int) - 1).toNat = q.size - 1 := by omega
      have i1 : (0 : Int) ≤ (q.size : Int) - 1 := by omega
      clear h hb
      go_enter Tryd.func8, Tryd.ntmps8
      go_wp2
      go_ret2
      exact ⟨rfl, Below.refl _ _⟩
    · obtain ⟨x, hx⟩ : ∃ x, ((q[0]'(by omega)).toNat : Int) = x := ⟨_, rfl⟩
      rw [hx] at ha
      have na : (x != 34) = true := bne_iff_ne.mpr ha
      clear h ha
      go_enter Tryd.func8, Tryd.ntmps8
      go_wp2
      go_ret2
      exact ⟨rfl, Below.refl _ _⟩
  · have z : (q.size : Int) < 2 := by omega
    clear h h2
    go_enter Tryd.func8, Tryd.ntmps8
    go_wp2
    go_ret2
    exact ⟨rfl, Below.refl _ _⟩
theorem belDrew {B : Nat} {a w : World} (h : Below B a w) (n : Nat) : Below B a (w.drewN n) := h.trans ⟨rfl, rfl, rfl, Nat.le_refl _, fun _ _ => rfl⟩
def textLn : Value → Nat | .string s => s.size | _ => 0

set_option maxRecDepth 100000 in
set_option maxHeartbeats 2000000 in
theorem dunq_yes {q : ByteArray} (hs : q.size ≤ 140737488355328) (hd : Hdr q) {t : ByteArray} (ht : inn q = qIn t.data.toList) (w : World) :
    Calls Tryd.prog 8 #[.string q] w fun e w' => e = .returned (.tuple #[.string t, .nilIface]) ∧ Below w.heap.size w w' := by
  have HD : Hid (Hdr q) := hd
  have HT : Hid (inn q = qIn t.data.toList) := ht
  clear ht
  have z : ¬ (q.size : Int) < 2 := by have := hd.len; omega
  have p0 : 0 < q.size := by omega
  have p1 : q.size - 1 < q.size := by omega
  have ha : ((q[0]'p0).toNat : Int) = 34 := hd.a
  have hb : ((q[q.size - 1]'p1).toNat : Int) = 34 := hd.b
  have ix : ((q.size : Int) - 1).toNat = q.size - 1 := by omega
  have i1 : (0 : Int) ≤ (q.size : Int) - 1 := by omega
  have i2 : (1 : Int) ≤ (q.size : Int) - 1 := by omega
  have i3 : (q.size : Int) - 1 ≤ (q.size : Int) := by omega
  clear hd
  have hS0 : (q.extract 1 (q.size - 1)).data.toList = inn q := rfl
  have hz0 : (q.extract 1 (q.size - 1)).size = q.size - 2 := by rw [ByteArray.size_extract]; omega
  obtain ⟨S0, e0⟩ : ∃ S, q.extract 1 (q.size - 1) = S := ⟨_, rfl⟩
  rw [e0] at hS0 hz0
  have HS0 : Hid (S0.data.toList = inn q ∧ S0.size = q.size - 2) := ⟨hS0, hz0⟩
  have hbig0 : S0.size ≤ 140737488355328 := by omega
  have G := grow_any w.heap.size w.heap.size S0.size (w.alloc (.cells #[.pointer none, .slice none 0 0] 62)) (Nat.le_refl _) (heap_alloc_new w _) (by simp) (by omega)
  have HQ : Hid (q.size ≤ 140737488355328) := hs
  have hs2 : q.size ≤ 9223372036854775807 := by omega
  clear hS0 hz0 hs
  go_enter Tryd.func8, Tryd.ntmps8
  go_wp2_with fail
  refine G.mono ?_
  rintro e w1 ⟨rfl, d1, b1⟩
  clear G
  have B1 : Hid (Bld w w1 w.heap.size []) := ⟨d1, ((Below.refl _ _).alloc (Nat.le_refl _) _).trans b1⟩
  clear d1 b1
  go_wp2
  go_loopw [4] (fun v wr => ∃ (S : ByteArray) (bs : List UInt8), v = .string S ∧ Hid (inn q = qIn bs ++ S.data.toList ∧ Bld w wr w.heap.size bs)) (fun v _ => textLn v)
  case atStart => exact ⟨S0, [], rfl, HS0.out.1.symm, B1.out⟩
  case round =>
    clear B1
    obtain ⟨S, bs, rfl, HI⟩ := hrel
    have HL : Hid (bs.length + S.size ≤ q.size - 2) := by
      have a := congrArg List.length HI.out.1
      rw [List.length_append] at a
      have b := qIn_length_ge bs
      have c := len_data S
      have d := congrArg List.length HS0.out.1
      rw [len_data] at d
      have e := HS0.out.2
      show bs.length + S.size ≤ q.size - 2
      omega
    have hbS : S.size ≤ 9223372036854775807 := by have := HL.out; have := HQ.out; omega
    by_cases c1 : S.size = 0
    · have em : S.data.toList = [] := List.length_eq_zero_iff.mp ((len_data S).trans c1)
      have ie : S.toList.isEmpty = true := by rw [list_data, em]; rfl
      have hbt : bs = t.data.toList := by
        have a := HI.out.1
        rw [em, List.append_nil, HT.out] at a
        exact (qIn_inj a).symm
      have HB : Hid (Bld w wr w.heap.size t.data.toList) := by rw [← hbt]; exact HI.out.2
      clear c1 em hbt
      go_wp2_with fail
      refine (string_any _ _ _ _ HB.out.bd HB.out.bel.size).mono ?_
      rintro e w6 ⟨rfl, b6⟩
      have B6 := HB.out.bel.trans b6
      go_wp2
      go_ret2
      exact ⟨rfl, B6⟩
    · have ie : S.toList.isEmpty = false := by
        rw [list_data]
        cases r : S.data.toList with
        | nil => exact absurd ((len_data S).symm.trans (congrArg List.length r)) c1
        | cons _ _ => rfl
      obtain ⟨c, r, hc⟩ : ∃ c r, S.data.toList = esc c ++ r := by
        have a := HI.out.1
        rw [HT.out] at a
        obtain ⟨t', _, e⟩ := qIn_split a.symm
        obtain ⟨c, t'', _, e'⟩ := qIn_head e (fun z => c1 ((len_data S).symm.trans (congrArg List.length z)))
        exact ⟨c, _, e'⟩
      have T1 := fun W => told_yes hc W
      have k0 := esc_pos c
      have k1 : (esc c).length ≤ S.size := by rw [size_list hc, List.length_append]; omega
      have HR : Hid ((S.extract (esc c).length S.size).data.toList = r) := by
        show (S.extract (esc c).length S.size).data.toList = r
        rw [ByteArray.data_extract, Array.toList_extract, hc, List.extract_eq_take_drop, List.drop_left, List.take_of_length_le]
        have := size_list hc
        rw [List.length_append] at this
        omega
      have HC : Hid (S.data.toList = esc c ++ r) := hc
      obtain ⟨k, hk⟩ : ∃ k, (esc c).length = k := ⟨_, rfl⟩
      rw [hk] at T1 k0 k1 HR
      have HK : Hid ((esc c).length = k) := hk
      have hsz : (S.extract k S.size).size = S.size - k := by rw [ByteArray.size_extract]; omega
      obtain ⟨S2, e2⟩ : ∃ T, S.extract k S.size = T := ⟨_, rfl⟩
      rw [e2] at HR hsz
      have HSZ : Hid (S2.size = S.size - k) := hsz
      have kz : ((k : Int) == 0) = false := by simp; omega
      have j1 : (0 : Int) ≤ (k : Int) := by omega
      have j2 : (k : Int) ≤ (S.size : Int) := by omega
      clear hc hk hsz c1
      go_wp2_with fail
      refine (T1 _).mono ?_
      rintro e w2 ⟨rfl, n2, hw2⟩
      have B2 : Hid (Bld w w2 w.heap.size bs) := by rw [hw2]; exact ⟨HI.out.2.bd, belDrew HI.out.2.bel n2⟩
      clear hw2 T1
      go_wp2_with fail
      refine (bld_write B2.out c rfl (by have := HL.out; have := HQ.out; omega)).mono ?_
      rintro e w3 ⟨rfl, b3⟩
      have B3 : Hid (Bld w w3 w.heap.size (bs ++ [c])) := b3
      clear b3
      go_wp2
      go_roundw
      case rel => exact ⟨S2, bs ++ [c], rfl, by rw [HI.out.1, HC.out, HR.out, qIn_append, qIn_one, List.append_assoc], B3.out⟩
      case measure => show S2.size < S.size; have := HSZ.out; omega


set_option maxRecDepth 100000 in
set_option maxHeartbeats 2000000 in
theorem dunq_no {q : ByteArray} (hs : q.size ≤ 140737488355328) (hd : Hdr q) (hn : ∀ t, inn q ≠ qIn t) (w : World) :
    Calls Tryd.prog 8 #[.string q] w fun e w' => e = .returned (.tuple #[.string ⟨#[]⟩, .iface 32 (.int .i64 3)]) ∧ Below w.heap.size w w' := by
  have HD : Hid (Hdr q) := hd
  have HN : Hid (∀ t, inn q ≠ qIn t) := hn
  clear hn
  have z : ¬ (q.size : Int) < 2 := by have := hd.len; omega
  have p0 : 0 < q.size := by omega
  have p1 : q.size - 1 < q.size := by omega
  have ha : ((q[0]'p0).toNat : Int) = 34 := hd.a
  have hb : ((q[q.size - 1]'p1).toNat : Int) = 34 := hd.b
  have ix : ((q.size : Int) - 1).toNat = q.size - 1 := by omega
  have i1 : (0 : Int) ≤ (q.size : Int) - 1 := by omega
  have i2 : (1 : Int) ≤ (q.size : Int) - 1 := by omega
  have i3 : (q.size : Int) - 1 ≤ (q.size : Int) := by omega
  clear hd
  have hS0 : (q.extract 1 (q.size - 1)).data.toList = inn q := rfl
  have hz0 : (q.extract 1 (q.size - 1)).size = q.size - 2 := by rw [ByteArray.size_extract]; omega
  obtain ⟨S0, e0⟩ : ∃ S, q.extract 1 (q.size - 1) = S := ⟨_, rfl⟩
  rw [e0] at hS0 hz0
  have HS0 : Hid (S0.data.toList = inn q ∧ S0.size = q.size - 2) := ⟨hS0, hz0⟩
  have hbig0 : S0.size ≤ 140737488355328 := by omega
  have G := grow_any w.heap.size w.heap.size S0.size (w.alloc (.cells #[.pointer none, .slice none 0 0] 62)) (Nat.le_refl _) (heap_alloc_new w _) (by simp) (by omega)
  have HQ : Hid (q.size ≤ 140737488355328) := hs
  have hs2 : q.size ≤ 9223372036854775807 := by omega
  clear hS0 hz0 hs
  go_enter Tryd.func8, Tryd.ntmps8
  go_wp2_with fail
  refine G.mono ?_
  rintro e w1 ⟨rfl, d1, b1⟩
  clear G
  have B1 : Hid (Bld w w1 w.heap.size []) := ⟨d1, ((Below.refl _ _).alloc (Nat.le_refl _) _).trans b1⟩
  clear d1 b1
  go_wp2
  go_loopw [4] (fun v wr => ∃ (S : ByteArray) (bs : List UInt8), v = .string S ∧ Hid (inn q = qIn bs ++ S.data.toList ∧ Bld w wr w.heap.size bs)) (fun v _ => textLn v)
  case atStart => exact ⟨S0, [], rfl, HS0.out.1.symm, B1.out⟩
  case round =>
    clear B1
    obtain ⟨S, bs, rfl, HI⟩ := hrel
    have HL : Hid (bs.length + S.size ≤ q.size - 2) := by
      have a := congrArg List.length HI.out.1
      rw [List.length_append] at a
      have b := qIn_length_ge bs
      have c := len_data S
      have d := congrArg List.length HS0.out.1
      rw [len_data] at d
      have e := HS0.out.2
      show bs.length + S.size ≤ q.size - 2
      omega
    have hbS : S.size ≤ 9223372036854775807 := by have := HL.out; have := HQ.out; omega
    by_cases c1 : S.size = 0
    · have em : S.data.toList = [] := List.length_eq_zero_iff.mp ((len_data S).trans c1)
      have ie : S.toList.isEmpty = true := by rw [list_data, em]; rfl
      have a := HI.out.1
      rw [em, List.append_nil] at a
      exact absurd a (HN.out bs)
    · have ie : S.toList.isEmpty = false := by
        rw [list_data]
        cases r : S.data.toList with
        | nil => exact absurd ((len_data S).symm.trans (congrArg List.length r)) c1
        | cons _ _ => rfl
      by_cases ex : ∃ c r, S.data.toList = esc c ++ r
      · obtain ⟨c, r, hc⟩ : ∃ c r, S.data.toList = esc c ++ r := ex
        have T1 := fun W => told_yes hc W
        have k0 := esc_pos c
        have k1 : (esc c).length ≤ S.size := by rw [size_list hc, List.length_append]; omega
        have HR : Hid ((S.extract (esc c).length S.size).data.toList = r) := by
          show (S.extract (esc c).length S.size).data.toList = r
          rw [ByteArray.data_extract, Array.toList_extract, hc, List.extract_eq_take_drop, List.drop_left, List.take_of_length_le]
          have := size_list hc
          rw [List.length_append] at this
          omega
        have HC : Hid (S.data.toList = esc c ++ r) := hc
        obtain ⟨k, hk⟩ : ∃ k, (esc c).length = k := ⟨_, rfl⟩
        rw [hk] at T1 k0 k1 HR
        have HK : Hid ((esc c).length = k) := hk
        have hsz : (S.extract k S.size).size = S.size - k := by rw [ByteArray.size_extract]; omega
        obtain ⟨S2, e2⟩ : ∃ T, S.extract k S.size = T := ⟨_, rfl⟩
        rw [e2] at HR hsz
        have HSZ : Hid (S2.size = S.size - k) := hsz
        have kz : ((k : Int) == 0) = false := by simp; omega
        have j1 : (0 : Int) ≤ (k : Int) := by omega
        have j2 : (k : Int) ≤ (S.size : Int) := by omega
        clear hc hk hsz c1
        go_wp2_with fail
        refine (T1 _).mono ?_
        rintro e w2 ⟨rfl, n2, hw2⟩
        have B2 : Hid (Bld w w2 w.heap.size bs) := by rw [hw2]; exact ⟨HI.out.2.bd, belDrew HI.out.2.bel n2⟩
        clear hw2 T1
        go_wp2_with fail
        refine (bld_write B2.out c rfl (by have := HL.out; have := HQ.out; omega)).mono ?_
        rintro e w3 ⟨rfl, b3⟩
        have B3 : Hid (Bld w w3 w.heap.size (bs ++ [c])) := b3
        clear b3
        go_wp2
        go_roundw
        case rel => exact ⟨S2, bs ++ [c], rfl, by rw [HI.out.1, HC.out, HR.out, qIn_append, qIn_one, List.append_assoc], B3.out⟩
        case measure => show S2.size < S.size; have := HSZ.out; omega
      · have T1 := fun W => told_none (s := S) (by omega) (fun c r e => ex ⟨c, r, e⟩) W
        clear ex c1
        go_wp2_with fail
        refine (T1 _).mono ?_
        rintro e w2 ⟨rfl, n2, hw2⟩
        have B2 : Hid (Below w.heap.size w w2) := by rw [hw2]; exact belDrew HI.out.2.bel n2
        clear hw2 T1
        go_wp2
        go_ret2
        exact ⟨rfl, B2.out⟩

end Go.Proofs.YtelobjhmbabiaaaDoor
