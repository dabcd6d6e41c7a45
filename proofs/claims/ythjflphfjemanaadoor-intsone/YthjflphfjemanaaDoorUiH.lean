/-
  num and told over a fault round a number; uints' Len and Prefix: what they answer for every input.
-/
import Derived.Test.YthjflphfjemanaaDoorUiF
import Derived.Test.YthjflphfjemanaaDoorUiL
namespace Go.Proofs.YthjflphfjemanaaDoor
open Go.RowKit Go.Extern.Stop Go.Stop Go.Extern

theorem num_nil (w : World) : Calls Tryd.prog 36 #[.nilIface] w fun e w' => e = .returned (.int .i64 0) ∧ Below w.heap.size w w' := by
  go_enter Tryd.func36, Tryd.ntmps36
  go_wp2
  go_ret
  exact ⟨rfl, by first | exact (Below.refl _ _).alloc (Nat.le_refl _) _ | exact Below.refl _ _⟩
set_option maxRecDepth 100000 in
set_option maxHeartbeats 1000000 in
theorem num_ch {ls : List Lk} {n : Int} {v : Value} {w : World} (h : Ch w ls n v) (hg : ErrT w) : Calls Tryd.prog 36 #[v] w fun e w' => e = .returned (.int .i64 n) ∧ Below w.heap.size w w' := by
  have B0 : Below w.heap.size w (w.alloc (.cells #[.int .i64 0] 63)) := (Below.refl _ _).alloc (Nat.le_refl _) _
  have A1 := AsN_ch (w := w.alloc (.cells #[.int .i64 0] 63)) h B0 (t := ⟨w.heap.size, 0, none⟩) (old := .int .i64 0) (hg.below B0 hg.pos) (by simp) (World.frozen?_alloc_new _ _ _ _)
  obtain ⟨T, y, rfl⟩ := h.iface
  have HB : Hid (Below w.heap.size w (w.alloc (.cells #[.int .i64 0] 63))) := B0
  clear hg h B0
  go_enter Tryd.func36, Tryd.ntmps36
  go_wp2_with fail
  refine A1.mono ?_
  rintro e w1 ⟨rfl, hc, hb⟩
  have HD : Hid (Below w.heap.size w w1) := HB.out.trans hb
  clear hb
  go_wp2
  go_ret
  exact ⟨rfl, HD.out⟩

/-! Len. -/
set_option maxRecDepth 100000 in
set_option maxHeartbeats 1000000 in
theorem ulen_yes (V b : Nat) (hV : V < 18446744073709551616) (h1 : 2 ≤ b) (h2 : b ≤ 36) (w : World) :
    Calls Tryd.prog 32 #[.int .u64 (V : Int), .int .i64 (b : Int)] w fun x w' => x = .returned (.tuple #[.int .i64 ((fl b V).length : Int), .nilIface]) ∧ w' = w := by
  have LN := fun W => len_yes V b hV h1 h2 W
  have WN := fun W => wrap_nil ⟨#[76, 101, 110]⟩ ⟨#[]⟩ W
  have HU : Hid (∀ K, DLen b V K → K = (fl b V).length) := fun K h => h.uniq h1 (fl_dlen h1 V)
  go_enter Tryd.func32, Tryd.ntmps32
  go_wp2_with fail
  refine (LN _).mono ?_
  rintro e w ⟨K, rfl, hK, rfl⟩
  have HK : Hid (K = (fl b V).length) := HU.out K hK
  clear hK
  go_wp2_with fail
  refine (WN _).mono ?_
  rintro e w ⟨rfl, rfl⟩
  go_wp2
  go_ret2
  exact ⟨by rw [← HK.out]; rfl, rfl⟩
set_option maxRecDepth 100000 in
set_option maxHeartbeats 1000000 in
theorem ulen_no (V b : Int) (h : b < 2 ∨ 36 < b) (w : World) :
    Calls Tryd.prog 32 #[.int .u64 V, .int .i64 b] w fun x w' => ∃ v, x = .returned (.tuple #[.int .i64 0, v]) ∧ Wr w' ⟨#[76, 101, 110]⟩ ⟨#[]⟩ 7 v ∧ Below w.heap.size w w' := by
  have LN := fun W => len_no V b h W
  have WR := fun W => wrap_err (c := ⟨#[76, 101, 110]⟩) (t := ⟨#[]⟩) (by decide) (by decide) 7 W
  clear h
  go_enter Tryd.func32, Tryd.ntmps32
  go_wp2_with fail
  refine (LN _).mono ?_
  rintro e w ⟨rfl, rfl⟩
  go_wp2_with fail
  refine (WR _).mono ?_
  rintro e w1 ⟨v, rfl, h1, b1⟩
  have H1 : Hid (Wr w1 ⟨#[76, 101, 110]⟩ ⟨#[]⟩ 7 v ∧ Below w.heap.size w w1) := ⟨h1, b1⟩
  clear h1 b1
  go_wp2
  go_ret2
  exact ⟨v, rfl, H1.out.1, H1.out.2⟩

/-! Prefix. -/
theorem ls_slice (s : ByteArray) {a e : Nat} (_h : a ≤ e) : (s.extract a e).data.toList = (s.data.toList.take e).drop a := by
  rw [ByteArray.data_extract, Array.toList_extract]
  rw [List.extract_eq_take_drop, List.drop_take]
def pxN (b : Nat) (l : List UInt8) : Nat := av (bgO b l) 0 ((l.take (bgL b l)).drop (bgA b l))
/-- What Prefix answers beside the length: the number, the error's number. -/
def pxX (b : Nat) (l : List UInt8) : Nat := if 0 < bgL b l then (if pxN b l < 18446744073709551616 then pxN b l else 18446744073709551615) else 0
def pxE (b : Nat) (l : List UInt8) : Nat := if 0 < bgL b l then (if pxN b l < 18446744073709551616 then 0 else 4) else 3
set_option maxRecDepth 100000 in
set_option maxHeartbeats 1000000 in
theorem prefix_no (s : ByteArray) (hs : s.size ≤ 140737488355328) (b : Int) (h0 : b ≠ 0) (h : b < 2 ∨ 36 < b) (w : World) :
    Calls Tryd.prog 48 #[.string s, .int .i64 b] w fun x w' => ∃ v, x = .returned (.tuple #[.int .u64 0, .int .i64 0, v]) ∧ Wr w' ⟨#[80, 114, 101, 102, 105, 120]⟩ s 7 v ∧ Below w.heap.size w w' := by
  have RD := fun W => readable_no b h0 h W
  have WR := fun W => wrap_err (c := ⟨#[80, 114, 101, 102, 105, 120]⟩) (t := s) (by decide) (by omega) 7 W
  clear h h0
  go_enter Tryd.func48, Tryd.ntmps48
  go_wp2_with fail
  refine (RD _).mono ?_
  rintro e w ⟨rfl, rfl⟩
  go_wp2_with fail
  refine (WR _).mono ?_
  rintro e w1 ⟨v, rfl, h1, b1⟩
  have H1 : Hid (Wr w1 ⟨#[80, 114, 101, 102, 105, 120]⟩ s 7 v ∧ Below w.heap.size w w1) := ⟨h1, b1⟩
  clear h1 b1
  go_wp2
  go_ret3
  exact ⟨v, rfl, H1.out.1, H1.out.2⟩
set_option maxRecDepth 100000 in
set_option maxHeartbeats 1000000 in
theorem prefix_yes (s : ByteArray) (hs : s.size ≤ 140737488355328) (b : Nat) (h : readB b) (w : World) :
    Calls Tryd.prog 48 #[.string s, .int .i64 (b : Int)] w fun x w' => ∃ v, x = .returned (.tuple #[.int .u64 (pxX b s.data.toList : Int), .int .i64 (bgL b s.data.toList : Int), v]) ∧ ErV w' (pxE b s.data.toList : Int) ⟨#[80, 114, 101, 102, 105, 120]⟩ s v ∧ Below w.heap.size w w' := by
  have RD := fun W => readable_any b h W
  have BG := fun W => begin_at s (by omega) b h W
  have HBG := begin_any h s.data.toList
  have hle := HBG.le
  rw [ls_size] at hle
  obtain ⟨o1, o2⟩ := HBG.base2
  have ha := HBG.ahead
  have HX : Hid (pxX b s.data.toList = if 0 < bgL b s.data.toList then (if pxN b s.data.toList < 18446744073709551616 then pxN b s.data.toList else 18446744073709551615) else 0) := rfl
  have HE : Hid (pxE b s.data.toList = if 0 < bgL b s.data.toList then (if pxN b s.data.toList < 18446744073709551616 then 0 else 4) else 3) := rfl
  have WR := fun k W => wrap_err (c := ⟨#[80, 114, 101, 102, 105, 120]⟩) (t := s) (by decide) (by omega) k W
  have WN := fun W => wrap_nil ⟨#[80, 114, 101, 102, 105, 120]⟩ s W
  unfold bgV at BG
  by_cases q : 0 < bgL b s.data.toList
  · have haL := ha q
    have VL := fun W => value_any (s.extract (bgA b s.data.toList) (bgL b s.data.toList)) (by rw [ByteArray.size_extract]; omega) (bgO b s.data.toList) o1 o2 W
    rw [ls_slice s haL] at VL
    change ∀ W, Calls _ _ _ _ (fun e w' => e = .returned (vlV (pxN b s.data.toList)) ∧ _) at VL
    clear HBG o1 o2 h ha
    generalize pxX b s.data.toList = X at *
    generalize pxE b s.data.toList = E at *
    generalize pxN b s.data.toList = N at *
    generalize bgO b s.data.toList = O at *
    generalize bgA b s.data.toList = A at *
    generalize bgL b s.data.toList = L at *
    have l1 : ((L : Int) == 0) = false := beq_eq_false_iff_ne.mpr (by omega)
    by_cases z : N < 18446744073709551616
    · have HX' : Hid (X = N ∧ E = 0) := ⟨by rw [HX.out, if_pos q, if_pos z], by rw [HE.out, if_pos q, if_pos z]⟩
      rw [vlV_in z] at VL
      clear HX HE q z WR
      go_enter Tryd.func48, Tryd.ntmps48
      go_wp2_with fail
      refine (RD _).mono ?_
      rintro e w ⟨rfl, rfl⟩
      go_wp2_with fail
      refine (BG _).mono ?_
      rintro e w1 ⟨rfl, b1⟩
      have B1 : Hid (Below w.heap.size w w1) := b1
      clear b1
      go_wp2_with fail
      refine (VL _).mono ?_
      rintro e w1 ⟨rfl, rfl⟩
      go_wp2_with fail
      refine (WN _).mono ?_
      rintro e w1 ⟨rfl, rfl⟩
      go_wp2
      go_ret3
      exact ⟨.nilIface, by rw [HX'.out.1]; rfl, Or.inl ⟨by rw [HX'.out.2]; rfl, rfl⟩, B1.out⟩
    · have HX' : Hid (X = 18446744073709551615 ∧ E = 4) := ⟨by rw [HX.out, if_pos q, if_neg z], by rw [HE.out, if_pos q, if_neg z]⟩
      rw [vlV_out z] at VL
      clear HX HE q z WN
      go_enter Tryd.func48, Tryd.ntmps48
      go_wp2_with fail
      refine (RD _).mono ?_
      rintro e w ⟨rfl, rfl⟩
      go_wp2_with fail
      refine (BG _).mono ?_
      rintro e w1 ⟨rfl, b1⟩
      have B1 : Hid (Below w.heap.size w w1) := b1
      clear b1
      go_wp2_with fail
      refine (VL _).mono ?_
      rintro e w1 ⟨rfl, rfl⟩
      go_wp2_with fail
      refine (WR 4 _).mono ?_
      rintro e w2 ⟨v, rfl, h1, b2⟩
      have H1 : Hid (Wr w2 ⟨#[80, 114, 101, 102, 105, 120]⟩ s 4 v ∧ Below w.heap.size w w2) := ⟨h1, B1.out.trans (b2.mono B1.out.size)⟩
      clear h1 b2
      go_wp2
      go_ret3
      exact ⟨v, by rw [HX'.out.1]; rfl, by rw [HX'.out.2]; exact Or.inr ⟨by decide, H1.out.1⟩, H1.out.2⟩
  · have hz : bgL b s.data.toList = 0 := by omega
    have HX' : Hid (pxX b s.data.toList = 0 ∧ pxE b s.data.toList = 3) := ⟨by rw [HX.out, if_neg q], by rw [HE.out, if_neg q]⟩
    rw [hz] at BG ⊢
    clear HX HE HBG hle ha o1 o2 h q hz WN
    generalize pxX b s.data.toList = X at *
    generalize pxE b s.data.toList = E at *
    generalize bgO b s.data.toList = O at *
    generalize bgA b s.data.toList = A at *
    go_enter Tryd.func48, Tryd.ntmps48
    go_wp2_with fail
    refine (RD _).mono ?_
    rintro e w ⟨rfl, rfl⟩
    go_wp2_with fail
    refine (BG _).mono ?_
    rintro e w1 ⟨rfl, b1⟩
    have B1 : Hid (Below w.heap.size w w1) := b1
    clear b1
    go_wp2_with fail
    refine (WR 3 _).mono ?_
    rintro e w2 ⟨v, rfl, h1, b2⟩
    have H1 : Hid (Wr w2 ⟨#[80, 114, 101, 102, 105, 120]⟩ s 3 v ∧ Below w.heap.size w w2) := ⟨h1, B1.out.trans (b2.mono B1.out.size)⟩
    clear h1 b2
    go_wp2
    go_ret3
    exact ⟨v, by rw [HX'.out.1]; rfl, by rw [HX'.out.2]; exact Or.inr ⟨by decide, H1.out.1⟩, H1.out.2⟩
end Go.Proofs.YthjflphfjemanaaDoor
