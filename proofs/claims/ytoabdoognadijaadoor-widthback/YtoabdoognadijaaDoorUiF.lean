/-
  uints' Format, Pad, Group, Parse: what they answer for every input; their errors are faults round numbers.
-/
import Derived.Test.YtoabdoognadijaaDoorUiG
import Derived.Test.YtoabdoognadijaaDoorUiB
import Derived.Test.YtoabdoognadijaaDoorUiE
namespace Go.Proofs.YtoabdoognadijaaDoor
open Go.RowKit

/-- A call's fault round a number. -/
def Wr (w : World) (c t : ByteArray) (n : Int) (v : Value) : Prop := Ch w [(c, t)] n v
theorem Wr.below {w w' : World} {B : Nat} {c t : ByteArray} {n : Int} {v : Value} (h : Wr w c t n v) (hb : Below B w w') (hB : w.heap.size ≤ B) : Wr w' c t n v := Ch.below hb hB h
theorem Wr.iface {w : World} {c t : ByteArray} {n : Int} {v : Value} (h : Wr w c t n v) : ∃ T x, v = .iface T x := Ch.iface h
theorem wrap_err {c t : ByteArray} (hc : c.size ≤ 281474976710656) (ht : t.size ≤ 281474976710656) (n : Int) (w : World) :
    Calls Tryd.prog 33 #[.string c, .string t, .iface 64 (.int .i64 n)] w fun x w' => ∃ v', x = .returned v' ∧ Wr w' c t n v' ∧ Below w.heap.size w w' :=
  wrap_ch hc ht (ls := []) rfl

/-- The error of a call: none, or a fault round a number. -/
def ErV (w : World) (n : Int) (c t : ByteArray) (v : Value) : Prop := (n = 0 ∧ v = .nilIface) ∨ (n ≠ 0 ∧ Wr w c t n v)
theorem ErV.below {w w' : World} {B : Nat} {c t : ByteArray} {n : Int} {v : Value} (h : ErV w n c t v) (hb : Below B w w') (hB : w.heap.size ≤ B) : ErV w' n c t v := by
  rcases h with h | h
  · exact Or.inl h
  · exact Or.inr ⟨h.1, h.2.below hb hB⟩

set_option maxRecDepth 100000 in
set_option maxHeartbeats 1000000 in
theorem format_yes (V b : Nat) (hV : V < 18446744073709551616) (h1 : 2 ≤ b) (h2 : b ≤ 36) (w : World) :
    Calls Tryd.prog 39 #[.int .u64 (V : Int), .int .i64 (b : Int)] w fun x w' => x = .returned (.tuple #[.string ⟨(fl b V).toArray⟩, .nilIface]) ∧ Below w.heap.size w w' := by
  have VY := fun W => valid_yes (b : Int) (by omega) (by omega) W
  have D := fun W => digitsOf_any V b hV h1 h2 W
  go_enter Tryd.func39, Tryd.ntmps39
  go_wp2_with fail
  refine (VY _).mono ?_
  rintro e w ⟨rfl, rfl⟩
  go_wp2_with fail
  refine (D _).mono ?_
  rintro e w1 ⟨rfl, b1⟩
  have B1 : Hid (Below w.heap.size w w1) := b1
  clear b1
  go_wp2
  go_ret2
  exact ⟨rfl, B1.out⟩
set_option maxRecDepth 100000 in
set_option maxHeartbeats 1000000 in
theorem format_no (V b : Int) (h : b < 2 ∨ 36 < b) (w : World) :
    Calls Tryd.prog 39 #[.int .u64 V, .int .i64 b] w fun x w' => ∃ v, x = .returned (.tuple #[.string ⟨#[]⟩, v]) ∧ Wr w' ⟨#[70, 111, 114, 109, 97, 116]⟩ ⟨#[]⟩ 7 v ∧ Below w.heap.size w w' := by
  have V := fun W => valid_no b h W
  have WR := fun W => wrap_err (c := ⟨#[70, 111, 114, 109, 97, 116]⟩) (t := ⟨#[]⟩) (by decide) (by decide) 7 W
  go_enter Tryd.func39, Tryd.ntmps39
  go_wp2_with fail
  refine (V _).mono ?_
  rintro e w ⟨rfl, rfl⟩
  go_wp2_with fail
  refine (WR _).mono ?_
  rintro e w1 ⟨v, rfl, h1, b1⟩
  have H1 : Hid (Wr w1 ⟨#[70, 111, 114, 109, 97, 116]⟩ ⟨#[]⟩ 7 v ∧ Below w.heap.size w w1) := ⟨h1, b1⟩
  clear h1 b1
  go_wp2
  go_ret2
  exact ⟨v, rfl, H1.out.1, H1.out.2⟩
theorem str_append (l m : List UInt8) : (⟨l.toArray⟩ : ByteArray) ++ ⟨m.toArray⟩ = ⟨(l ++ m).toArray⟩ := by
  apply ByteArray.ext
  rw [ByteArray.data_append]
  simp
theorem str_size (l : List UInt8) : (⟨l.toArray⟩ : ByteArray).size = l.length := by simp [ByteArray.size]
/-! Parse. -/
theorem ls_drop (s : ByteArray) (n : Nat) : (s.extract n s.size).data.toList = s.data.toList.drop n := by
  rw [ByteArray.data_extract, Array.toList_extract]
  rw [List.extract_eq_take_drop]
  exact List.take_of_length_le (by simp)
theorem ls_size (s : ByteArray) : s.data.toList.length = s.size := by simp
def psN (b : Nat) (l : List UInt8) : Nat := av (bgO b l) 0 (l.drop (bgA b l))
/-- What Parse answers: the number, the error's number. -/
def psX (b : Nat) (l : List UInt8) : Nat := if 0 < bgL b l ∧ bgL b l = l.length then (if psN b l < 18446744073709551616 then psN b l else 18446744073709551615) else 0
def psE (b : Nat) (l : List UInt8) : Nat := if 0 < bgL b l ∧ bgL b l = l.length then (if psN b l < 18446744073709551616 then 0 else 4) else 3
set_option maxRecDepth 100000 in
set_option maxHeartbeats 1000000 in
theorem parse_no (s : ByteArray) (hs : s.size ≤ 140737488355328) (b : Int) (h0 : b ≠ 0) (h : b < 2 ∨ 36 < b) (w : World) :
    Calls Tryd.prog 35 #[.string s, .int .i64 b] w fun x w' => ∃ v, x = .returned (.tuple #[.int .u64 0, v]) ∧ Wr w' ⟨#[80, 97, 114, 115, 101]⟩ s 7 v ∧ Below w.heap.size w w' := by
  have RD := fun W => readable_no b h0 h W
  have WR := fun W => wrap_err (c := ⟨#[80, 97, 114, 115, 101]⟩) (t := s) (by decide) (by omega) 7 W
  clear h h0
  go_enter Tryd.func35, Tryd.ntmps35
  go_wp2_with fail
  refine (RD _).mono ?_
  rintro e w ⟨rfl, rfl⟩
  go_wp2_with fail
  refine (WR _).mono ?_
  rintro e w1 ⟨v, rfl, h1, b1⟩
  have H1 : Hid (Wr w1 ⟨#[80, 97, 114, 115, 101]⟩ s 7 v ∧ Below w.heap.size w w1) := ⟨h1, b1⟩
  clear h1 b1
  go_wp2
  go_ret2
  exact ⟨v, rfl, H1.out.1, H1.out.2⟩
set_option maxRecDepth 100000 in
set_option maxHeartbeats 1000000 in
theorem parse_yes (s : ByteArray) (hs : s.size ≤ 140737488355328) (b : Nat) (h : readB b) (w : World) :
    Calls Tryd.prog 35 #[.string s, .int .i64 (b : Int)] w fun x w' => ∃ v, x = .returned (.tuple #[.int .u64 (psX b s.data.toList : Int), v]) ∧ ErV w' (psE b s.data.toList : Int) ⟨#[80, 97, 114, 115, 101]⟩ s v ∧ Below w.heap.size w w' := by
  have RD := fun W => readable_any b h W
  have BG := fun W => begin_at s (by omega) b h W
  have HBG := begin_any h s.data.toList
  have hle := HBG.le
  rw [ls_size] at hle
  obtain ⟨o1, o2⟩ := HBG.base2
  have ha := HBG.ahead
  have VL := fun W => value_any (s.extract (bgA b s.data.toList) s.size) (by rw [ByteArray.size_extract]; omega) (bgO b s.data.toList) o1 o2 W
  rw [ls_drop] at VL
  change ∀ W, Calls _ _ _ _ (fun e w' => e = .returned (vlV (psN b s.data.toList)) ∧ _) at VL
  have HX : Hid (psX b s.data.toList = if 0 < bgL b s.data.toList ∧ bgL b s.data.toList = s.size then (if psN b s.data.toList < 18446744073709551616 then psN b s.data.toList else 18446744073709551615) else 0) := by
    show _ = _
    unfold psX; rw [ls_size]
  have HE : Hid (psE b s.data.toList = if 0 < bgL b s.data.toList ∧ bgL b s.data.toList = s.size then (if psN b s.data.toList < 18446744073709551616 then 0 else 4) else 3) := by
    show _ = _
    unfold psE; rw [ls_size]
  have WR := fun k W => wrap_err (c := ⟨#[80, 97, 114, 115, 101]⟩) (t := s) (by decide) (by omega) k W
  have WN := fun W => wrap_nil ⟨#[80, 97, 114, 115, 101]⟩ s W
  unfold bgV at BG
  clear HBG o1 o2 h
  generalize psX b s.data.toList = X at *
  generalize psE b s.data.toList = E at *
  generalize psN b s.data.toList = N at *
  generalize bgO b s.data.toList = O at *
  generalize bgA b s.data.toList = A at *
  generalize bgL b s.data.toList = L at *
  by_cases q : 0 < L ∧ L = s.size
  · obtain ⟨q1, q2⟩ := q
    have l1 : ((L : Int) == 0) = false := beq_eq_false_iff_ne.mpr (by omega)
    have l2 : ¬ (L : Int) < (s.size : Int) := by omega
    have l3 : ¬ (s.size : Int) < (A : Int) := by have := ha q1; omega
    by_cases z : N < 18446744073709551616
    · have HX' : Hid (X = N ∧ E = 0) := ⟨by rw [HX.out, if_pos ⟨q1, q2⟩, if_pos z], by rw [HE.out, if_pos ⟨q1, q2⟩, if_pos z]⟩
      rw [vlV_in z] at VL
      clear HX HE q1 q2 ha hle z WR
      go_enter Tryd.func35, Tryd.ntmps35
      go_wp2_with fail
      refine (RD _).mono ?_
      rintro e w ⟨rfl, rfl⟩
      go_wp2_with fail
      refine (BG _).mono ?_
      rintro e w1 ⟨rfl, b1⟩
      have B1 : Hid (Below w.heap.size w w1) := b1
      clear b1
      go_wp2_with fail
      refine (VL _).mono ?_
      rintro e w1 ⟨rfl, rfl⟩
      go_wp2_with fail
      refine (WN _).mono ?_
      rintro e w1 ⟨rfl, rfl⟩
      go_wp2
      go_ret2
      exact ⟨.nilIface, by rw [HX'.out.1]; rfl, Or.inl ⟨by rw [HX'.out.2]; rfl, rfl⟩, B1.out⟩
    · have HX' : Hid (X = 18446744073709551615 ∧ E = 4) := ⟨by rw [HX.out, if_pos ⟨q1, q2⟩, if_neg z], by rw [HE.out, if_pos ⟨q1, q2⟩, if_neg z]⟩
      rw [vlV_out z] at VL
      clear HX HE q1 q2 ha hle z WN
      go_enter Tryd.func35, Tryd.ntmps35
      go_wp2_with fail
      refine (RD _).mono ?_
      rintro e w ⟨rfl, rfl⟩
      go_wp2_with fail
      refine (BG _).mono ?_
      rintro e w1 ⟨rfl, b1⟩
      have B1 : Hid (Below w.heap.size w w1) := b1
      clear b1
      go_wp2_with fail
      refine (VL _).mono ?_
      rintro e w1 ⟨rfl, rfl⟩
      go_wp2_with fail
      refine (WR 4 _).mono ?_
      rintro e w2 ⟨v, rfl, h1, b2⟩
      have H1 : Hid (Wr w2 ⟨#[80, 97, 114, 115, 101]⟩ s 4 v ∧ Below w.heap.size w w2) := ⟨h1, B1.out.trans (b2.mono B1.out.size)⟩
      clear h1 b2
      go_wp2
      go_ret2
      exact ⟨v, by rw [HX'.out.1]; rfl, by rw [HX'.out.2]; exact Or.inr ⟨by decide, H1.out.1⟩, H1.out.2⟩
  · have HX' : Hid (X = 0 ∧ E = 3) := ⟨by rw [HX.out, if_neg q], by rw [HE.out, if_neg q]⟩
    have cs : ((L : Int) == 0) = true ∨ (((L : Int) == 0) = false ∧ (L : Int) < (s.size : Int)) := by
      by_cases z : L = 0
      · exact Or.inl (by simp [z])
      · exact Or.inr ⟨beq_eq_false_iff_ne.mpr (by omega), by omega⟩
    clear HX HE q ha hle WN VL
    rcases cs with l1 | ⟨l1, l2⟩
    all_goals
      go_enter Tryd.func35, Tryd.ntmps35
      go_wp2_with fail
      refine (RD _).mono ?_
      rintro e w ⟨rfl, rfl⟩
      go_wp2_with fail
      refine (BG _).mono ?_
      rintro e w1 ⟨rfl, b1⟩
      have B1 : Hid (Below w.heap.size w w1) := b1
      clear b1
      go_wp2_with fail
      refine (WR 3 _).mono ?_
      rintro e w2 ⟨v, rfl, h1, b2⟩
      have H1 : Hid (Wr w2 ⟨#[80, 97, 114, 115, 101]⟩ s 3 v ∧ Below w.heap.size w w2) := ⟨h1, B1.out.trans (b2.mono B1.out.size)⟩
      clear h1 b2
      go_wp2
      go_ret2
      exact ⟨v, by rw [HX'.out.1]; rfl, by rw [HX'.out.2]; exact Or.inr ⟨by decide, H1.out.1⟩, H1.out.2⟩

theorem fl_ff : fl 16 255 = [102, 102] := by
  rw [fl_big (by decide) (by decide), fl_small (by decide)]; rfl
theorem sure_x : psX 0 [48, 120, 95, 70, 70] = 255 ∧ psE 0 [48, 120, 95, 70, 70] = 0 := by decide +kernel
end Go.Proofs.YtoabdoognadijaaDoor
