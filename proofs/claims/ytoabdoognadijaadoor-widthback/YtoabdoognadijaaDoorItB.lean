/-
  ints' sign, nearest, Parse, Prefix: what they answer for every input.
-/
import Derived.Test.YtoabdoognadijaaDoorItA
import Derived.Test.YtoabdoognadijaaDoorUiQ
namespace Go.Proofs.YtoabdoognadijaaDoor
open Go.RowKit Go.Extern.Stop Go.Stop Go.Extern

theorem str_nil {s : ByteArray} (h : s.size = 0) : s = ⟨#[]⟩ := by
  apply ByteArray.ext
  apply Array.ext'
  have : s.data.toList.length = 0 := by rw [ls_size]; exact h
  exact List.length_eq_zero_iff.1 this
theorem str_cons {s : ByteArray} (h : 0 < s.size) : s.data.toList = (s[0]'h) :: s.data.toList.drop 1 := by
  have := drop_at s h
  rw [List.drop_zero] at this
  exact this
theorem u8_eq {c : UInt8} {n : UInt8} (h : (c.toNat : Int) = (n.toNat : Int)) : c = n := UInt8.toNat_inj.1 (by omega)
theorem str_some {s : ByteArray} (h : 0 < s.size) : (s.toList == []) = false := by
  rw [list_data]
  exact beq_eq_false_iff_ne.mpr (fun e => by have := ls_size s; rw [e] at this; simp at this; omega)
set_option maxRecDepth 100000 in
set_option maxHeartbeats 1000000 in
theorem isign_any (s : ByteArray) (w : World) :
    Calls Tryd.prog 56 #[.string s] w fun e w' => e = .returned (.tuple #[.bool (sgN s.data.toList), .int .i64 (sgL s.data.toList : Int)]) ∧ w' = w := by
  by_cases h : s.size = 0
  · obtain rfl := str_nil h
    rw [show sgN (⟨#[]⟩ : ByteArray).data.toList = false from rfl, show sgL (⟨#[]⟩ : ByteArray).data.toList = 0 from rfl]
    clear h
    go_enter Tryd.func56, Tryd.ntmps56
    go_wp2
    go_ret2
    exact ⟨rfl, rfl⟩
  · have g0 : 0 < s.size := by omega
    have hne := str_some g0
    rw [str_cons g0]
    by_cases q : ((s[0]'g0).toNat : Int) = 45
    · have e : s[0]'g0 = 45 := u8_eq q
      have HE : Hid (sgN ((s[0]'g0) :: s.data.toList.drop 1) = true ∧ sgL ((s[0]'g0) :: s.data.toList.drop 1) = 1) := by rw [e]; exact sg_minus _
      clear e h
      go_enter Tryd.func56, Tryd.ntmps56
      go_wp2
      go_ret2
      exact ⟨by rw [HE.out.1, HE.out.2]; rfl, rfl⟩
    · by_cases q2 : ((s[0]'g0).toNat : Int) = 43
      · have e : s[0]'g0 = 43 := u8_eq q2
        have HE : Hid (sgN ((s[0]'g0) :: s.data.toList.drop 1) = false ∧ sgL ((s[0]'g0) :: s.data.toList.drop 1) = 1) := by rw [e]; exact sg_plus _
        clear e h q
        go_enter Tryd.func56, Tryd.ntmps56
        go_wp2
        go_ret2
        exact ⟨by rw [HE.out.1, HE.out.2]; rfl, rfl⟩
      · have HE : Hid (sgN ((s[0]'g0) :: s.data.toList.drop 1) = false ∧ sgL ((s[0]'g0) :: s.data.toList.drop 1) = 0) := sg_none _ (fun e => q (by rw [e]; rfl)) (fun e => q2 (by rw [e]; rfl))
        have p1 : (((s[0]'g0).toNat : Int) == 45) = false := beq_eq_false_iff_ne.mpr q
        have p2 : (((s[0]'g0).toNat : Int) == 43) = false := beq_eq_false_iff_ne.mpr q2
        clear h q q2
        go_enter Tryd.func56, Tryd.ntmps56
        go_wp2
        go_ret2
        exact ⟨by rw [HE.out.1, HE.out.2]; rfl, rfl⟩
set_option maxRecDepth 100000 in
set_option maxHeartbeats 1000000 in
theorem nearest_bad (neg : Bool) (V : Int) {c t : ByteArray} {n : Int} (h0 : n ≠ 4) {v : Value} {w : World} (h : Wr w c t n v) (hg : ErrT w) :
    Calls Tryd.prog 57 #[.bool neg, .int .u64 V, v] w fun e w' => e = .returned (.tuple #[.int .i64 0, .iface 64 (.int .i64 n)]) ∧ Below w.heap.size w w' := by
  have IS := Is_ch (ls := [(c, t)]) 4 h
  rw [show (n == 4) = false from beq_eq_false_iff_ne.mpr h0] at IS
  have WY := why_ch (ls := [(c, t)]) h hg
  obtain ⟨T, y, rfl⟩ := h.iface
  clear h hg h0
  go_enter Tryd.func57, Tryd.ntmps57
  go_wp2_with fail
  refine IS.mono ?_
  rintro e w ⟨rfl, rfl⟩
  go_wp2_with fail
  refine WY.mono ?_
  rintro e w1 ⟨rfl, b1⟩
  go_wp2
  go_ret2
  exact ⟨rfl, b1⟩
/-- The error's value: none, or a number. -/
def erI (n : Nat) : Value := if n = 0 then .nilIface else .iface 64 (.int .i64 (n : Int))
set_option maxRecDepth 100000 in
set_option maxHeartbeats 1000000 in
theorem nearest_nil (neg : Bool) (n : Nat) (hn : n < 18446744073709551616) (v : Value) (hv : v = .nilIface) (w : World) :
    Calls Tryd.prog 57 #[.bool neg, .int .u64 (n : Int), v] w fun e w' => e = .returned (.tuple #[.int .i64 (nrX neg n), erI (nrE neg n)]) ∧ w' = w := by
  subst hv
  have M1 := fun W => imake_any neg n hn W
  clear hn
  by_cases q : mkB neg n = true
  · have HE : Hid (nrX neg n = mkX neg n ∧ erI (nrE neg n) = .nilIface) := ⟨(nr_yes q).1, by rw [(nr_yes q).2]; rfl⟩
    rw [q] at M1
    generalize mkX neg n = X at *
    clear q
    go_enter Tryd.func57, Tryd.ntmps57
    go_wp2_with fail
    refine (M1 _).mono ?_
    rintro e w ⟨rfl, rfl⟩
    go_wp2
    go_ret2
    exact ⟨by rw [HE.out.1, HE.out.2]; rfl, rfl⟩
  · have q' : mkB neg n = false := by cases h : mkB neg n with | true => exact absurd h q | false => rfl
    have HE : Hid (nrX neg n = (if neg then -9223372036854775808 else 9223372036854775807) ∧ erI (nrE neg n) = .iface 64 (.int .i64 4)) := ⟨(nr_no q').1, by rw [(nr_no q').2]; rfl⟩
    rw [q'] at M1
    clear q q'
    generalize mkX neg n = X at *
    generalize nrX neg n = Y at *
    generalize erI (nrE neg n) = E at *
    cases neg
    all_goals
      go_enter Tryd.func57, Tryd.ntmps57
      go_wp2_with fail
      refine (M1 _).mono ?_
      rintro e w ⟨rfl, rfl⟩
      go_wp2
      go_ret2
      exact ⟨by rw [HE.out.1, HE.out.2]; rfl, rfl⟩
set_option maxRecDepth 100000 in
set_option maxHeartbeats 1000000 in
theorem nearest_far (neg : Bool) (n : Nat) (hn : n < 18446744073709551616) {c t : ByteArray} {v : Value} {w : World} (h : Wr w c t 4 v) :
    Calls Tryd.prog 57 #[.bool neg, .int .u64 (n : Int), v] w fun e w' => e = .returned (.tuple #[.int .i64 (nrX neg n), erI (nrE neg n)]) ∧ w' = w := by
  have IS := Is_ch (ls := [(c, t)]) 4 h
  rw [show ((4 : Int) == 4) = true from rfl] at IS
  obtain ⟨T, y, rfl⟩ := h.iface
  clear h
  have M1 := fun W => imake_any neg n hn W
  clear hn
  by_cases q : mkB neg n = true
  · have HE : Hid (nrX neg n = mkX neg n ∧ erI (nrE neg n) = .nilIface) := ⟨(nr_yes q).1, by rw [(nr_yes q).2]; rfl⟩
    rw [q] at M1
    generalize mkX neg n = X at *
    clear q
    go_enter Tryd.func57, Tryd.ntmps57
    go_wp2_with fail
    refine IS.mono ?_
    rintro e w ⟨rfl, rfl⟩
    go_wp2_with fail
    refine (M1 _).mono ?_
    rintro e w ⟨rfl, rfl⟩
    go_wp2
    go_ret2
    exact ⟨by rw [HE.out.1, HE.out.2]; rfl, rfl⟩
  · have q' : mkB neg n = false := by cases h : mkB neg n with | true => exact absurd h q | false => rfl
    have HE : Hid (nrX neg n = (if neg then -9223372036854775808 else 9223372036854775807) ∧ erI (nrE neg n) = .iface 64 (.int .i64 4)) := ⟨(nr_no q').1, by rw [(nr_no q').2]; rfl⟩
    rw [q'] at M1
    clear q q'
    generalize mkX neg n = X at *
    generalize nrX neg n = Y at *
    generalize erI (nrE neg n) = E at *
    cases neg
    all_goals
      go_enter Tryd.func57, Tryd.ntmps57
      go_wp2_with fail
      refine IS.mono ?_
      rintro e w ⟨rfl, rfl⟩
      go_wp2_with fail
      refine (M1 _).mono ?_
      rintro e w ⟨rfl, rfl⟩
      go_wp2
      go_ret2
      exact ⟨by rw [HE.out.1, HE.out.2]; rfl, rfl⟩
/-- What Parse of ints answers: the integer, the error's number. -/
def ipX (b : Nat) (l : List UInt8) : Int := if psE b (l.drop (sgL l)) = 3 then 0 else nrX (sgN l) (psX b (l.drop (sgL l)))
def ipE (b : Nat) (l : List UInt8) : Nat := if psE b (l.drop (sgL l)) = 3 then 3 else nrE (sgN l) (psX b (l.drop (sgL l)))
theorem psX_lt (b : Nat) (l : List UInt8) : psX b l < 18446744073709551616 := by
  unfold psX; split
  · split
    · assumption
    · decide
  · decide
theorem psE_cases (b : Nat) (l : List UInt8) : psE b l = 0 ∨ psE b l = 3 ∨ psE b l = 4 := by
  unfold psE; split
  · split
    · exact Or.inl rfl
    · exact Or.inr (Or.inr rfl)
  · exact Or.inr (Or.inl rfl)
theorem pxX_lt (b : Nat) (l : List UInt8) : pxX b l < 18446744073709551616 := by
  unfold pxX; split
  · split
    · assumption
    · decide
  · decide
theorem pxE_cases (b : Nat) (l : List UInt8) : (pxE b l = 0 ∧ 0 < bgL b l) ∨ (pxE b l = 3 ∧ bgL b l = 0) ∨ (pxE b l = 4 ∧ 0 < bgL b l) := by
  unfold pxE; split
  · split
    · exact Or.inl ⟨rfl, by assumption⟩
    · exact Or.inr (Or.inr ⟨rfl, by assumption⟩)
  · exact Or.inr (Or.inl ⟨rfl, by omega⟩)
/-- The world behind the calls of a sign and what is behind it. -/
theorem sub_size (s : ByteArray) (hs : s.size ≤ 140737488355328) (n : Nat) : (s.extract n s.size).size ≤ 140737488355328 := by rw [ByteArray.size_extract]; omega
theorem ErV_erI {c t : ByteArray} (hc : c.size ≤ 281474976710656) (ht : t.size ≤ 281474976710656) (n : Nat) (w : World) :
    Calls Tryd.prog 33 #[.string c, .string t, erI n] w fun x w' => ∃ v, x = .returned v ∧ ErV w' (n : Int) c t v ∧ Below w.heap.size w w' := by
  unfold erI
  by_cases h : n = 0
  · rw [if_pos h]
    refine (wrap_nil c t w).mono ?_
    rintro e w ⟨rfl, rfl⟩
    exact ⟨_, rfl, Or.inl ⟨by omega, rfl⟩, Below.refl _ _⟩
  · rw [if_neg h]
    refine (wrap_err hc ht (n : Int) w).mono ?_
    rintro e w1 ⟨v, rfl, h1, b1⟩
    exact ⟨v, rfl, Or.inr ⟨by omega, h1⟩, b1⟩
/-- What nearest answers to an error of uints. -/
theorem nearest_any (neg : Bool) (n E : Nat) (hn : n < 18446744073709551616) (hE : E = 0 ∨ E = 3 ∨ E = 4) {c t : ByteArray} {v : Value} {w : World} (h : ErV w (E : Int) c t v) (hg : ErrT w) :
    Calls Tryd.prog 57 #[.bool neg, .int .u64 (n : Int), v] w fun e w' => e = .returned (.tuple #[.int .i64 (if E = 3 then 0 else nrX neg n), erI (if E = 3 then 3 else nrE neg n)]) ∧ Below w.heap.size w w' := by
  rcases hE with rfl | rfl | rfl
  · rcases h with ⟨_, h⟩ | ⟨h, _⟩
    · refine (nearest_nil neg n hn v h w).mono ?_
      rintro e w ⟨rfl, rfl⟩
      exact ⟨by rw [if_neg (by decide), if_neg (by decide)], Below.refl _ _⟩
    · exact absurd rfl h
  · rcases h with ⟨h, _⟩ | ⟨_, h⟩
    · exact absurd h (by decide)
    · refine (nearest_bad neg (n : Int) (n := 3) (by decide) h hg).mono ?_
      rintro e w1 ⟨rfl, b1⟩
      exact ⟨by rw [if_pos rfl, if_pos rfl]; rfl, b1⟩
  · rcases h with ⟨h, _⟩ | ⟨_, h⟩
    · exact absurd h (by decide)
    · refine (nearest_far neg n hn h).mono ?_
      rintro e w ⟨rfl, rfl⟩
      exact ⟨by rw [if_neg (by decide), if_neg (by decide)], Below.refl _ _⟩
set_option maxRecDepth 100000 in
set_option maxHeartbeats 1000000 in
theorem iparse_no (s : ByteArray) (hs : s.size ≤ 140737488355328) (b : Int) (h0 : b ≠ 0) (h : b < 2 ∨ 36 < b) (w : World) (hg : ErrT w) :
    Calls Tryd.prog 37 #[.string s, .int .i64 b] w fun x w' => ∃ v, x = .returned (.tuple #[.int .i64 0, v]) ∧ Wr w' ⟨#[80, 97, 114, 115, 101]⟩ s 7 v ∧ Below w.heap.size w w' := by
  have SG := fun W => isign_any s W
  have hle := sgL_le s.data.toList
  rw [ls_size] at hle
  have hsl : ¬ (s.size : Int) < (sgL s.data.toList : Int) := by omega
  have P1 := fun W => parse_no (s.extract (sgL s.data.toList) s.size) (sub_size s hs _) b h0 h W
  have WR := fun W => wrap_err (c := ⟨#[80, 97, 114, 115, 101]⟩) (t := s) (by decide) (by omega) 7 W
  have HG : Hid (ErrT w) := hg
  have NB := fun W v neg (h : Wr W ⟨#[80, 97, 114, 115, 101]⟩ (s.extract (sgL s.data.toList) s.size) 7 v) (hg : ErrT W) => nearest_bad neg 0 (n := 7) (by decide) h hg
  clear h h0 hg hs hle
  generalize sgL s.data.toList = A at *
  generalize sgN s.data.toList = N at *
  go_enter Tryd.func37, Tryd.ntmps37
  go_wp2_with fail
  refine (SG _).mono ?_
  rintro e w ⟨rfl, rfl⟩
  go_wp2_with fail
  refine (P1 _).mono ?_
  rintro e w1 ⟨v, rfl, h1, b1⟩
  have H1 : Hid (Wr w1 ⟨#[80, 97, 114, 115, 101]⟩ (s.extract A s.size) 7 v ∧ Below w.heap.size w w1) := ⟨h1, b1⟩
  clear h1 b1
  go_wp2_with fail
  refine (NB _ _ _ H1.out.1 (HG.out.below H1.out.2 HG.out.pos)).mono ?_
  rintro e w2 ⟨rfl, b2⟩
  have B2 : Hid (Below w.heap.size w w2) := H1.out.2.trans (b2.mono H1.out.2.size)
  clear b2
  go_wp2_with fail
  refine (WR _).mono ?_
  rintro e w3 ⟨z, rfl, h3, b3⟩
  have H3 : Hid (Wr w3 ⟨#[80, 97, 114, 115, 101]⟩ s 7 z ∧ Below w.heap.size w w3) := ⟨h3, B2.out.trans (b3.mono B2.out.size)⟩
  clear h3 b3
  go_wp2
  go_ret2
  exact ⟨z, rfl, H3.out.1, H3.out.2⟩
set_option maxRecDepth 100000 in
set_option maxHeartbeats 1000000 in
theorem iparse_yes (s : ByteArray) (hs : s.size ≤ 140737488355328) (b : Nat) (h : readB b) (w : World) (hg : ErrT w) :
    Calls Tryd.prog 37 #[.string s, .int .i64 (b : Int)] w fun x w' => ∃ v, x = .returned (.tuple #[.int .i64 (ipX b s.data.toList), v]) ∧ ErV w' (ipE b s.data.toList : Int) ⟨#[80, 97, 114, 115, 101]⟩ s v ∧ Below w.heap.size w w' := by
  have SG := fun W => isign_any s W
  have hle := sgL_le s.data.toList
  rw [ls_size] at hle
  have hsl : ¬ (s.size : Int) < (sgL s.data.toList : Int) := by omega
  have P1 := fun W => parse_yes (s.extract (sgL s.data.toList) s.size) (sub_size s hs _) b h W
  have WR := fun W => ErV_erI (c := ⟨#[80, 97, 114, 115, 101]⟩) (t := s) (by decide) (by omega) (ipE b s.data.toList) W
  have HG : Hid (ErrT w) := hg
  have NB := fun W v (h : ErV W (psE b (s.data.toList.drop (sgL s.data.toList)) : Int) ⟨#[80, 97, 114, 115, 101]⟩ (s.extract (sgL s.data.toList) s.size) v) (hg : ErrT W) => nearest_any (sgN s.data.toList) (psX b (s.data.toList.drop (sgL s.data.toList))) (psE b (s.data.toList.drop (sgL s.data.toList))) (psX_lt _ _) (psE_cases _ _) h hg
  change ∀ W v _ _, Calls _ _ _ _ (fun e w' => e = .returned (.tuple #[.int .i64 (ipX b s.data.toList), erI (ipE b s.data.toList)]) ∧ _) at NB
  rw [ls_drop] at P1
  clear h hg hs hle
  generalize ipX b s.data.toList = X at *
  generalize ipE b s.data.toList = E at *
  generalize psX b (s.data.toList.drop (sgL s.data.toList)) = PX at *
  generalize psE b (s.data.toList.drop (sgL s.data.toList)) = PE at *
  generalize sgL s.data.toList = A at *
  generalize sgN s.data.toList = N at *
  generalize erI E = EI at *
  go_enter Tryd.func37, Tryd.ntmps37
  go_wp2_with fail
  refine (SG _).mono ?_
  rintro e w ⟨rfl, rfl⟩
  go_wp2_with fail
  refine (P1 _).mono ?_
  rintro e w1 ⟨v, rfl, h1, b1⟩
  have H1 : Hid (ErV w1 (PE : Int) ⟨#[80, 97, 114, 115, 101]⟩ (s.extract A s.size) v ∧ Below w.heap.size w w1) := ⟨h1, b1⟩
  clear h1 b1
  go_wp2_with fail
  refine (NB _ _ H1.out.1 (HG.out.below H1.out.2 HG.out.pos)).mono ?_
  rintro e w2 ⟨rfl, b2⟩
  have B2 : Hid (Below w.heap.size w w2) := H1.out.2.trans (b2.mono H1.out.2.size)
  clear b2
  go_wp2_with fail
  refine (WR _).mono ?_
  rintro e w3 ⟨z, rfl, h3, b3⟩
  have H3 : Hid (ErV w3 (E : Int) ⟨#[80, 97, 114, 115, 101]⟩ s z ∧ Below w.heap.size w w3) := ⟨h3, B2.out.trans (b3.mono B2.out.size)⟩
  clear h3 b3
  go_wp2
  go_ret2
  exact ⟨z, rfl, H3.out.1, H3.out.2⟩
/-- What Prefix of ints answers: the integer, the length, the error's number. -/
def iqX (b : Nat) (l : List UInt8) : Int := if pxE b (l.drop (sgL l)) = 3 then 0 else nrX (sgN l) (pxX b (l.drop (sgL l)))
def iqE (b : Nat) (l : List UInt8) : Nat := if pxE b (l.drop (sgL l)) = 3 then 3 else nrE (sgN l) (pxX b (l.drop (sgL l)))
def iqL (b : Nat) (l : List UInt8) : Nat := if 0 < bgL b (l.drop (sgL l)) then bgL b (l.drop (sgL l)) + sgL l else 0
end Go.Proofs.YtoabdoognadijaaDoor
