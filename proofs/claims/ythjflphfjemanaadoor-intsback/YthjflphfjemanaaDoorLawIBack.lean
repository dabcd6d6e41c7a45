/-
  The law IntsBack: the walk.
-/
import Derived.Test.YthjflphfjemanaaDoorItY
import Derived.Test.YthjflphfjemanaaDoorItW
namespace Go.Proofs.YthjflphfjemanaaDoor
open Go.RowKit

set_option maxRecDepth 100000 in
set_option maxHeartbeats 1000000 in
theorem iback_no (v b : Int) (h : b < 2 ∨ 36 < b) (w : World) (hg : ErrT w) :
    Calls Tryd.prog 7 #[.int .i64 v, .int .i64 b] w fun e w' => e = .returned (.bool true) ∧ Below w.heap.size w w' := by
  have S1 := works_any w hg
  have cs : b < 2 ∨ (¬ b < 2 ∧ 36 < b) := by omega
  clear h
  rcases cs with l1 | ⟨l1, l2⟩
  all_goals
    go_enter Tryd.func7, Tryd.ntmps7
    go_wp2_with fail
    refine S1.mono ?_
    rintro e w1 ⟨rfl, b1⟩
    go_wp2
    go_ret
    exact ⟨rfl, b1⟩
theorem low_at {D : ByteArray} {l : List UInt8} (hD : D.data.toList = l) (h : ∀ c ∈ l, low c) : ∀ (k : Nat) (hk : k < D.size), low (D[k]'hk) := by
  intro k hk
  have e := drop_at D hk
  rw [hD] at e
  exact h _ (List.mem_of_mem_drop (i := k) (by rw [e]; simp))
theorem first_at {D : ByteArray} {l : List UInt8} (hD : D.data.toList = l) (h : l.head? ≠ some 48) (h0 : 0 < D.size) : (((D[0]'h0).toNat : Int) != 48) = true := by
  have e := drop_at D h0
  rw [List.drop_zero, hD] at e
  have : ¬ ((D[0]'h0).toNat : Int) = 48 := fun z => h (by rw [e]; show some _ = some _; rw [show D[0]'h0 = 48 from UInt8.toNat_inj.1 (by show (D[0]'h0).toNat = 48; omega)])
  simpa using this
set_option maxRecDepth 100000 in
set_option maxHeartbeats 3000000 in
theorem iback_neg (v : Int) (h1 : -9223372036854775808 ≤ v) (h2 : v ≤ 9223372036854775807) (b : Nat) (hb1 : 2 ≤ b) (hb2 : b ≤ 36) (q : v < 0) (w : World) (hg : ErrT w) :
    Calls Tryd.prog 7 #[.int .i64 v, .int .i64 (b : Int)] w fun e w' => e = .returned (.bool true) ∧ Below w.heap.size w w' := by
  have F1 := fun W => iformat_yes v h1 h2 b hb1 hb2 W
  have hl := fl_le64 hb1 (abs_lt h1 h2)
  have hm := mrk_len v false
  have hmt : (mrk v true).length = 1 := by
    by_cases q : v < 0
    · rw [mrk_neg q]; rfl
    · rw [mrk_plus q]; rfl
  have e1 := ip_format hb1 hb2 h1 h2 false
  have P1 := fun W (hg : ErrT W) => iparse_yes (⟨(mrk v false ++ fl b v.natAbs).toArray⟩ : ByteArray) (by rw [str_size, List.length_append]; omega) b (Or.inr ⟨hb1, hb2⟩) W hg
  rw [arr_list, e1.1, e1.2] at P1
  have PD := fun W => ipad_yes v h1 h2 b hb1 hb2 70 (by decide) true W
  have e2 := ip_pad hb1 hb2 h1 h2 true (70 - (fl b v.natAbs).length)
  have P2 := fun W (hg : ErrT W) => iparse_yes (⟨(mrk v true ++ (List.replicate (70 - (fl b v.natAbs).length) 48 ++ fl b v.natAbs)).toArray⟩ : ByteArray) (by rw [str_size, List.length_append, List.length_append, List.length_replicate]; omega) b (Or.inr ⟨hb1, hb2⟩) W hg
  rw [arr_list, e2.1, e2.2] at P2
  have GD := fun W => igroup_yes v h1 h2 10 (by decide) (by decide) 3 (by decide) W
  have e3 := ip_group h1 h2
  have P3 := fun W (hg : ErrT W) => iparse_yes (⟨(mrk v false ++ gr 3 (fl 10 v.natAbs)).toArray⟩ : ByteArray) (by rw [str_size, List.length_append]; have := gr_len 3 (fl 10 v.natAbs); have := fl_le64 (b := 10) (by decide) (abs_lt h1 h2); omega) 0 (Or.inl rfl) W hg
  rw [arr_list, e3.1, e3.2] at P3
  have A1 := fun W => iabs_any v h1 h2 W
  have m := mk_abs h1 h2
  have M1 := fun W => imake_any (decide (v < 0)) v.natAbs (abs_lt h1 h2) W
  rw [m.1, m.2] at M1
  have hz71 : (((⟨(mrk v true ++ (List.replicate (70 - (fl b v.natAbs).length) 48 ++ fl b v.natAbs)).toArray⟩ : ByteArray).size : Int) != 71) = false := by
    rw [str_size, List.length_append, List.length_append, List.length_replicate, hmt]
    have : ((1 + (70 - (fl b v.natAbs).length + (fl b v.natAbs).length) : Nat) : Int) = 71 := by omega
    rw [this]; rfl
  have S1 := fun W (hg : ErrT W) => works_any W hg
  have HG : Hid (ErrT w) := hg
  have l0 : ¬ (b : Int) < 2 := by omega
  have l00 : ¬ (36 : Int) < (b : Int) := by omega
  have hlow := fl_low hb1 hb2 v.natAbs
  have hpos := fl_pos b v.natAbs
  have hfst := fl_first hb1 hb2 v.natAbs
  clear hg e1 e2 e3 m hmt
  rw [decide_eq_true q] at M1
  have hpl : (fl b v.natAbs).head? ≠ some 48 := by
    rcases hfst with z | z
    · exact z
    · omega
  have hsz : (⟨(mrk v false ++ fl b v.natAbs).toArray⟩ : ByteArray).size = 1 + (fl b v.natAbs).length := by rw [str_size, List.length_append, mrk_neg q]; rfl
  obtain ⟨D, hD⟩ : ∃ D, (⟨(mrk v false ++ fl b v.natAbs).toArray⟩ : ByteArray).extract 1 (⟨(mrk v false ++ fl b v.natAbs).toArray⟩ : ByteArray).size = D := ⟨_, rfl⟩
  have hDl : D.data.toList = fl b v.natAbs := by rw [← hD, ls_drop, arr_list, mrk_neg q]; rfl
  have hDs : D.size = (fl b v.natAbs).length := by rw [← ls_size, hDl]
  have h0 : 0 < D.size := by omega
  have h0' : (0 : Int) < (D.size : Int) := by omega
  have HLo : Hid (∀ (k : Nat) (hk : k < D.size), low (D[k]'hk)) := low_at hDl hlow
  have hf0 := first_at hDl hpl h0
  have hsl : ¬ ((⟨(mrk v false ++ fl b v.natAbs).toArray⟩ : ByteArray).size : Int) < 1 := by omega
  have hDm : D.size ≤ 100 := by omega
  clear hDl hlow hpos hfst hpl hsz h1 h2 hl hm hDs
  generalize (⟨(mrk v false ++ fl b v.natAbs).toArray⟩ : ByteArray) = SS at *
  generalize (⟨(mrk v true ++ (List.replicate (70 - (fl b v.natAbs).length) 48 ++ fl b v.natAbs)).toArray⟩ : ByteArray) = PP at *
  generalize (⟨(mrk v false ++ gr 3 (fl 10 v.natAbs)).toArray⟩ : ByteArray) = GG at *
  generalize (v.natAbs : Int) = V at *
  go_enter Tryd.func7, Tryd.ntmps7
  go_wp2_with fail
  refine (F1 _).mono ?_
  rintro e w1 ⟨rfl, b1⟩
  have B1 : Hid (Below w.heap.size w w1) := b1
  clear b1
  go_wp2_with fail
  refine (P1 _ (HG.out.below B1.out HG.out.pos)).mono ?_
  rintro e w2 ⟨v2, rfl, h2, b2⟩
  obtain rfl := h2.none rfl
  clear h2
  have B2 : Hid (Below w.heap.size w w2) := B1.out.trans (b2.mono B1.out.size)
  clear b2
  go_wp2_with fail
  refine (PD _).mono ?_
  rintro e w3 ⟨rfl, b3⟩
  have B3 : Hid (Below w.heap.size w w3) := B2.out.trans (b3.mono B2.out.size)
  clear b3
  go_wp2_with fail
  refine (P2 _ (HG.out.below B3.out HG.out.pos)).mono ?_
  rintro e w4 ⟨v4, rfl, h4, b4⟩
  obtain rfl := h4.none rfl
  clear h4
  have B4 : Hid (Below w.heap.size w w4) := B3.out.trans (b4.mono B3.out.size)
  clear b4
  go_wp2_with fail
  refine (GD _).mono ?_
  rintro e w5 ⟨rfl, b5⟩
  have B5 : Hid (Below w.heap.size w w5) := B4.out.trans (b5.mono B4.out.size)
  clear b5
  go_wp2_with fail
  refine (P3 _ (HG.out.below B5.out HG.out.pos)).mono ?_
  rintro e w6 ⟨v6, rfl, h6, b6⟩
  obtain rfl := h6.none rfl
  clear h6
  have B6 : Hid (Below w.heap.size w w6) := B5.out.trans (b6.mono B5.out.size)
  clear b6
  go_wp2_with fail
  refine (A1 _).mono ?_
  rintro e w6 ⟨rfl, rfl⟩
  go_wp2_with fail
  refine (M1 _).mono ?_
  rintro e w6 ⟨rfl, rfl⟩
  clear F1 P1 PD P2 GD P3 A1 M1 B1 B2 B3 B4 B5
  go_wp2
  go_loop [20] (fun iv => ∃ k : Nat, iv = .int .i64 (k : Int) ∧ k ≤ D.size) (fun iv => D.size - (intOf iv).toNat)
  case atStart => exact ⟨0, rfl, Nat.zero_le _⟩
  case round =>
    obtain ⟨k, rfl, hk⟩ := hrel
    by_cases hlt : k < D.size
    · have hlt' : (k : Int) < (D.size : Int) := by omega
      have cs : (¬ ((D[k]'hlt).toNat : Int) < 48 ∧ ¬ (57 : Int) < ((D[k]'hlt).toNat : Int)) ∨ (¬ ((D[k]'hlt).toNat : Int) < 48 ∧ (57 : Int) < ((D[k]'hlt).toNat : Int) ∧ ¬ ((D[k]'hlt).toNat : Int) < 97 ∧ ¬ (122 : Int) < ((D[k]'hlt).toNat : Int)) := by
        have := HLo.out k hlt
        unfold low at this
        omega
      rcases cs with ⟨q1, q2⟩ | ⟨q1, q2, q3, q4⟩
      all_goals
        go_wp2
        go_round
        case rel => exact ⟨k + 1, by go_num, by omega⟩
        case measure => simp [intOf] <;> omega
    · have hlt' : ¬ (k : Int) < (D.size : Int) := by omega
      go_wp2_with fail
      refine (S1 _ (HG.out.below B6.out HG.out.pos)).mono ?_
      rintro e w7 ⟨rfl, b7⟩
      have B7 : Hid (Below w.heap.size w w7) := B6.out.trans (b7.mono B6.out.size)
      clear b7
      go_wp2
      go_ret
      exact ⟨rfl, B7.out⟩
set_option maxRecDepth 100000 in
set_option maxHeartbeats 3000000 in
theorem iback_pos (v : Int) (h1 : -9223372036854775808 ≤ v) (h2 : v ≤ 9223372036854775807) (b : Nat) (hb1 : 2 ≤ b) (hb2 : b ≤ 36) (q : ¬ v < 0) (hpl : (fl b v.natAbs).head? ≠ some 48) (w : World) (hg : ErrT w) :
    Calls Tryd.prog 7 #[.int .i64 v, .int .i64 (b : Int)] w fun e w' => e = .returned (.bool true) ∧ Below w.heap.size w w' := by
  have F1 := fun W => iformat_yes v h1 h2 b hb1 hb2 W
  have hl := fl_le64 hb1 (abs_lt h1 h2)
  have hm := mrk_len v false
  have hmt : (mrk v true).length = 1 := by
    by_cases q : v < 0
    · rw [mrk_neg q]; rfl
    · rw [mrk_plus q]; rfl
  have e1 := ip_format hb1 hb2 h1 h2 false
  have P1 := fun W (hg : ErrT W) => iparse_yes (⟨(mrk v false ++ fl b v.natAbs).toArray⟩ : ByteArray) (by rw [str_size, List.length_append]; omega) b (Or.inr ⟨hb1, hb2⟩) W hg
  rw [arr_list, e1.1, e1.2] at P1
  have PD := fun W => ipad_yes v h1 h2 b hb1 hb2 70 (by decide) true W
  have e2 := ip_pad hb1 hb2 h1 h2 true (70 - (fl b v.natAbs).length)
  have P2 := fun W (hg : ErrT W) => iparse_yes (⟨(mrk v true ++ (List.replicate (70 - (fl b v.natAbs).length) 48 ++ fl b v.natAbs)).toArray⟩ : ByteArray) (by rw [str_size, List.length_append, List.length_append, List.length_replicate]; omega) b (Or.inr ⟨hb1, hb2⟩) W hg
  rw [arr_list, e2.1, e2.2] at P2
  have GD := fun W => igroup_yes v h1 h2 10 (by decide) (by decide) 3 (by decide) W
  have e3 := ip_group h1 h2
  have P3 := fun W (hg : ErrT W) => iparse_yes (⟨(mrk v false ++ gr 3 (fl 10 v.natAbs)).toArray⟩ : ByteArray) (by rw [str_size, List.length_append]; have := gr_len 3 (fl 10 v.natAbs); have := fl_le64 (b := 10) (by decide) (abs_lt h1 h2); omega) 0 (Or.inl rfl) W hg
  rw [arr_list, e3.1, e3.2] at P3
  have A1 := fun W => iabs_any v h1 h2 W
  have m := mk_abs h1 h2
  have M1 := fun W => imake_any (decide (v < 0)) v.natAbs (abs_lt h1 h2) W
  rw [m.1, m.2] at M1
  have hz71 : (((⟨(mrk v true ++ (List.replicate (70 - (fl b v.natAbs).length) 48 ++ fl b v.natAbs)).toArray⟩ : ByteArray).size : Int) != 71) = false := by
    rw [str_size, List.length_append, List.length_append, List.length_replicate, hmt]
    have : ((1 + (70 - (fl b v.natAbs).length + (fl b v.natAbs).length) : Nat) : Int) = 71 := by omega
    rw [this]; rfl
  have S1 := fun W (hg : ErrT W) => works_any W hg
  have HG : Hid (ErrT w) := hg
  have l0 : ¬ (b : Int) < 2 := by omega
  have l00 : ¬ (36 : Int) < (b : Int) := by omega
  have hlow := fl_low hb1 hb2 v.natAbs
  have hpos := fl_pos b v.natAbs
  have hfst := fl_first hb1 hb2 v.natAbs
  clear hg e1 e2 e3 m hmt
  have hmn := mrk_none q
  have hsz : (⟨(mrk v false ++ fl b v.natAbs).toArray⟩ : ByteArray).size = (fl b v.natAbs).length := by rw [str_size, hmn]; rfl
  obtain ⟨D, hD⟩ : ∃ D, D = (⟨(mrk v false ++ fl b v.natAbs).toArray⟩ : ByteArray) := ⟨_, rfl⟩
  have hDl : D.data.toList = fl b v.natAbs := by rw [hD, arr_list, hmn]; rfl
  have h0 : 0 < D.size := by rw [hD]; omega
  have h0' : (0 : Int) < (D.size : Int) := by omega
  have hDm : D.size ≤ 100 := by rw [hD]; omega
  have HLo : Hid (∀ (k : Nat) (hk : k < D.size), low (D[k]'hk)) := low_at hDl hlow
  rw [← hD] at F1 P1
  have hf0 := first_at hDl hpl h0
  clear hDl hlow hpos hpl hfst hsz h1 h2 hl hm hD hmn
  generalize (⟨(mrk v true ++ (List.replicate (70 - (fl b v.natAbs).length) 48 ++ fl b v.natAbs)).toArray⟩ : ByteArray) = PP at *
  generalize (⟨(mrk v false ++ gr 3 (fl 10 v.natAbs)).toArray⟩ : ByteArray) = GG at *
  generalize (v.natAbs : Int) = V at *
  go_enter Tryd.func7, Tryd.ntmps7
  go_wp2_with fail
  refine (F1 _).mono ?_
  rintro e w1 ⟨rfl, b1⟩
  have B1 : Hid (Below w.heap.size w w1) := b1
  clear b1
  go_wp2_with fail
  refine (P1 _ (HG.out.below B1.out HG.out.pos)).mono ?_
  rintro e w2 ⟨v2, rfl, h2, b2⟩
  obtain rfl := h2.none rfl
  clear h2
  have B2 : Hid (Below w.heap.size w w2) := B1.out.trans (b2.mono B1.out.size)
  clear b2
  go_wp2_with fail
  refine (PD _).mono ?_
  rintro e w3 ⟨rfl, b3⟩
  have B3 : Hid (Below w.heap.size w w3) := B2.out.trans (b3.mono B2.out.size)
  clear b3
  go_wp2_with fail
  refine (P2 _ (HG.out.below B3.out HG.out.pos)).mono ?_
  rintro e w4 ⟨v4, rfl, h4, b4⟩
  obtain rfl := h4.none rfl
  clear h4
  have B4 : Hid (Below w.heap.size w w4) := B3.out.trans (b4.mono B3.out.size)
  clear b4
  go_wp2_with fail
  refine (GD _).mono ?_
  rintro e w5 ⟨rfl, b5⟩
  have B5 : Hid (Below w.heap.size w w5) := B4.out.trans (b5.mono B4.out.size)
  clear b5
  go_wp2_with fail
  refine (P3 _ (HG.out.below B5.out HG.out.pos)).mono ?_
  rintro e w6 ⟨v6, rfl, h6, b6⟩
  obtain rfl := h6.none rfl
  clear h6
  have B6 : Hid (Below w.heap.size w w6) := B5.out.trans (b6.mono B5.out.size)
  clear b6
  go_wp2_with fail
  refine (A1 _).mono ?_
  rintro e w6 ⟨rfl, rfl⟩
  go_wp2_with fail
  refine (M1 _).mono ?_
  rintro e w6 ⟨rfl, rfl⟩
  clear F1 P1 PD P2 GD P3 A1 M1 B1 B2 B3 B4 B5
  go_wp2
  go_loop [20] (fun iv => ∃ k : Nat, iv = .int .i64 (k : Int) ∧ k ≤ D.size) (fun iv => D.size - (intOf iv).toNat)
  case atStart => exact ⟨0, rfl, Nat.zero_le _⟩
  case round =>
    obtain ⟨k, rfl, hk⟩ := hrel
    by_cases hlt : k < D.size
    · have hlt' : (k : Int) < (D.size : Int) := by omega
      have cs : (¬ ((D[k]'hlt).toNat : Int) < 48 ∧ ¬ (57 : Int) < ((D[k]'hlt).toNat : Int)) ∨ (¬ ((D[k]'hlt).toNat : Int) < 48 ∧ (57 : Int) < ((D[k]'hlt).toNat : Int) ∧ ¬ ((D[k]'hlt).toNat : Int) < 97 ∧ ¬ (122 : Int) < ((D[k]'hlt).toNat : Int)) := by
        have := HLo.out k hlt
        unfold low at this
        omega
      rcases cs with ⟨q1, q2⟩ | ⟨q1, q2, q3, q4⟩
      all_goals
        go_wp2
        go_round
        case rel => exact ⟨k + 1, by go_num, by omega⟩
        case measure => simp [intOf] <;> omega
    · have hlt' : ¬ (k : Int) < (D.size : Int) := by omega
      go_wp2_with fail
      refine (S1 _ (HG.out.below B6.out HG.out.pos)).mono ?_
      rintro e w7 ⟨rfl, b7⟩
      have B7 : Hid (Below w.heap.size w w7) := B6.out.trans (b7.mono B6.out.size)
      clear b7
      go_wp2
      go_ret
      exact ⟨rfl, B7.out⟩
set_option maxRecDepth 100000 in
set_option maxHeartbeats 3000000 in
theorem iback_zero (v : Int) (h1 : -9223372036854775808 ≤ v) (h2 : v ≤ 9223372036854775807) (b : Nat) (hb1 : 2 ≤ b) (hb2 : b ≤ 36) (q : ¬ v < 0) (hv0 : v.natAbs = 0) (hpl : fl b v.natAbs = [48]) (w : World) (hg : ErrT w) :
    Calls Tryd.prog 7 #[.int .i64 v, .int .i64 (b : Int)] w fun e w' => e = .returned (.bool true) ∧ Below w.heap.size w w' := by
  have F1 := fun W => iformat_yes v h1 h2 b hb1 hb2 W
  have hl := fl_le64 hb1 (abs_lt h1 h2)
  have hm := mrk_len v false
  have hmt : (mrk v true).length = 1 := by
    by_cases q : v < 0
    · rw [mrk_neg q]; rfl
    · rw [mrk_plus q]; rfl
  have e1 := ip_format hb1 hb2 h1 h2 false
  have P1 := fun W (hg : ErrT W) => iparse_yes (⟨(mrk v false ++ fl b v.natAbs).toArray⟩ : ByteArray) (by rw [str_size, List.length_append]; omega) b (Or.inr ⟨hb1, hb2⟩) W hg
  rw [arr_list, e1.1, e1.2] at P1
  have PD := fun W => ipad_yes v h1 h2 b hb1 hb2 70 (by decide) true W
  have e2 := ip_pad hb1 hb2 h1 h2 true (70 - (fl b v.natAbs).length)
  have P2 := fun W (hg : ErrT W) => iparse_yes (⟨(mrk v true ++ (List.replicate (70 - (fl b v.natAbs).length) 48 ++ fl b v.natAbs)).toArray⟩ : ByteArray) (by rw [str_size, List.length_append, List.length_append, List.length_replicate]; omega) b (Or.inr ⟨hb1, hb2⟩) W hg
  rw [arr_list, e2.1, e2.2] at P2
  have GD := fun W => igroup_yes v h1 h2 10 (by decide) (by decide) 3 (by decide) W
  have e3 := ip_group h1 h2
  have P3 := fun W (hg : ErrT W) => iparse_yes (⟨(mrk v false ++ gr 3 (fl 10 v.natAbs)).toArray⟩ : ByteArray) (by rw [str_size, List.length_append]; have := gr_len 3 (fl 10 v.natAbs); have := fl_le64 (b := 10) (by decide) (abs_lt h1 h2); omega) 0 (Or.inl rfl) W hg
  rw [arr_list, e3.1, e3.2] at P3
  have A1 := fun W => iabs_any v h1 h2 W
  have m := mk_abs h1 h2
  have M1 := fun W => imake_any (decide (v < 0)) v.natAbs (abs_lt h1 h2) W
  rw [m.1, m.2] at M1
  have hz71 : (((⟨(mrk v true ++ (List.replicate (70 - (fl b v.natAbs).length) 48 ++ fl b v.natAbs)).toArray⟩ : ByteArray).size : Int) != 71) = false := by
    rw [str_size, List.length_append, List.length_append, List.length_replicate, hmt]
    have : ((1 + (70 - (fl b v.natAbs).length + (fl b v.natAbs).length) : Nat) : Int) = 71 := by omega
    rw [this]; rfl
  have S1 := fun W (hg : ErrT W) => works_any W hg
  have HG : Hid (ErrT w) := hg
  have l0 : ¬ (b : Int) < 2 := by omega
  have l00 : ¬ (36 : Int) < (b : Int) := by omega
  have hlow := fl_low hb1 hb2 v.natAbs
  have hpos := fl_pos b v.natAbs
  have hfst := fl_first hb1 hb2 v.natAbs
  clear hg e1 e2 e3 m hmt
  rw [decide_eq_false q] at M1
  have hmn := mrk_none q
  have hsz : (⟨(mrk v false ++ fl b v.natAbs).toArray⟩ : ByteArray).size = (fl b v.natAbs).length := by rw [str_size, hmn]; rfl
  obtain ⟨D, hD⟩ : ∃ D, D = (⟨(mrk v false ++ fl b v.natAbs).toArray⟩ : ByteArray) := ⟨_, rfl⟩
  have hDl : D.data.toList = fl b v.natAbs := by rw [hD, arr_list, hmn]; rfl
  have h0 : 0 < D.size := by rw [hD]; omega
  have h0' : (0 : Int) < (D.size : Int) := by omega
  have hDm : D.size ≤ 100 := by rw [hD]; omega
  have HLo : Hid (∀ (k : Nat) (hk : k < D.size), low (D[k]'hk)) := low_at hDl hlow
  rw [← hD] at F1 P1
  rw [hpl] at hDl
  obtain rfl : D = ⟨#[48]⟩ := ByteArray.ext (Array.ext' hDl)
  obtain rfl : v = 0 := by omega
  clear hDl hlow hpos hpl hfst hsz h1 h2 hl hm hD hmn q h0' hDm hv0 HLo h0
  generalize (⟨(mrk 0 true ++ (List.replicate (70 - (fl b (0 : Int).natAbs).length) 48 ++ fl b (0 : Int).natAbs)).toArray⟩ : ByteArray) = PP at *
  generalize (⟨(mrk 0 false ++ gr 3 (fl 10 (0 : Int).natAbs)).toArray⟩ : ByteArray) = GG at *
  generalize ((0 : Int).natAbs : Int) = V at *
  obtain ⟨D, hD⟩ : ∃ D, D = (⟨#[48]⟩ : ByteArray) := ⟨_, rfl⟩
  have h0 : 0 < D.size := by rw [hD]; decide
  have h0' : (0 : Int) < (D.size : Int) := by omega
  have hDm : D.size ≤ 100 := by rw [hD]; decide
  have HLo : Hid (∀ (k : Nat) (hk : k < D.size), low (D[k]'hk)) := low_at (l := [48]) (by rw [hD]) (fun c hc => by rw [List.mem_singleton.1 hc]; unfold low; decide)
  have hf0 : (((D[0]'h0).toNat : Int) != 48) = false := by subst hD; rfl
  have hf1 : (D.toList == [48]) = true := by rw [list_data, hD]; rfl
  rw [← hD] at F1 P1
  clear hD
  go_enter Tryd.func7, Tryd.ntmps7
  go_wp2_with fail
  refine (F1 _).mono ?_
  rintro e w1 ⟨rfl, b1⟩
  have B1 : Hid (Below w.heap.size w w1) := b1
  clear b1
  go_wp2_with fail
  refine (P1 _ (HG.out.below B1.out HG.out.pos)).mono ?_
  rintro e w2 ⟨v2, rfl, h2, b2⟩
  obtain rfl := h2.none rfl
  clear h2
  have B2 : Hid (Below w.heap.size w w2) := B1.out.trans (b2.mono B1.out.size)
  clear b2
  go_wp2_with fail
  refine (PD _).mono ?_
  rintro e w3 ⟨rfl, b3⟩
  have B3 : Hid (Below w.heap.size w w3) := B2.out.trans (b3.mono B2.out.size)
  clear b3
  go_wp2_with fail
  refine (P2 _ (HG.out.below B3.out HG.out.pos)).mono ?_
  rintro e w4 ⟨v4, rfl, h4, b4⟩
  obtain rfl := h4.none rfl
  clear h4
  have B4 : Hid (Below w.heap.size w w4) := B3.out.trans (b4.mono B3.out.size)
  clear b4
  go_wp2_with fail
  refine (GD _).mono ?_
  rintro e w5 ⟨rfl, b5⟩
  have B5 : Hid (Below w.heap.size w w5) := B4.out.trans (b5.mono B4.out.size)
  clear b5
  go_wp2_with fail
  refine (P3 _ (HG.out.below B5.out HG.out.pos)).mono ?_
  rintro e w6 ⟨v6, rfl, h6, b6⟩
  obtain rfl := h6.none rfl
  clear h6
  have B6 : Hid (Below w.heap.size w w6) := B5.out.trans (b6.mono B5.out.size)
  clear b6
  go_wp2_with fail
  refine (A1 _).mono ?_
  rintro e w6 ⟨rfl, rfl⟩
  go_wp2_with fail
  refine (M1 _).mono ?_
  rintro e w6 ⟨rfl, rfl⟩
  clear F1 P1 PD P2 GD P3 A1 M1 B1 B2 B3 B4 B5
  go_wp2
  go_loop [20] (fun iv => ∃ k : Nat, iv = .int .i64 (k : Int) ∧ k ≤ D.size) (fun iv => D.size - (intOf iv).toNat)
  case atStart => exact ⟨0, rfl, Nat.zero_le _⟩
  case round =>
    obtain ⟨k, rfl, hk⟩ := hrel
    by_cases hlt : k < D.size
    · have hlt' : (k : Int) < (D.size : Int) := by omega
      have cs : (¬ ((D[k]'hlt).toNat : Int) < 48 ∧ ¬ (57 : Int) < ((D[k]'hlt).toNat : Int)) ∨ (¬ ((D[k]'hlt).toNat : Int) < 48 ∧ (57 : Int) < ((D[k]'hlt).toNat : Int) ∧ ¬ ((D[k]'hlt).toNat : Int) < 97 ∧ ¬ (122 : Int) < ((D[k]'hlt).toNat : Int)) := by
        have := HLo.out k hlt
        unfold low at this
        omega
      rcases cs with ⟨q1, q2⟩ | ⟨q1, q2, q3, q4⟩
      all_goals
        go_wp2
        go_round
        case rel => exact ⟨k + 1, by go_num, by omega⟩
        case measure => simp [intOf] <;> omega
    · have hlt' : ¬ (k : Int) < (D.size : Int) := by omega
      go_wp2_with fail
      refine (S1 _ (HG.out.below B6.out HG.out.pos)).mono ?_
      rintro e w7 ⟨rfl, b7⟩
      have B7 : Hid (Below w.heap.size w w7) := B6.out.trans (b7.mono B6.out.size)
      clear b7
      go_wp2
      go_ret
      exact ⟨rfl, B7.out⟩
theorem iback_yes (v : Int) (h1 : -9223372036854775808 ≤ v) (h2 : v ≤ 9223372036854775807) (b : Nat) (hb1 : 2 ≤ b) (hb2 : b ≤ 36) (w : World) (hg : ErrT w) :
    Calls Tryd.prog 7 #[.int .i64 v, .int .i64 (b : Int)] w fun e w' => e = .returned (.bool true) ∧ Below w.heap.size w w' := by
  by_cases q : v < 0
  · exact iback_neg v h1 h2 b hb1 hb2 q w hg
  · rcases fl_first hb1 hb2 v.natAbs with z | ⟨z, z2⟩
    · exact iback_pos v h1 h2 b hb1 hb2 q z w hg
    · exact iback_zero v h1 h2 b hb1 hb2 q z z2 w hg
theorem iback_law (v : Int) (h1 : -9223372036854775808 ≤ v) (h2 : v ≤ 9223372036854775807) (b : Int) (w : World) (hg : ErrT w) :
    Calls Tryd.prog 7 #[.int .i64 v, .int .i64 b] w fun e w' => e = .returned (.bool true) ∧ Below w.heap.size w w' := by
  by_cases h : b < 2 ∨ 36 < b
  · exact iback_no v b h w hg
  · obtain ⟨n, rfl⟩ : ∃ n : Nat, b = (n : Int) := ⟨b.toNat, by omega⟩
    exact iback_yes v h1 h2 n (by omega) (by omega) w hg
end Go.Proofs.YthjflphfjemanaaDoor
