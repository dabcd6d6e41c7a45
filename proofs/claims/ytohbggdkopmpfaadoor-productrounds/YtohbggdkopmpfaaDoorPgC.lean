/-
  What the calls of powers.whole, fraction and Of answer: a power of ten, cut off behind 128 bits, or the error.
-/
import Derived.Test.YtohbggdkopmpfaaDoorPgM
import Derived.Test.YtohbggdkopmpfaaDoorPwF
import Derived.Deep.DeepCutAuto
namespace Go.Proofs.YtohbggdkopmpfaaDoor
open Go.RowKit

/-- A power as a struct. -/
def pwV (M : Nat) (E : Int) (X : Bool) : Value := .agg #[.int .u64 (hiW M), .int .u64 (loW M), .int .i64 E, .bool X]

set_option maxRecDepth 100000 in
set_option maxHeartbeats 2000000 in
theorem whole_ok (n : Nat) (hn : n ≤ 400) (w : World) (hT : Tab w) :
    Calls Tryd.prog 19 #[.int .i64 (n : Int)] w fun e w' => ∃ M E, e = .returned (pwV M E (decide ((0 : Int) ≤ n ∧ (n : Int) ≤ 55))) ∧ Pw (n : Int) M E ∧ Below w.heap.size w w' := by
  obtain ⟨ov, ho⟩ : ∃ ov, ov = bl (5 ^ n) - 128 := ⟨_, rfl⟩
  obtain ⟨top, ht⟩ : ∃ top, top = 5 ^ n / 2 ^ ov := ⟨_, rfl⟩
  obtain ⟨room, hr⟩ : ∃ room, room = 128 - bl top := ⟨_, rfl⟩
  obtain ⟨t0, t1, t2, m2, pw, ex⟩ := whole_pw ho ht hr
  have hld := ldz_nat t0 t1
  obtain ⟨M, hM⟩ : ∃ M, M = top * 2 ^ room := ⟨_, rfl⟩
  rw [← hM] at m2 pw
  have hsh := shl_of hM m2 (ldz (hiW top) (loW top)) (by rw [hld, hr]; omega)
  have hl := five_bl (n := n)
  have PF := fun W => pof_ok n hn W
  obtain ⟨X, hX⟩ : ∃ X, X = 5 ^ n := ⟨_, rfl⟩
  obtain ⟨L, hL⟩ : ∃ L, L = bl X := ⟨_, rfl⟩
  rw [← hX] at ht ex
  rw [← hX, ← hL] at ho hl
  simp only [← hX, ← hL] at PF
  have HM : Hid (Pw (n : Int) M ((n : Int) + ov - room) ∧ (X % 2 ^ ov = 0 ↔ ((0 : Int) ≤ n ∧ (n : Int) ≤ 55)) ∧ shl (val (hiW top) (loW top)) (ldz (hiW top) (loW top)) = M ∧ top < 2 ^ 128 ∧ top = X / 2 ^ ov) := ⟨pw, ex, hsh, t1, ht⟩
  have hroom : ldz (hiW top) (loW top) = (room : Int) := by rw [hld, hr]; omega
  have HR : Hid (ldz (hiW top) (loW top) = (room : Int)) := hroom
  have hr2 : room ≤ 128 := by omega
  have w1 : Word (hiW top) := hiW_word t1
  have w2 : Word (loW top) := loW_word top
  clear t0 t1 t2 m2 pw ex hld hM hsh ht hr hX hL hroom
  have HO : Hid (ov = L - 128) := ho
  have hov : ov ≤ 2000 := by omega
  clear ho
  have hT0 : Tab (w.alloc (.cells #[.int .u64 0, .int .u64 0, .int .i64 0, .bool false] 38)) := hT.next ((Below.refl _ _).alloc (Nat.le_refl _) _)
  obtain ⟨CB, hCB⟩ : ∃ CB, CB = decide (X % 2 ^ ov ≠ 0) := ⟨_, rfl⟩
  have HC : Hid (CB = decide (X % 2 ^ ov ≠ 0)) := hCB
  clear hCB
  go_enter Tryd.func19, Tryd.ntmps19
  go_wp2_with fail
  refine (PF _).mono ?_
  rintro e wa ⟨va, rfl, na, ba⟩
  have F1 : Hid (FlB wa w.heap.size _ _ _ _) := (FlB.new w (.int .u64 0) (.int .u64 0) (.int .i64 0) (.bool false) 38).step ba
  have B1 : Hid (Below w.heap.size w wa) := ((Below.refl _ _).alloc (Nat.le_refl _) _).trans (ba.mono (by simp))
  have SH := shr_ok (hT0.next ba) na ov (by omega)
  rw [← HC.out, ← HM.out.2.2.2.2] at SH
  clear ba na PF hT0 hT
  go_upto_region 2 with fail
  go_cut [5] (fun s wx => wx = wa ∧ s = .int .i64 (ov : Int))
  case first =>
    by_cases c : 128 < (L : Int)
    · have e : (L : Int) - 128 = (ov : Int) := by have := HO.out; omega
      go_wp2
      all_goals first | (exfalso; omega) | skip
      go_meet
      exact ⟨rfl, rfl⟩
    · go_wp2
      all_goals first | (exfalso; omega) | skip
      go_meet
      exact ⟨rfl, by have := HO.out; rw [show ov = 0 by omega]; rfl⟩
  case rest =>
  obtain ⟨hcw, rfl⟩ := hcut
  subst hcw
  go_wp2_with fail
  refine SH.mono ?_
  rintro e wb ⟨vb, rfl, nb, bb⟩
  have F2 : Hid (FlB wb w.heap.size _ _ _ _) := F1.out.step bb
  have B2 : Hid (Below w.heap.size w wb) := B1.out.trans (bb.mono B1.out.size)
  have NM := number_ok nb HM.out.2.2.2.1
  clear SH F1 B1 nb bb
  go_wp2_with fail
  refine NM.mono ?_
  rintro e wd ⟨rfl, bd⟩
  have F3 : Hid (FlB wd w.heap.size _ _ _ _) := F2.out.step bd
  have B3 : Hid (Below w.heap.size w wd) := B2.out.trans (bd.mono B2.out.size)
  clear NM F2 B2 bd
  have Q3 : Hid (TwB (wd.alloc (.cells #[.int .u64 (hiW top), .int .u64 (loW top)] 36)) wd.heap.size _ _) := TwB.new wd _ _ _
  have LD := fun W => wlead_any (hiW top) (loW top) w1 w2 W
  simp only [HR.out] at LD
  have LF := fun W => wleft_any (hiW top) (loW top) (room : Int) w1 w2 W
  have hsh := HM.out.2.2.1
  rw [HR.out] at hsh
  simp only [hsh] at LF
  clear hsh w1 w2
  generalize hiW top = h at *
  generalize loW top = l at *
  have HX : Hid ((!CB) = decide ((0 : Int) ≤ n ∧ (n : Int) ≤ 55)) := by
    show _ = _
    rw [HC.out]
    by_cases z : X % 2 ^ ov = 0
    · rw [decide_eq_false (by simpa using z), decide_eq_true (HM.out.2.1.1 z)]; rfl
    · rw [decide_eq_true z, decide_eq_false (fun q => z (HM.out.2.1.2 q))]; rfl
  generalize hEX : decide ((0 : Int) ≤ n ∧ (n : Int) ≤ 55) = EX at *
  have l3 : w.heap.size < wd.heap.size := F3.out.lt
  go_wp2_with fail
  refine (LD _).mono ?_
  rintro e we ⟨rfl, be⟩
  have F4 : Hid (FlB we w.heap.size _ _ _ _) := (F3.out.al _).step be
  have Q4 : Hid (TwB we wd.heap.size _ _) := Q3.out.step be
  have B4 : Hid (Below w.heap.size w we) := (B3.out.alloc B3.out.size _).trans (be.mono (by have := B3.out.size; simp; omega))
  clear be F3 Q3 B3 LD
  obtain ⟨_, q0, q1, _, _⟩ := Q4.out
  go_wp2_with fail
  refine (LF _).mono ?_
  rintro e wf ⟨rfl, bf⟩
  have F5 : Hid (FlB wf w.heap.size _ _ _ _) := F4.out.step bf
  have B5 : Hid (Below w.heap.size w wf) := B4.out.trans (bf.mono B4.out.size)
  clear bf F4 Q4 B4 LF q0 q1
  obtain ⟨_, a0, a1, a2, a3, f0, f1, f2, f3⟩ := F5.out
  have HP : Hid (Pw (n : Int) M ((n : Int) + ov - room)) := HM.out.1
  clear HM HR
  go_wp2
  refine bodyPost_ret (v := .agg #[.int .u64 (hiW M), .int .u64 (loW M), .int .i64 ((n : Int) + ov - room), .bool (!CB)]) (by simp [results, Tryd.results19, go_sem, World.cell?_setCell_same, World.cell?_setCell_other, a0, a1, a2, a3]) rfl ⟨M, (n : Int) + ov - room, by rw [hEX, ← HX.out]; rfl, HP.out, (((B5.out.setCell (Nat.le_refl _) _).setCell (Nat.le_refl _) _).setCell (Nat.le_refl _) _).setCell (Nat.le_refl _) _⟩

theorem two_lt {s K : Nat} (h : s < 64 * K) : 1 * 2 ^ s < B ^ K := by
  rw [Nat.one_mul, twoB_pow]
  exact Nat.pow_lt_pow_right (by omega) h

set_option maxRecDepth 100000 in
set_option maxHeartbeats 2000000 in
theorem fraction_ok (n : Nat) (n0 : 0 < n) (hn : n ≤ 400) (w : World) (hT : Tab w) :
    Calls Tryd.prog 18 #[.int .i64 (n : Int)] w fun e w' => ∃ M E, e = .returned (pwV M E false) ∧ Pw (-(n : Int)) M E ∧ Below w.heap.size w w' := by
  obtain ⟨sh, hs⟩ : ∃ sh, sh = 127 + bl (5 ^ n) := ⟨_, rfl⟩
  obtain ⟨m2, pw⟩ := fraction_pw n0 hs
  have hl := five_bl (n := n)
  have PF := fun W => pof_ok n hn W
  have x0 : 5 ^ n ≠ 0 := Nat.ne_of_gt (Nat.pow_pos (by omega))
  obtain ⟨X, hX⟩ : ∃ X, X = 5 ^ n := ⟨_, rfl⟩
  obtain ⟨L, hL⟩ : ∃ L, L = bl X := ⟨_, rfl⟩
  rw [← hX, ← hL] at hs hl
  rw [← hX] at x0 m2 pw
  simp only [← hX, ← hL] at PF
  have hs3 : sh < 64 * 128 := by omega
  have O1 := fun W => of_any 1 (by decide) W
  have SL := fun (W : World) (v : Value) (h : NatV W v 1) => shl_ok h sh (two_lt hs3) (by omega)
  simp only [Nat.one_mul] at SL
  have HS : Hid (X ≠ 0 ∧ 2 ^ sh / X < 2 ^ 128 ∧ Pw (-(n : Int)) (2 ^ sh / X) (-(n : Int) - sh)) := ⟨x0, m2, pw⟩
  have HL : Hid (127 + (L : Int) = (sh : Int)) := (by omega : 127 + (L : Int) = (sh : Int))
  have hl2 : L ≤ 1300 := by omega
  have hT0 : Tab (w.alloc (.cells #[.int .u64 0, .int .u64 0, .int .i64 0, .bool false] 38)) := hT.next ((Below.refl _ _).alloc (Nat.le_refl _) _)
  have hsh2 := HL.out
  clear hs hX hL x0 m2 pw hl
  go_enter Tryd.func18, Tryd.ntmps18
  go_wp2_with fail
  refine (PF _).mono ?_
  rintro e wa ⟨va, rfl, na, ba⟩
  have F1 : Hid (FlB wa w.heap.size _ _ _ _) := (FlB.new w (.int .u64 0) (.int .u64 0) (.int .i64 0) (.bool false) 38).step ba
  have B1 : Hid (Below w.heap.size w wa) := ((Below.refl _ _).alloc (Nat.le_refl _) _).trans (ba.mono (by simp))
  have T1 : Hid (Tab wa ∧ NatV wa va X) := ⟨hT0.next ba, na⟩
  clear ba na PF hT0 hT
  go_wp2_with fail
  refine (O1 _).mono ?_
  rintro e wb ⟨vb, rfl, nb, bb⟩
  have F2 : Hid (FlB wb w.heap.size _ _ _ _) := F1.out.step bb
  have B2 : Hid (Below w.heap.size w wb) := B1.out.trans (bb.mono B1.out.size)
  have T2 : Hid (Tab wb ∧ NatV wb va X) := ⟨T1.out.1.next bb, T1.out.2.below bb⟩
  have S2 := SL wb vb nb
  clear SL O1 F1 B1 T1 nb bb
  go_wp2_with fail
  refine S2.mono ?_
  rintro e wc ⟨vc, rfl, nc, bc⟩
  have F3 : Hid (FlB wc w.heap.size _ _ _ _) := F2.out.step bc
  have B3 : Hid (Below w.heap.size w wc) := B2.out.trans (bc.mono B2.out.size)
  have DV := div_ok (T2.out.1.next bc) nc (T2.out.2.below bc) HS.out.1
  clear S2 F2 B2 T2 nc bc
  go_wp2_with fail
  refine DV.mono ?_
  rintro e wd ⟨v1, v2, rfl, n1, n2, bd⟩
  have F4 : Hid (FlB wd w.heap.size _ _ _ _) := F3.out.step bd
  have B4 : Hid (Below w.heap.size w wd) := B3.out.trans (bd.mono B3.out.size)
  have NM := number_ok n1 HS.out.2.1
  have HP : Hid (Pw (-(n : Int)) (2 ^ sh / X) (-(n : Int) - sh)) := HS.out.2.2
  clear DV F3 B3 n1 n2 bd HS
  generalize 2 ^ sh / X = M at *
  go_wp2_with fail
  refine NM.mono ?_
  rintro e we ⟨rfl, be⟩
  have F5 : Hid (FlB we w.heap.size _ _ _ _) := F4.out.step be
  have B5 : Hid (Below w.heap.size w we) := B4.out.trans (be.mono B4.out.size)
  clear NM F4 B4 be
  obtain ⟨_, a0, a1, a2, a3, f0, f1, f2, f3⟩ := F5.out
  go_wp2
  refine bodyPost_ret (v := .agg #[.int .u64 (hiW M), .int .u64 (loW M), .int .i64 (-(n : Int) - sh), .bool false]) (by simp [results, Tryd.results18, go_sem, World.cell?_setCell_same, World.cell?_setCell_other, a0, a1, a2, a3]) rfl ⟨M, -(n : Int) - sh, rfl, HP.out, (((B5.out.setCell (Nat.le_refl _) _).setCell (Nat.le_refl _) _).setCell (Nat.le_refl _) _).setCell (Nat.le_refl _) _⟩

set_option maxRecDepth 100000 in
set_option maxHeartbeats 2000000 in
theorem of_yes (x : Int) (h1 : -400 ≤ x) (h2 : x ≤ 400) (w : World) (hT : Tab w) :
    Calls Tryd.prog 11 #[.int .i64 x] w fun e w' => ∃ M E, e = .returned (.tuple #[pwV M E (decide (0 ≤ x ∧ x ≤ 55)), .nilIface]) ∧ Pw x M E ∧ Below w.heap.size w w' := by
  have W := fun y => within_yes x (-400) 400 h1 h2 y
  have hT0 : Tab (w.alloc (.cells #[.int .u64 0, .int .u64 0, .int .i64 0, .bool false] 38)) := hT.next ((Below.refl _ _).alloc (Nat.le_refl _) _)
  by_cases c : x < 0
  · obtain ⟨n, hn⟩ : ∃ n : Nat, -x = (n : Int) := ⟨(-x).toNat, by omega⟩
    have FR := fraction_ok n (by omega) (by omega) _ hT0
    rw [show decide (0 ≤ x ∧ x ≤ 55) = false from decide_eq_false (by omega)]
    have HN : Hid (-(n : Int) = x) := (by omega : -(n : Int) = x)
    rw [HN.out] at FR
    go_enter Tryd.func11, Tryd.ntmps11
    go_wp2_with fail
    refine (W _).mono ?_
    rintro e w1 ⟨rfl, hw1⟩
    subst hw1
    go_wp2_with fail
    refine FR.mono ?_
    rintro e w2 ⟨M, E, rfl, pw, b2⟩
    have F2 : Hid (FlB w2 w.heap.size _ _ _ _) := (FlB.new w (.int .u64 0) (.int .u64 0) (.int .i64 0) (.bool false) 38).step b2
    have B2 : Hid (Below w.heap.size w w2) := ((Below.refl _ _).alloc (Nat.le_refl _) _).trans (b2.mono (by simp))
    have HP : Hid (Pw x M E) := pw
    clear pw b2 FR W hT hT0
    obtain ⟨_, a0, a1, a2, a3, f0, f1, f2, f3⟩ := F2.out
    unfold pwV
    go_wp2
    refine bodyPost_ret (v := .tuple #[.agg #[.int .u64 (hiW M), .int .u64 (loW M), .int .i64 E, .bool false], .nilIface]) (by simp [results, Tryd.results11, go_sem, World.cell?_setCell_same, World.cell?_setCell_other, a0, a1, a2, a3]) rfl ⟨M, E, rfl, HP.out, (((B2.out.setCell (Nat.le_refl _) _).setCell (Nat.le_refl _) _).setCell (Nat.le_refl _) _).setCell (Nat.le_refl _) _⟩
  · obtain ⟨n, hn⟩ : ∃ n : Nat, x = (n : Int) := ⟨x.toNat, by omega⟩
    subst hn
    have WH := whole_ok n (by omega) _ hT0
    obtain ⟨EX, hEX⟩ : ∃ EX, EX = decide ((0 : Int) ≤ n ∧ (n : Int) ≤ 55) := ⟨_, rfl⟩
    rw [← hEX] at WH ⊢
    clear hEX
    go_enter Tryd.func11, Tryd.ntmps11
    go_wp2_with fail
    refine (W _).mono ?_
    rintro e w1 ⟨rfl, hw1⟩
    subst hw1
    go_wp2_with fail
    refine WH.mono ?_
    rintro e w2 ⟨M, E, rfl, pw, b2⟩
    have F2 : Hid (FlB w2 w.heap.size _ _ _ _) := (FlB.new w (.int .u64 0) (.int .u64 0) (.int .i64 0) (.bool false) 38).step b2
    have B2 : Hid (Below w.heap.size w w2) := ((Below.refl _ _).alloc (Nat.le_refl _) _).trans (b2.mono (by simp))
    have HP : Hid (Pw (n : Int) M E) := pw
    clear pw b2 WH W hT hT0
    obtain ⟨_, a0, a1, a2, a3, f0, f1, f2, f3⟩ := F2.out
    unfold pwV
    go_wp2
    refine bodyPost_ret (v := .tuple #[.agg #[.int .u64 (hiW M), .int .u64 (loW M), .int .i64 E, .bool EX], .nilIface]) (by simp [results, Tryd.results11, go_sem, World.cell?_setCell_same, World.cell?_setCell_other, a0, a1, a2, a3]) rfl ⟨M, E, rfl, HP.out, (((B2.out.setCell (Nat.le_refl _) _).setCell (Nat.le_refl _) _).setCell (Nat.le_refl _) _).setCell (Nat.le_refl _) _⟩
set_option maxRecDepth 100000 in
set_option maxHeartbeats 1000000 in
theorem of_no (x : Int) (h : x < -400 ∨ 400 < x) (w : World) :
    Calls Tryd.prog 11 #[.int .i64 x] w fun e w' => e = .returned (.tuple #[.agg #[.int .u64 0, .int .u64 0, .int .i64 0, .bool false], errV 1]) ∧ Below w.heap.size w w' := by
  have W := fun y => within_no x (-400) 400 h y
  go_enter Tryd.func11, Tryd.ntmps11
  go_wp2_with fail
  refine (W _).mono ?_
  rintro e w1 ⟨rfl, hw1⟩
  subst hw1
  go_wp2
  refine bodyPost_ret (v := .tuple #[.agg #[.int .u64 0, .int .u64 0, .int .i64 0, .bool false], errV 1]) (by simp [results, Tryd.results11, go_sem]; rfl) rfl ⟨rfl, (Below.refl _ _).alloc (Nat.le_refl _) _⟩

end Go.Proofs.YtohbggdkopmpfaaDoor
