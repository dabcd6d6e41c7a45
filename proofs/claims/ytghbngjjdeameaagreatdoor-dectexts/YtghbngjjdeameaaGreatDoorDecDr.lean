/-
  What a call of dec's Read answers, for every text: the number that is told so, or ErrSyntax.
-/
import Derived.Test.YtghbngjjdeameaaGreatDoorDecTk
import Derived.Test.YtghbngjjdeameaaGreatDoorDecT
namespace Go.Proofs.YtghbngjjdeameaaGreatDoor
open Go.RowKit

/-- The text of a number that may be. -/
def TXL (s : ByteArray) (p : Int) (c : Bool) : List UInt8 := if s.size = 0 then [48] else txL s.data.toList p c
def TXB (s : ByteArray) (p : Int) (c : Bool) : ByteArray := if s.size = 0 then ⟨#[48]⟩ else txB s (itB p) c
theorem txB_list (s : ByteArray) (p : Int) (c : Bool) : (txB s (itB p) c).data.toList = txL s.data.toList p c := by
  cases c
  · simp [txB, tx1, txL, itB]
  · simp [txB, tx1, txL, itB]
theorem TXB_list (s : ByteArray) (p : Int) (c : Bool) : (TXB s p c).data.toList = TXL s p c := by
  unfold TXB TXL
  split
  · rfl
  · exact txB_list s p c
theorem dg_list {s : ByteArray} (h : DG s) : ∀ b ∈ s.data.toList, 48 ≤ b.toNat ∧ b.toNat ≤ 57 := by
  intro b hb
  obtain ⟨i, hi, rfl⟩ := List.getElem_of_mem hb
  have hi' : i < s.size := by rw [Array.length_toList] at hi; exact hi
  have := h i hi'
  rw [Array.getElem_toList]
  exact this
theorem ba_list {a b : ByteArray} (h : a.data.toList = b.data.toList) : a = b := by
  cases a; cases b
  simp only [ByteArray.mk.injEq]
  exact Array.toList_inj.1 h
theorem tk_tx {s d : ByteArray} {p : Int} {c : Bool} (h : VN d p c) (e : s.data.toList = txL d.data.toList p c) : tkS s = d ∧ tkN s = p ∧ tkB s = c := by
  have hd := dg_list h.dg
  unfold tkS tkN tkB
  rw [e, tkE_tx hd, atoi_itoa h.lo h.hi]
  simp only []
  rw [tkD_tx hd, tkC_tx]
  simp only [and_self]
theorem txL_ne (s : List UInt8) (p : Int) (c : Bool) : txL s p c ≠ [48] := by
  unfold txL
  simp

theorem dtext_vd {s : ByteArray} {p : Int} {c : Bool} (h : VD s p c) (w : World) (hP : PowB w.heap.size w) :
    Calls Tryz.prog 6 #[dcV s p c] w fun x w' => x = .returned (.string (TXB s p c)) ∧ Below w.heap.size w w' := by
  unfold TXB
  rcases h with ⟨z, rfl, rfl⟩ | g
  · obtain rfl := size_zero z
    rw [if_pos z]
    exact dtext_zero w
  · have := g.pos
    rw [if_neg (by omega)]
    have h0 := g.lo
    have h1 := g.hi
    exact dtext_of g (itB_size (by omega) (by omega)) w (fun W b => itoa_full (by omega) (by omega) W (hP W b))

set_option maxRecDepth 100000 in
set_option maxHeartbeats 1000000 in
theorem dread_zero {s : ByteArray} (h0 : (s.toList == [48]) = true) (w : World) :
    Calls Tryz.prog 4 #[.string s] w fun e w' => e = .returned (.tuple #[dcV ⟨#[]⟩ 0 false, .nilIface]) ∧ Below w.heap.size w w' := by
  unfold dcV
  go_enter Tryz.func4, Tryz.ntmps4
  go_wp2
  refine bodyPost_ret (v := .tuple #[.agg #[.string ⟨#[]⟩, .int .i64 0, .bool false], .nilIface]) (by simp [results, Tryz.results4, go_sem]) rfl ⟨rfl, ?_⟩
  exact (Below.refl w.heap.size w).alloc (Nat.le_refl _) _

set_option maxRecDepth 100000 in
set_option maxHeartbeats 1000000 in
theorem dread_ne {s s2 T : ByteArray} {p : Int} {c : Bool} (h0 : (s.toList == [48]) = false) (he : (T.toList == s.toList) = false) (w : World) (hA : AtoiV w) (hP : PowB w.heap.size w)
    (K : ∀ W, AtoiV W → Calls Tryz.prog 10 #[.string s] W fun e w' => e = .returned (dcV s2 p c) ∧ Below W.heap.size W w')
    (X : ∀ W, PowB W.heap.size W → Calls Tryz.prog 6 #[dcV s2 p c] W fun x w' => x = .returned (.string T) ∧ Below W.heap.size W w') :
    Calls Tryz.prog 4 #[.string s] w fun e w' => e = .returned (.tuple #[dcV ⟨#[]⟩ 0 false, .iface 35 (.int .i64 3)]) ∧ Below w.heap.size w w' := by
  unfold dcV at *
  have HA : Hid (AtoiV w) := hA
  have HP : Hid (PowB w.heap.size w) := hP
  clear hA hP
  go_enter Tryz.func4, Tryz.ntmps4
  go_wp2_with fail
  have HB : Hid (BoxD w (w.alloc (.cells #[.string ⟨#[]⟩, .int .i64 0, .bool false] 23)) ⟨#[]⟩ 0 false) := BoxD.start w ⟨#[]⟩ 0 false
  have HF : Hid (∀ o, (w.alloc (.cells #[.string ⟨#[]⟩, .int .i64 0, .bool false] 23)).frozen? ⟨w.heap.size, o, none⟩ = false) := fun o => World.frozen?_alloc_new _ _ _ _
  refine (K _ (HA.out.step HA.out.lt HB.out.bel)).mono ?_
  rintro e w1 ⟨rfl, hb⟩
  have HT : Hid (BoxD w w1 ⟨#[]⟩ 0 false) := HB.out.step hb
  have HG : Hid (∀ o, w1.frozen? ⟨w.heap.size, o, none⟩ = false) := fun o => (hb.frozen (p := ⟨w.heap.size, o, none⟩) (by have := HB.out.sz; exact this)).trans (HF.out o)
  clear hb
  go_wp2_with fail
  have HA1 : Hid (Below w1.heap.size w1 (w1.alloc (.cells #[.string s2, .int .i64 p, .bool c] 23))) := (Below.refl _ _).alloc (Nat.le_refl _) _
  have HT1 : Hid (BoxD w (w1.alloc (.cells #[.string s2, .int .i64 p, .bool c] 23)) ⟨#[]⟩ 0 false) := HT.out.step HA1.out
  have HD1 : Hid (BoxD w1 (w1.alloc (.cells #[.string s2, .int .i64 p, .bool c] 23)) s2 p c) := BoxD.start w1 s2 p c
  refine (X _ (HP.out.step HT1.out.bel)).mono ?_
  rintro e w2 ⟨rfl, hb⟩
  have z1 := HT.out.sz
  have z2 := HD1.out.sz
  have HT2 : Hid (BoxD w w2 ⟨#[]⟩ 0 false) := HT1.out.step hb
  have HD2 : Hid (BoxD w1 w2 s2 p c) := HD1.out.step hb
  have fr : ∀ o, w2.frozen? ⟨w.heap.size, o, none⟩ = false := fun o => ((hb.frozen (p := ⟨w.heap.size, o, none⟩) (by show w.heap.size < _; omega)).trans (HA1.out.frozen (p := ⟨w.heap.size, o, none⟩) (by show w.heap.size < _; omega))).trans (HG.out o)
  have fd : ∀ o, w2.frozen? ⟨w1.heap.size, o, none⟩ = false := fun o => (hb.frozen (p := ⟨w1.heap.size, o, none⟩) (by show w1.heap.size < _; omega)).trans (World.frozen?_alloc_new _ _ _ _)
  have nb : w1.heap.size ≠ w.heap.size := by omega
  have nb' : w.heap.size ≠ w1.heap.size := by omega
  have HZ : Hid (w.heap.size ≤ w1.heap.size) := by show w.heap.size ≤ w1.heap.size; omega
  clear hb z1 z2
  obtain ⟨_, _, a0, a1, a2⟩ := HT2.out
  obtain ⟨_, _, d0, d1, d2⟩ := HD2.out
  go_wp2
  refine bodyPost_ret (v := .tuple #[.agg #[.string ⟨#[]⟩, .int .i64 0, .bool false], .iface 35 (.int .i64 3)]) (by simp [results, Tryz.results4, go_sem, *]) rfl ⟨rfl, ?_⟩
  exact (((HT2.out.bel.setCell (Nat.le_refl _) _).setCell (Nat.le_refl _) _).setCell (Nat.le_refl _) _)

set_option maxRecDepth 100000 in
set_option maxHeartbeats 1000000 in
theorem dread_eq {s s2 T : ByteArray} {p : Int} {c : Bool} (h0 : (s.toList == [48]) = false) (he : (T.toList == s.toList) = true) (hl : s2.size ≤ 140737488355328) (w : World) (hA : AtoiV w) (hP : PowB w.heap.size w)
    (K : ∀ W, AtoiV W → Calls Tryz.prog 10 #[.string s] W fun e w' => e = .returned (dcV s2 p c) ∧ Below W.heap.size W w')
    (X : ∀ W, PowB W.heap.size W → Calls Tryz.prog 6 #[dcV s2 p c] W fun x w' => x = .returned (.string T) ∧ Below W.heap.size W w') :
    Calls Tryz.prog 4 #[.string s] w fun e w' => e = .returned (.tuple #[dcV s2 p c, .nilIface]) ∧ Below w.heap.size w w' := by
  have CL := fun W => clone_any s2 hl W
  clear hl
  unfold dcV at *
  have HA : Hid (AtoiV w) := hA
  have HP : Hid (PowB w.heap.size w) := hP
  clear hA hP
  go_enter Tryz.func4, Tryz.ntmps4
  go_wp2_with fail
  have HB : Hid (BoxD w (w.alloc (.cells #[.string ⟨#[]⟩, .int .i64 0, .bool false] 23)) ⟨#[]⟩ 0 false) := BoxD.start w ⟨#[]⟩ 0 false
  have HF : Hid (∀ o, (w.alloc (.cells #[.string ⟨#[]⟩, .int .i64 0, .bool false] 23)).frozen? ⟨w.heap.size, o, none⟩ = false) := fun o => World.frozen?_alloc_new _ _ _ _
  refine (K _ (HA.out.step HA.out.lt HB.out.bel)).mono ?_
  rintro e w1 ⟨rfl, hb⟩
  have HT : Hid (BoxD w w1 ⟨#[]⟩ 0 false) := HB.out.step hb
  have HG : Hid (∀ o, w1.frozen? ⟨w.heap.size, o, none⟩ = false) := fun o => (hb.frozen (p := ⟨w.heap.size, o, none⟩) (by have := HB.out.sz; exact this)).trans (HF.out o)
  clear hb
  go_wp2_with fail
  have HA1 : Hid (Below w1.heap.size w1 (w1.alloc (.cells #[.string s2, .int .i64 p, .bool c] 23))) := (Below.refl _ _).alloc (Nat.le_refl _) _
  have HT1 : Hid (BoxD w (w1.alloc (.cells #[.string s2, .int .i64 p, .bool c] 23)) ⟨#[]⟩ 0 false) := HT.out.step HA1.out
  have HD1 : Hid (BoxD w1 (w1.alloc (.cells #[.string s2, .int .i64 p, .bool c] 23)) s2 p c) := BoxD.start w1 s2 p c
  refine (X _ (HP.out.step HT1.out.bel)).mono ?_
  rintro e w2 ⟨rfl, hb⟩
  have z1 := HT.out.sz
  have z2 := HD1.out.sz
  have HT2 : Hid (BoxD w w2 ⟨#[]⟩ 0 false) := HT1.out.step hb
  have HD2 : Hid (BoxD w1 w2 s2 p c) := HD1.out.step hb
  have fr : ∀ o, w2.frozen? ⟨w.heap.size, o, none⟩ = false := fun o => ((hb.frozen (p := ⟨w.heap.size, o, none⟩) (by show w.heap.size < _; omega)).trans (HA1.out.frozen (p := ⟨w.heap.size, o, none⟩) (by show w.heap.size < _; omega))).trans (HG.out o)
  have fd : ∀ o, w2.frozen? ⟨w1.heap.size, o, none⟩ = false := fun o => (hb.frozen (p := ⟨w1.heap.size, o, none⟩) (by show w1.heap.size < _; omega)).trans (World.frozen?_alloc_new _ _ _ _)
  have nb : w1.heap.size ≠ w.heap.size := by omega
  have nb' : w.heap.size ≠ w1.heap.size := by omega
  have HZ : Hid (w.heap.size ≤ w1.heap.size) := by show w.heap.size ≤ w1.heap.size; omega
  clear hb z1 z2
  obtain ⟨_, _, a0, a1, a2⟩ := HT2.out
  obtain ⟨_, _, d0, d1, d2⟩ := HD2.out
  have HFR : Hid (∀ o, w2.frozen? ⟨w.heap.size, o, none⟩ = false) := fr
  have HFD : Hid (∀ o, w2.frozen? ⟨w1.heap.size, o, none⟩ = false) := fd
  have HZ2 : Hid (w1.heap.size < w2.heap.size ∧ w.heap.size < w2.heap.size) := ⟨HD2.out.sz, HT2.out.sz⟩
  go_wp2_with fail
  refine (CL _).mono ?_
  rintro e w3 ⟨rfl, hb⟩
  have HT3 : Hid (BoxD w w3 ⟨#[]⟩ 0 false) := HT2.out.step hb
  have HD3 : Hid (BoxD w1 w3 s2 p c) := HD2.out.step hb
  have fr3 : ∀ o, w3.frozen? ⟨w.heap.size, o, none⟩ = false := fun o => (hb.frozen (p := ⟨w.heap.size, o, none⟩) HZ2.out.2).trans (HFR.out o)
  have fd3 : ∀ o, w3.frozen? ⟨w1.heap.size, o, none⟩ = false := fun o => (hb.frozen (p := ⟨w1.heap.size, o, none⟩) HZ2.out.1).trans (HFD.out o)
  clear hb fr fd a0 a1 a2 d0 d1 d2
  obtain ⟨_, _, a0, a1, a2⟩ := HT3.out
  obtain ⟨_, _, d0, d1, d2⟩ := HD3.out
  go_wp2
  refine bodyPost_ret (v := .tuple #[.agg #[.string s2, .int .i64 p, .bool c], .nilIface]) (by simp [results, Tryz.results4, go_sem, *]) rfl ⟨rfl, ?_⟩
  exact ((((HT3.out.bel.setCell (show w.heap.size ≤ w1.heap.size from HZ.out) _).setCell (Nat.le_refl _) _).setCell (Nat.le_refl _) _).setCell (Nat.le_refl _) _)

theorem list_eq {a b : ByteArray} (h : a.data.toList = b.data.toList) : (a.toList == b.toList) = true := by
  rw [list_data, list_data, h]
  exact beq_self_eq_true _
theorem list_ne {a b : ByteArray} (h : a.data.toList ≠ b.data.toList) : (a.toList == b.toList) = false := by
  rw [list_data, list_data]
  exact beq_eq_false_iff_ne.mpr h
theorem list_is {a b : ByteArray} (h : (a.toList == b.toList) = true) : a.data.toList = b.data.toList := by
  rw [list_data, list_data] at h
  exact beq_iff_eq.mp h

theorem VD.small {s : ByteArray} {p : Int} {c : Bool} (h : VD s p c) : s.size ≤ 800 := by
  rcases h with ⟨z, _, _⟩ | g
  · omega
  · exact g.len

/-- A number's text is read as the number. -/
theorem dread_yes {s d : ByteArray} {p : Int} {c : Bool} (hs : s.size ≤ 140737488355328) (h : VD d p c) (e : s.data.toList = TXL d p c) (w : World) (hA : AtoiV w) (hP : PowB w.heap.size w) :
    Calls Tryz.prog 4 #[.string s] w fun e w' => e = .returned (.tuple #[dcV d p c, .nilIface]) ∧ Below w.heap.size w w' := by
  rcases h with ⟨z, rfl, rfl⟩ | g
  · obtain rfl := size_zero z
    refine dread_zero ?_ w
    rw [list_data, e]
    rfl
  · have hp := g.pos
    have e' : s.data.toList = txL d.data.toList p c := by rw [e, TXL, if_neg (by omega)]
    obtain ⟨k1, k2, k3⟩ := tk_tx g e'
    have K := fun W hW => taken_any s hs W hW
    rw [k1, k2, k3] at K
    refine dread_eq (T := TXB d p c) ?_ ?_ (by have := g.len; omega) w hA hP K (fun W hW => dtext_vd (Or.inr g) W hW)
    · rw [list_data, e']
      exact beq_eq_false_iff_ne.mpr (txL_ne _ _ _)
    · exact list_eq (by rw [TXB_list, e])

/-- What is no number's text is not read. -/
theorem dread_no {s : ByteArray} (hs : s.size ≤ 140737488355328) (h : ∀ d p c, VD d p c → s.data.toList ≠ TXL d p c) (w : World) (hA : AtoiV w) (hP : PowB w.heap.size w) :
    Calls Tryz.prog 4 #[.string s] w fun e w' => e = .returned (.tuple #[dcV ⟨#[]⟩ 0 false, .iface 35 (.int .i64 3)]) ∧ Below w.heap.size w w' := by
  have K := fun W hW => taken_any s hs W hW
  have h0 : (s.toList == [48]) = false := by
    rw [list_data]
    exact beq_eq_false_iff_ne.mpr (h ⟨#[]⟩ 0 false (Or.inl ⟨rfl, rfl, rfl⟩))
  by_cases v : VD (tkS s) (tkN s) (tkB s)
  · exact dread_ne h0 (list_ne (fun q => h _ _ _ v (by rw [← q, TXB_list]))) w hA hP K (fun W hW => dtext_vd v W hW)
  · have sz : (tkS s).size ≤ 9223372036854775807 := by
      have sl : s.data.toList.length = s.size := by rw [Array.length_toList]; rfl
      have n := tkD_len s.data.toList
      unfold tkS
      split
      · show (tkD s.data.toList).toArray.size ≤ _
        rw [List.size_toArray]
        omega
      · exact Nat.zero_le _
    refine dread_ne (T := ⟨#[]⟩) h0 (list_ne (fun q => ?_)) w hA hP K (fun W _ => dtext_no sz v W)
    apply v
    have e : s.data.toList = [] := q.symm
    have k : tkS s = ⟨#[]⟩ ∧ tkN s = 0 ∧ tkB s = false := by
      unfold tkS tkN tkB
      rw [e]
      exact ⟨rfl, rfl, rfl⟩
    rw [k.1, k.2.1, k.2.2]
    exact Or.inl ⟨rfl, rfl, rfl⟩

end Go.Proofs.YtghbngjjdeameaaGreatDoor
