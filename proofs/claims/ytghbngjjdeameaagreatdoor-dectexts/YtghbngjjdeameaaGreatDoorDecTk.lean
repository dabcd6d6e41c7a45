/-
  What a call of dec's taken answers, for every text: the digits, the point and the mark that stand there.
-/
import Derived.Test.YtghbngjjdeameaaGreatDoorDecCt
import Derived.Test.YtghbngjjdeameaaGreatDoorDecTx
namespace Go.Proofs.YtghbngjjdeameaaGreatDoor
open Go.RowKit

/-- The table of the powers of ten lies, whatever is done from the block B on. -/
def PowB (B : Nat) (w : World) : Prop := ∀ w', Below B w w' → Pow w'
theorem PowB.step {w w' : World} (h : PowB w.heap.size w) (hb : Below w.heap.size w w') : PowB w'.heap.size w' := fun W b => h W (hb.trans (b.mono hb.size))
theorem below_grow (w : World) (k : Nat) (os : Array Obj) : Below w.heap.size w (Sort.grow (w.drewN k) os) :=
  ⟨rfl, rfl, rfl, by simp [Sort.grow, World.drewN], fun i hi => by
    show (w.heap ++ os)[i]? = w.heap[i]?
    exact Array.getElem?_append_left hi⟩
theorem below_bytes (w : World) (t : ByteArray) : Below w.heap.size w (Lib.bytesWorld w 5 t) := by
  exact Lib.bytesWorld_below _ _ _
def itB (n : Int) : ByteArray := ⟨(Lib.itoa n).toArray⟩
theorem itB_size {n : Int} (h0 : -9223372036854775808 ≤ n) (h1 : n ≤ 9223372036854775807) : (itB n).size ≤ 1000 := by
  have := Lib.itoa_length_le n h0 h1
  show (Lib.itoa n).toArray.size ≤ 1000
  rw [List.size_toArray]
  omega
theorem itoa_full {n : Int} (h0 : -9223372036854775808 ≤ n) (h1 : n ≤ 9223372036854775807) (W : World) (h : Pow W) : Calls Tryz.prog 14 #[.int .i64 n] W fun x w' => x = .returned (.string (itB n)) ∧ Below W.heap.size W w' := by
  refine (itoa_any n h0 h1 W h).mono ?_
  rintro e w1 ⟨rfl, k, os, rfl⟩
  exact ⟨rfl, below_grow W k os⟩

/-- Atoi's variables, whatever is done from the heap's end on. -/
theorem AtoiV.step {w w' : World} (h : AtoiV w) (hg : 2 < w.heap.size ∧ 3 < w.heap.size) (hb : Below w.heap.size w w') : AtoiV w' := by
  obtain ⟨a, ca, da⟩ := h.s
  obtain ⟨b, cb, db⟩ := h.r
  exact ⟨⟨a, (hb.cell (p := ⟨_, 0, none⟩) hg.1).trans ca, da⟩, ⟨b, (hb.cell (p := ⟨_, 0, none⟩) hg.2).trans cb, db⟩⟩
theorem AtoiV.lt {w : World} (h : AtoiV w) : 2 < w.heap.size ∧ 3 < w.heap.size := by
  obtain ⟨a, ca, _⟩ := h.s
  obtain ⟨b, cb, _⟩ := h.r
  exact ⟨World.block_lt_of_cell? w ⟨2, 0, none⟩ ca, World.block_lt_of_cell? w ⟨3, 0, none⟩ cb⟩

/-- What is taken out of a text, as a number. -/
def tkS (s : ByteArray) : ByteArray := match Lib.atoiAll (tkE s.data.toList) with | .ok _ => ⟨(tkD s.data.toList).toArray⟩ | _ => ⟨#[]⟩
def tkN (s : ByteArray) : Int := match Lib.atoiAll (tkE s.data.toList) with | .ok v => v | _ => 0
def tkB (s : ByteArray) : Bool := match Lib.atoiAll (tkE s.data.toList) with | .ok _ => tkC s.data.toList | _ => false

set_option maxRecDepth 100000 in
set_option maxHeartbeats 1000000 in
theorem taken_of {s t1 t2 t3 t4 : ByteArray} {b1 b2 b3 : Bool} {v : Int} (w : World)
    (C1 : ∀ W, Calls Tryz.prog 20 #[.string s, .string ⟨#[48, 46]⟩] W fun e w' => e = .returned (.tuple #[.string t1, .bool b1]) ∧ w' = W)
    (C2 : ∀ W, Calls Tryz.prog 21 #[.string t1, .string ⟨#[43]⟩] W fun e w' => e = .returned (.tuple #[.string t2, .bool b2]) ∧ w' = W)
    (C3 : ∀ W, Calls Tryz.prog 22 #[.string t2, .string ⟨#[101]⟩] W fun e w' => e = .returned (.tuple #[.string t3, .string t4, .bool b3]) ∧ ∃ n, w' = W.drewN n)
    (C4 : ∀ W, Calls Tryz.prog 23 #[.string t4] W fun e w' => e = .returned (.tuple #[.int .i64 v, .nilIface]) ∧ Below W.heap.size W w') :
    Calls Tryz.prog 10 #[.string s] w fun e w' => e = .returned (dcV t3 v b2) ∧ Below w.heap.size w w' := by
  unfold dcV
  go_enter Tryz.func10, Tryz.ntmps10
  go_wp2_with fail
  refine (C1 _).mono ?_
  rintro e w1 ⟨rfl, rfl⟩
  go_wp2_with fail
  refine (C2 _).mono ?_
  rintro e w1 ⟨rfl, rfl⟩
  go_wp2_with fail
  refine (C3 _).mono ?_
  rintro e w1 ⟨rfl, k, rfl⟩
  go_wp2_with fail
  have HB : Hid (BoxD w ((w.alloc (.cells #[.string ⟨#[]⟩, .int .i64 0, .bool false] 23)).drewN k) ⟨#[]⟩ 0 false) := (BoxD.start w ⟨#[]⟩ 0 false).step ⟨rfl, rfl, rfl, by simp [World.drewN], fun i hi => rfl⟩
  have HF : Hid (∀ o, ((w.alloc (.cells #[.string ⟨#[]⟩, .int .i64 0, .bool false] 23)).drewN k).frozen? ⟨w.heap.size, o, none⟩ = false) := fun o => World.frozen?_alloc_new _ _ _ _
  refine (C4 _).mono ?_
  rintro e w2 ⟨rfl, hb⟩
  have HT : Hid (BoxD w w2 ⟨#[]⟩ 0 false) := HB.out.step hb
  have fr : ∀ o, w2.frozen? ⟨w.heap.size, o, none⟩ = false := fun o => (hb.frozen (p := ⟨w.heap.size, o, none⟩) (by have := HB.out.sz; exact this)).trans (HF.out o)
  clear hb
  obtain ⟨_, _, a01, a11, a21⟩ := HT.out
  go_wp2
  refine bodyPost_ret (v := .agg #[.string t3, .int .i64 v, .bool b2]) (by simp [results, Tryz.results10, go_sem, *]) rfl ⟨rfl, ?_⟩
  exact (((HT.out.bel.setCell (by simp) _).setCell (by simp) _).setCell (by simp) _)

set_option maxRecDepth 100000 in
set_option maxHeartbeats 1000000 in
theorem taken_no {s t1 t2 t3 t4 : ByteArray} {b1 b2 b3 : Bool} (w : World) (hA : AtoiV w)
    (C1 : ∀ W, Calls Tryz.prog 20 #[.string s, .string ⟨#[48, 46]⟩] W fun e w' => e = .returned (.tuple #[.string t1, .bool b1]) ∧ w' = W)
    (C2 : ∀ W, Calls Tryz.prog 21 #[.string t1, .string ⟨#[43]⟩] W fun e w' => e = .returned (.tuple #[.string t2, .bool b2]) ∧ w' = W)
    (C3 : ∀ W, Calls Tryz.prog 22 #[.string t2, .string ⟨#[101]⟩] W fun e w' => e = .returned (.tuple #[.string t3, .string t4, .bool b3]) ∧ ∃ n, w' = W.drewN n)
    (C4 : ∀ W, AtoiV W → Calls Tryz.prog 23 #[.string t4] W fun e w' => ∃ n te a, e = .returned (.tuple #[.int .i64 n, .iface te (.pointer (some a))]) ∧ Below W.heap.size W w') :
    Calls Tryz.prog 10 #[.string s] w fun e w' => e = .returned (dcV ⟨#[]⟩ 0 false) ∧ Below w.heap.size w w' := by
  unfold dcV
  have HA : Hid (AtoiV w) := hA
  clear hA
  go_enter Tryz.func10, Tryz.ntmps10
  go_wp2_with fail
  refine (C1 _).mono ?_
  rintro e w1 ⟨rfl, rfl⟩
  go_wp2_with fail
  refine (C2 _).mono ?_
  rintro e w1 ⟨rfl, rfl⟩
  go_wp2_with fail
  refine (C3 _).mono ?_
  rintro e w1 ⟨rfl, k, rfl⟩
  go_wp2_with fail
  have HB : Hid (BoxD w ((w.alloc (.cells #[.string ⟨#[]⟩, .int .i64 0, .bool false] 23)).drewN k) ⟨#[]⟩ 0 false) := (BoxD.start w ⟨#[]⟩ 0 false).step ⟨rfl, rfl, rfl, by simp [World.drewN], fun i hi => rfl⟩
  have HF : Hid (∀ o, ((w.alloc (.cells #[.string ⟨#[]⟩, .int .i64 0, .bool false] 23)).drewN k).frozen? ⟨w.heap.size, o, none⟩ = false) := fun o => World.frozen?_alloc_new _ _ _ _
  refine (C4 _ (HA.out.step HA.out.lt HB.out.bel)).mono ?_
  rintro e w2 ⟨n, te, a, rfl, hb⟩
  have HT : Hid (BoxD w w2 ⟨#[]⟩ 0 false) := HB.out.step hb
  have fr : ∀ o, w2.frozen? ⟨w.heap.size, o, none⟩ = false := fun o => (hb.frozen (p := ⟨w.heap.size, o, none⟩) (by have := HB.out.sz; exact this)).trans (HF.out o)
  clear hb
  obtain ⟨_, _, a01, a11, a21⟩ := HT.out
  go_wp2
  refine bodyPost_ret (v := .agg #[.string ⟨#[]⟩, .int .i64 0, .bool false]) (by simp [results, Tryz.results10, go_sem, *]) rfl ⟨rfl, ?_⟩
  exact (((HT.out.bel.setCell (by simp) _).setCell (by simp) _).setCell (by simp) _)

theorem taken_any (s : ByteArray) (hs : s.size ≤ 140737488355328) (w : World) (hA : AtoiV w) :
    Calls Tryz.prog 10 #[.string s] w fun e w' => e = .returned (dcV (tkS s) (tkN s) (tkB s)) ∧ Below w.heap.size w w' := by
  have sl : s.data.toList.length = s.size := by rw [Array.length_toList]; rfl
  have n1 := tkP_len s.data.toList
  have n2 := tkR_len s.data.toList
  have n3 := tkE_len s.data.toList
  have C1 : ∀ W, Calls Tryz.prog 20 #[.string s, .string ⟨#[48, 46]⟩] W fun e w' => e = .returned (.tuple #[.string ⟨(tkP s.data.toList).toArray⟩, .bool (Lib.hasPrefix s.data.toList [48, 46])]) ∧ w' = W := fun W => cutPrefix_any s ⟨#[48, 46]⟩ W
  have C2 : ∀ W, Calls Tryz.prog 21 #[.string ⟨(tkP s.data.toList).toArray⟩, .string ⟨#[43]⟩] W fun e w' => e = .returned (.tuple #[.string ⟨(tkR s.data.toList).toArray⟩, .bool (tkC s.data.toList)]) ∧ w' = W := fun W => cutSuffix_any ⟨(tkP s.data.toList).toArray⟩ ⟨#[43]⟩ W (by show (tkP s.data.toList).toArray.size ≤ _; rw [List.size_toArray]; omega)
  have C3 : ∀ W, Calls Tryz.prog 22 #[.string ⟨(tkR s.data.toList).toArray⟩, .string ⟨#[101]⟩] W fun e w' => e = .returned (.tuple #[.string ⟨(tkD s.data.toList).toArray⟩, .string ⟨(tkE s.data.toList).toArray⟩, .bool (Lib.cut (tkR s.data.toList) [101]).2.2]) ∧ ∃ n, w' = W.drewN n := fun W => cutE ⟨(tkR s.data.toList).toArray⟩ (by show (tkR s.data.toList).toArray.size ≤ _; rw [List.size_toArray]; omega) W
  have ez : (⟨(tkE s.data.toList).toArray⟩ : ByteArray).size ≤ 140737488355328 := by show (tkE s.data.toList).toArray.size ≤ _; rw [List.size_toArray]; omega
  unfold tkS tkN tkB
  have no : (∀ v, Lib.atoiAll (tkE s.data.toList) ≠ .ok v) → Calls Tryz.prog 10 #[.string s] w fun e w' => e = .returned (dcV ⟨#[]⟩ 0 false) ∧ Below w.heap.size w w' := fun h =>
    taken_no w hA C1 C2 C3 (fun W hW => (atoi_no ⟨(tkE s.data.toList).toArray⟩ (by omega) h W hW).mono (by rintro e w' ⟨n, a, he, hb⟩; exact ⟨n, _, a, he, hb⟩))
  cases q : Lib.atoiAll (tkE s.data.toList) with
  | ok v =>
    exact taken_of w C1 C2 C3 (fun W => (atoi_yes ⟨(tkE s.data.toList).toArray⟩ (by omega) v q W).mono (by
      rintro e w' ⟨he, rfl | ⟨t, rfl⟩⟩
      · exact ⟨he, Below.refl _ _⟩
      · exact ⟨he, below_bytes _ _⟩))
  | «syntax» => exact no (fun v h => by rw [q] at h; cases h)
  | range => exact no (fun v h => by rw [q] at h; cases h)

end Go.Proofs.YtghbngjjdeameaaGreatDoor
