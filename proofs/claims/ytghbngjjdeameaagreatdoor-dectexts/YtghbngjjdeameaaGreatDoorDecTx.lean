/-
  What the calls of dec's Text and of the document's answer, whatever text the call that tells the point answers.
-/
import Derived.Test.YtghbngjjdeameaaGreatDoorDecTm
import Derived.Test.YtghbngjjdeameaaGreatDoorDecA
import Derived.Deep.RegionHeld3
namespace Go.Proofs.YtghbngjjdeameaaGreatDoor
open Go.RowKit

/-- A number in the call's own box. -/
structure BoxD (w W : World) (s : ByteArray) (p : Int) (c : Bool) : Prop where
  sz : w.heap.size + 1 ≤ W.heap.size
  bel : Below w.heap.size w W
  a0 : W.cell? ⟨w.heap.size, 0, none⟩ = some (.string s)
  a1 : W.cell? ⟨w.heap.size, 1, none⟩ = some (.int .i64 p)
  a2 : W.cell? ⟨w.heap.size, 2, none⟩ = some (.bool c)
theorem BoxD.step {w W W' : World} {s : ByteArray} {p : Int} {c : Bool} (h : BoxD w W s p c) (hb : Below W.heap.size W W') : BoxD w W' s p c := by
  have z := h.sz
  have k : ∀ o, W'.cell? ⟨w.heap.size, o, none⟩ = W.cell? ⟨w.heap.size, o, none⟩ := fun o => hb.cell (p := ⟨w.heap.size, o, none⟩) (by show w.heap.size < W.heap.size; omega)
  exact ⟨Nat.le_trans z hb.size, h.bel.trans (hb.mono (by omega)), (k 0).trans h.a0, (k 1).trans h.a1, (k 2).trans h.a2⟩
theorem BoxD.start (w : World) (s : ByteArray) (p : Int) (c : Bool) : BoxD w (w.alloc (.cells #[.string s, .int .i64 p, .bool c] 23)) s p c :=
  ⟨by simp, (Below.refl _ _).alloc (Nat.le_refl _) _, by simp, by simp, by simp⟩

/-- The text of digits and of a point's text. -/
def tx1 (s S : ByteArray) : ByteArray := (((⟨#[48, 46]⟩ : ByteArray) ++ s) ++ (⟨#[101]⟩ : ByteArray)) ++ S
def txB (s S : ByteArray) : Bool → ByteArray
  | false => tx1 s S
  | true => tx1 s S ++ (⟨#[43]⟩ : ByteArray)

set_option maxRecDepth 100000 in
set_option maxHeartbeats 1000000 in
theorem dtext_false {s : ByteArray} {p : Int} (g : VN s p false) {S : ByteArray} (hS : S.size ≤ 1000) (w : World)
    (I : ∀ W, Below w.heap.size w W → Calls Tryz.prog 14 #[.int .i64 p] W fun x w' => x = .returned (.string S) ∧ Below W.heap.size W w') :
    Calls Tryz.prog 6 #[dcV s p false] w fun x w' => x = .returned (.string (txB s S false)) ∧ Below w.heap.size w w' := by
  have V := fun W => dvalid_yes (Or.inr g : VD s p false) W
  have p1 := g.pos
  have l1 := g.len
  have hE := empty_false p1
  have n1 : ((s.size : Int) == 0) = false := beq_eq_false_iff_ne.mpr (by omega)
  unfold txB tx1
  obtain ⟨b1, e1⟩ : ∃ a, a = (⟨#[48, 46]⟩ : ByteArray) ++ s := ⟨_, rfl⟩
  have z1 : b1.size ≤ 802 := by rw [e1, ByteArray.size_append, show (⟨#[48, 46]⟩ : ByteArray).size = 2 from rfl]; omega
  have q1 : ∀ W, (Op.stringOp .add ⟨#[48, 46]⟩ s).run Tryz.prog W = .ok (.string b1) W := fun W => by rw [e1]; exact run_string_add_sum W _ _ (by rw [show (⟨#[48, 46]⟩ : ByteArray).size = 2 from rfl]; omega)
  obtain ⟨b2, e2⟩ : ∃ a, a = b1 ++ (⟨#[101]⟩ : ByteArray) := ⟨_, rfl⟩
  have z2 : b2.size ≤ 803 := by rw [e2, ByteArray.size_append, show (⟨#[101]⟩ : ByteArray).size = 1 from rfl]; omega
  have q2 : ∀ W, (Op.stringOp .add b1 ⟨#[101]⟩).run Tryz.prog W = .ok (.string b2) W := fun W => by rw [e2]; exact run_string_add_sum W _ _ (by rw [show (⟨#[101]⟩ : ByteArray).size = 1 from rfl]; omega)
  obtain ⟨b3, e3⟩ : ∃ a, a = b2 ++ S := ⟨_, rfl⟩
  have z3 : b3.size ≤ 1803 := by rw [e3, ByteArray.size_append]; omega
  have q3 : ∀ W, (Op.stringOp .add b2 S).run Tryz.prog W = .ok (.string b3) W := fun W => by rw [e3]; exact run_string_add_sum W _ _ (by omega)
  rw [← e1, ← e2, ← e3]
  clear e1 z1 e2 z2 e3 z3 hS g
  unfold dcV at *
  go_enter Tryz.func6, Tryz.ntmps6
  go_wp2_with fail
  refine (V _).mono ?_
  rintro e w1 ⟨rfl, hb1⟩
  have HT1 : Hid (BoxD w w1 s p false) := (BoxD.start w s p false).step hb1
  clear hb1
  obtain ⟨_, _, a01, a11, a21⟩ := HT1.out
  go_wp2
  go_region_held3 (fun w' => w'.cell? ⟨w.heap.size, 0, none⟩ = some (.string s) ∧ w'.cell? ⟨w.heap.size, 1, none⟩ = some (.int .i64 p) ∧ w'.cell? ⟨w.heap.size, 2, none⟩ = some (.bool false)) (simp [*, go_sem])
    (first | (go_at_call_of 14 (Value.int .i64 p); refine (I _ (HT1.out.bel.drew)).mono ?_; rintro x w2 ⟨rfl, hb2⟩; have HT2 : Hid (BoxD w w2 s p false) := (HT1.out.step (Below.refl _ _).drew).step hb2; clear hb2; obtain ⟨_, _, a02, a12, a22⟩ := HT2.out))
  go_wp2
  go_ret
  exact ⟨rfl, HT2.out.bel⟩

set_option maxRecDepth 100000 in
set_option maxHeartbeats 1000000 in
theorem dtext_true {s : ByteArray} {p : Int} (g : VN s p true) {S : ByteArray} (hS : S.size ≤ 1000) (w : World)
    (I : ∀ W, Below w.heap.size w W → Calls Tryz.prog 14 #[.int .i64 p] W fun x w' => x = .returned (.string S) ∧ Below W.heap.size W w') :
    Calls Tryz.prog 6 #[dcV s p true] w fun x w' => x = .returned (.string (txB s S true)) ∧ Below w.heap.size w w' := by
  have V := fun W => dvalid_yes (Or.inr g : VD s p true) W
  have p1 := g.pos
  have l1 := g.len
  have hE := empty_false p1
  have n1 : ((s.size : Int) == 0) = false := beq_eq_false_iff_ne.mpr (by omega)
  unfold txB tx1
  obtain ⟨b1, e1⟩ : ∃ a, a = (⟨#[48, 46]⟩ : ByteArray) ++ s := ⟨_, rfl⟩
  have z1 : b1.size ≤ 802 := by rw [e1, ByteArray.size_append, show (⟨#[48, 46]⟩ : ByteArray).size = 2 from rfl]; omega
  have q1 : ∀ W, (Op.stringOp .add ⟨#[48, 46]⟩ s).run Tryz.prog W = .ok (.string b1) W := fun W => by rw [e1]; exact run_string_add_sum W _ _ (by rw [show (⟨#[48, 46]⟩ : ByteArray).size = 2 from rfl]; omega)
  obtain ⟨b2, e2⟩ : ∃ a, a = b1 ++ (⟨#[101]⟩ : ByteArray) := ⟨_, rfl⟩
  have z2 : b2.size ≤ 803 := by rw [e2, ByteArray.size_append, show (⟨#[101]⟩ : ByteArray).size = 1 from rfl]; omega
  have q2 : ∀ W, (Op.stringOp .add b1 ⟨#[101]⟩).run Tryz.prog W = .ok (.string b2) W := fun W => by rw [e2]; exact run_string_add_sum W _ _ (by rw [show (⟨#[101]⟩ : ByteArray).size = 1 from rfl]; omega)
  obtain ⟨b3, e3⟩ : ∃ a, a = b2 ++ S := ⟨_, rfl⟩
  have z3 : b3.size ≤ 1803 := by rw [e3, ByteArray.size_append]; omega
  have q3 : ∀ W, (Op.stringOp .add b2 S).run Tryz.prog W = .ok (.string b3) W := fun W => by rw [e3]; exact run_string_add_sum W _ _ (by omega)
  obtain ⟨b4, e4⟩ : ∃ a, a = b3 ++ (⟨#[43]⟩ : ByteArray) := ⟨_, rfl⟩
  have q4 : ∀ W, (Op.stringOp .add b3 ⟨#[43]⟩).run Tryz.prog W = .ok (.string b4) W := fun W => by rw [e4]; exact run_string_add_sum W _ _ (by rw [show (⟨#[43]⟩ : ByteArray).size = 1 from rfl]; omega)
  rw [← e1, ← e2, ← e3, ← e4]
  clear e1 z1 e2 z2 e3 z3 e4 hS g
  unfold dcV at *
  go_enter Tryz.func6, Tryz.ntmps6
  go_wp2_with fail
  refine (V _).mono ?_
  rintro e w1 ⟨rfl, hb1⟩
  have HT1 : Hid (BoxD w w1 s p true) := (BoxD.start w s p true).step hb1
  clear hb1
  obtain ⟨_, _, a01, a11, a21⟩ := HT1.out
  go_wp2
  go_region_held3 (fun w' => w'.cell? ⟨w.heap.size, 0, none⟩ = some (.string s) ∧ w'.cell? ⟨w.heap.size, 1, none⟩ = some (.int .i64 p) ∧ w'.cell? ⟨w.heap.size, 2, none⟩ = some (.bool true)) (simp [*, go_sem])
    (first | (go_at_call_of 14 (Value.int .i64 p); refine (I _ (HT1.out.bel.drew)).mono ?_; rintro x w2 ⟨rfl, hb2⟩; have HT2 : Hid (BoxD w w2 s p true) := (HT1.out.step (Below.refl _ _).drew).step hb2; clear hb2; obtain ⟨_, _, a02, a12, a22⟩ := HT2.out))
  go_wp2
  go_ret
  exact ⟨rfl, HT2.out.bel⟩

theorem dtext_of {s : ByteArray} {p : Int} {c : Bool} (g : VN s p c) {S : ByteArray} (hS : S.size ≤ 1000) (w : World)
    (I : ∀ W, Below w.heap.size w W → Calls Tryz.prog 14 #[.int .i64 p] W fun x w' => x = .returned (.string S) ∧ Below W.heap.size W w') :
    Calls Tryz.prog 6 #[dcV s p c] w fun x w' => x = .returned (.string (txB s S c)) ∧ Below w.heap.size w w' := by
  cases c
  · exact dtext_false g hS w I
  · exact dtext_true g hS w I

set_option maxRecDepth 100000 in
set_option maxHeartbeats 1000000 in
theorem dtext_zero (w : World) : Calls Tryz.prog 6 #[dcV ⟨#[]⟩ 0 false] w fun x w' => x = .returned (.string ⟨#[48]⟩) ∧ Below w.heap.size w w' := by
  have V := fun W => dvalid_yes (Or.inl ⟨rfl, rfl, rfl⟩ : VD ⟨#[]⟩ 0 false) W
  unfold dcV at *
  go_enter Tryz.func6, Tryz.ntmps6
  go_wp2_with fail
  refine (V _).mono ?_
  rintro e w1 ⟨rfl, hb1⟩
  have HT1 : Hid (BoxD w w1 ⟨#[]⟩ 0 false) := (BoxD.start w ⟨#[]⟩ 0 false).step hb1
  clear hb1
  obtain ⟨_, _, a01, a11, a21⟩ := HT1.out
  go_wp2
  go_ret
  exact ⟨rfl, HT1.out.bel⟩

set_option maxRecDepth 100000 in
set_option maxHeartbeats 1000000 in
theorem dtext_no {s : ByteArray} {p : Int} {c : Bool} (hs : s.size ≤ 9223372036854775807) (h : ¬ VD s p c) (w : World) :
    Calls Tryz.prog 6 #[dcV s p c] w fun x w' => x = .returned (.string ⟨#[]⟩) ∧ Below w.heap.size w w' := by
  have V := fun W => dvalid_no hs h W
  unfold dcV at *
  go_enter Tryz.func6, Tryz.ntmps6
  go_wp2_with fail
  refine (V _).mono ?_
  rintro e w1 ⟨rfl, hb1⟩
  have HT1 : Hid (BoxD w w1 s p c) := (BoxD.start w s p c).step hb1
  clear hb1
  go_wp2
  go_ret
  exact ⟨rfl, HT1.out.bel⟩

set_option maxRecDepth 100000 in
set_option maxHeartbeats 1000000 in
theorem rdtext_false {s : ByteArray} {p : Int} (g : VN s p false) {S : ByteArray} (hS : S.size ≤ 1000) (w : World)
    (I : ∀ W, Below w.heap.size w W → Calls Tryz.prog 16 #[.int .i64 p] W fun x w' => x = .returned (.string S) ∧ Below W.heap.size W w') :
    Calls Tryz.prog 7 #[dcV s p false] w fun x w' => x = .returned (.string (txB s S false)) ∧ Below w.heap.size w w' := by
  have V := fun W => rvald_yes (Or.inr g : VD s p false) W
  have p1 := g.pos
  have l1 := g.len
  have hE := empty_false p1
  have n1 : ((s.size : Int) == 0) = false := beq_eq_false_iff_ne.mpr (by omega)
  unfold txB tx1
  obtain ⟨b1, e1⟩ : ∃ a, a = (⟨#[48, 46]⟩ : ByteArray) ++ s := ⟨_, rfl⟩
  have z1 : b1.size ≤ 802 := by rw [e1, ByteArray.size_append, show (⟨#[48, 46]⟩ : ByteArray).size = 2 from rfl]; omega
  have q1 : ∀ W, (Op.stringOp .add ⟨#[48, 46]⟩ s).run Tryz.prog W = .ok (.string b1) W := fun W => by rw [e1]; exact run_string_add_sum W _ _ (by rw [show (⟨#[48, 46]⟩ : ByteArray).size = 2 from rfl]; omega)
  obtain ⟨b2, e2⟩ : ∃ a, a = b1 ++ (⟨#[101]⟩ : ByteArray) := ⟨_, rfl⟩
  have z2 : b2.size ≤ 803 := by rw [e2, ByteArray.size_append, show (⟨#[101]⟩ : ByteArray).size = 1 from rfl]; omega
  have q2 : ∀ W, (Op.stringOp .add b1 ⟨#[101]⟩).run Tryz.prog W = .ok (.string b2) W := fun W => by rw [e2]; exact run_string_add_sum W _ _ (by rw [show (⟨#[101]⟩ : ByteArray).size = 1 from rfl]; omega)
  obtain ⟨b3, e3⟩ : ∃ a, a = b2 ++ S := ⟨_, rfl⟩
  have z3 : b3.size ≤ 1803 := by rw [e3, ByteArray.size_append]; omega
  have q3 : ∀ W, (Op.stringOp .add b2 S).run Tryz.prog W = .ok (.string b3) W := fun W => by rw [e3]; exact run_string_add_sum W _ _ (by omega)
  rw [← e1, ← e2, ← e3]
  clear e1 z1 e2 z2 e3 z3 hS g
  unfold dcV at *
  go_enter Tryz.func7, Tryz.ntmps7
  go_wp2_with fail
  refine (V _).mono ?_
  rintro e w1 ⟨rfl, hb1⟩
  have HT1 : Hid (BoxD w w1 s p false) := (BoxD.start w s p false).step hb1
  clear hb1
  obtain ⟨_, _, a01, a11, a21⟩ := HT1.out
  go_wp2
  go_region_held3 (fun w' => w'.cell? ⟨w.heap.size, 0, none⟩ = some (.string s) ∧ w'.cell? ⟨w.heap.size, 1, none⟩ = some (.int .i64 p) ∧ w'.cell? ⟨w.heap.size, 2, none⟩ = some (.bool false)) (simp [*, go_sem])
    (first | (go_at_call_of 16 (Value.int .i64 p); refine (I _ (HT1.out.bel.drew)).mono ?_; rintro x w2 ⟨rfl, hb2⟩; have HT2 : Hid (BoxD w w2 s p false) := (HT1.out.step (Below.refl _ _).drew).step hb2; clear hb2; obtain ⟨_, _, a02, a12, a22⟩ := HT2.out))
  go_wp2
  go_ret
  exact ⟨rfl, HT2.out.bel⟩

set_option maxRecDepth 100000 in
set_option maxHeartbeats 1000000 in
theorem rdtext_true {s : ByteArray} {p : Int} (g : VN s p true) {S : ByteArray} (hS : S.size ≤ 1000) (w : World)
    (I : ∀ W, Below w.heap.size w W → Calls Tryz.prog 16 #[.int .i64 p] W fun x w' => x = .returned (.string S) ∧ Below W.heap.size W w') :
    Calls Tryz.prog 7 #[dcV s p true] w fun x w' => x = .returned (.string (txB s S true)) ∧ Below w.heap.size w w' := by
  have V := fun W => rvald_yes (Or.inr g : VD s p true) W
  have p1 := g.pos
  have l1 := g.len
  have hE := empty_false p1
  have n1 : ((s.size : Int) == 0) = false := beq_eq_false_iff_ne.mpr (by omega)
  unfold txB tx1
  obtain ⟨b1, e1⟩ : ∃ a, a = (⟨#[48, 46]⟩ : ByteArray) ++ s := ⟨_, rfl⟩
  have z1 : b1.size ≤ 802 := by rw [e1, ByteArray.size_append, show (⟨#[48, 46]⟩ : ByteArray).size = 2 from rfl]; omega
  have q1 : ∀ W, (Op.stringOp .add ⟨#[48, 46]⟩ s).run Tryz.prog W = .ok (.string b1) W := fun W => by rw [e1]; exact run_string_add_sum W _ _ (by rw [show (⟨#[48, 46]⟩ : ByteArray).size = 2 from rfl]; omega)
  obtain ⟨b2, e2⟩ : ∃ a, a = b1 ++ (⟨#[101]⟩ : ByteArray) := ⟨_, rfl⟩
  have z2 : b2.size ≤ 803 := by rw [e2, ByteArray.size_append, show (⟨#[101]⟩ : ByteArray).size = 1 from rfl]; omega
  have q2 : ∀ W, (Op.stringOp .add b1 ⟨#[101]⟩).run Tryz.prog W = .ok (.string b2) W := fun W => by rw [e2]; exact run_string_add_sum W _ _ (by rw [show (⟨#[101]⟩ : ByteArray).size = 1 from rfl]; omega)
  obtain ⟨b3, e3⟩ : ∃ a, a = b2 ++ S := ⟨_, rfl⟩
  have z3 : b3.size ≤ 1803 := by rw [e3, ByteArray.size_append]; omega
  have q3 : ∀ W, (Op.stringOp .add b2 S).run Tryz.prog W = .ok (.string b3) W := fun W => by rw [e3]; exact run_string_add_sum W _ _ (by omega)
  obtain ⟨b4, e4⟩ : ∃ a, a = b3 ++ (⟨#[43]⟩ : ByteArray) := ⟨_, rfl⟩
  have q4 : ∀ W, (Op.stringOp .add b3 ⟨#[43]⟩).run Tryz.prog W = .ok (.string b4) W := fun W => by rw [e4]; exact run_string_add_sum W _ _ (by rw [show (⟨#[43]⟩ : ByteArray).size = 1 from rfl]; omega)
  rw [← e1, ← e2, ← e3, ← e4]
  clear e1 z1 e2 z2 e3 z3 e4 hS g
  unfold dcV at *
  go_enter Tryz.func7, Tryz.ntmps7
  go_wp2_with fail
  refine (V _).mono ?_
  rintro e w1 ⟨rfl, hb1⟩
  have HT1 : Hid (BoxD w w1 s p true) := (BoxD.start w s p true).step hb1
  clear hb1
  obtain ⟨_, _, a01, a11, a21⟩ := HT1.out
  go_wp2
  go_region_held3 (fun w' => w'.cell? ⟨w.heap.size, 0, none⟩ = some (.string s) ∧ w'.cell? ⟨w.heap.size, 1, none⟩ = some (.int .i64 p) ∧ w'.cell? ⟨w.heap.size, 2, none⟩ = some (.bool true)) (simp [*, go_sem])
    (first | (go_at_call_of 16 (Value.int .i64 p); refine (I _ (HT1.out.bel.drew)).mono ?_; rintro x w2 ⟨rfl, hb2⟩; have HT2 : Hid (BoxD w w2 s p true) := (HT1.out.step (Below.refl _ _).drew).step hb2; clear hb2; obtain ⟨_, _, a02, a12, a22⟩ := HT2.out))
  go_wp2
  go_ret
  exact ⟨rfl, HT2.out.bel⟩

theorem rdtext_of {s : ByteArray} {p : Int} {c : Bool} (g : VN s p c) {S : ByteArray} (hS : S.size ≤ 1000) (w : World)
    (I : ∀ W, Below w.heap.size w W → Calls Tryz.prog 16 #[.int .i64 p] W fun x w' => x = .returned (.string S) ∧ Below W.heap.size W w') :
    Calls Tryz.prog 7 #[dcV s p c] w fun x w' => x = .returned (.string (txB s S c)) ∧ Below w.heap.size w w' := by
  cases c
  · exact rdtext_false g hS w I
  · exact rdtext_true g hS w I

set_option maxRecDepth 100000 in
set_option maxHeartbeats 1000000 in
theorem rdtext_zero (w : World) : Calls Tryz.prog 7 #[dcV ⟨#[]⟩ 0 false] w fun x w' => x = .returned (.string ⟨#[48]⟩) ∧ Below w.heap.size w w' := by
  have V := fun W => rvald_yes (Or.inl ⟨rfl, rfl, rfl⟩ : VD ⟨#[]⟩ 0 false) W
  unfold dcV at *
  go_enter Tryz.func7, Tryz.ntmps7
  go_wp2_with fail
  refine (V _).mono ?_
  rintro e w1 ⟨rfl, hb1⟩
  have HT1 : Hid (BoxD w w1 ⟨#[]⟩ 0 false) := (BoxD.start w ⟨#[]⟩ 0 false).step hb1
  clear hb1
  obtain ⟨_, _, a01, a11, a21⟩ := HT1.out
  go_wp2
  go_ret
  exact ⟨rfl, HT1.out.bel⟩

set_option maxRecDepth 100000 in
set_option maxHeartbeats 1000000 in
theorem rdtext_no {s : ByteArray} {p : Int} {c : Bool} (hs : s.size ≤ 9223372036854775807) (h : ¬ VD s p c) (w : World) :
    Calls Tryz.prog 7 #[dcV s p c] w fun x w' => x = .returned (.string ⟨#[]⟩) ∧ Below w.heap.size w w' := by
  have V := fun W => rvald_no hs h W
  unfold dcV at *
  go_enter Tryz.func7, Tryz.ntmps7
  go_wp2_with fail
  refine (V _).mono ?_
  rintro e w1 ⟨rfl, hb1⟩
  have HT1 : Hid (BoxD w w1 s p c) := (BoxD.start w s p c).step hb1
  clear hb1
  go_wp2
  go_ret
  exact ⟨rfl, HT1.out.bel⟩

end Go.Proofs.YtghbngjjdeameaaGreatDoor
