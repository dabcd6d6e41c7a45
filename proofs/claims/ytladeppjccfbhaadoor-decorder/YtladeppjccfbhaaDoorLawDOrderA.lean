/-
  The statement DecOrder, where the middle part of it is passed by.
-/
import Derived.Test.YtladeppjccfbhaaDoorDecOf
import Derived.Test.YtladeppjccfbhaaDoorDecDr
import Derived.Test.YtladeppjccfbhaaDoorDecBx
import Derived.Test.YtladeppjccfbhaaDoorDecU
namespace Go.Proofs.YtladeppjccfbhaaDoor
open Go.RowKit

/-- The count of digits that the law asks for. -/
theorem forty (x : Int) : ∃ u n : Nat, IntKind.u64.wrap x = (u : Int) ∧ (u : Int) % 40 = (n : Int) ∧ n < 40 := by
  obtain ⟨u, hu⟩ : ∃ u : Nat, IntKind.u64.wrap x = (u : Int) := ⟨(IntKind.u64.wrap x).toNat, by rw [IntKind.wrap_u64]; omega⟩
  exact ⟨u, u % 40, hu, by omega, by omega⟩

theorem TXB_size {s : ByteArray} {p : Int} {c : Bool} (h : VD s p c) : (TXB s p c).size ≤ 140737488355328 := by
  have sl : ∀ a : ByteArray, a.data.toList.length = a.size := fun a => by rw [Array.length_toList]; rfl
  have e := congrArg List.length (TXB_list s p c)
  rw [sl] at e
  rw [e]
  unfold TXL
  split
  · decide
  · have g : VN s p c := h.resolve_left (fun z => by have := z.1; omega)
    have i := Lib.itoa_length_le p (by have := g.lo; omega) (by have := g.hi; omega)
    have l := g.len
    unfold txL
    simp only [List.length_cons, List.length_append, sl]
    cases c
    · simp; omega
    · simp; omega

set_option maxHeartbeats 4000000 in
set_option maxRecDepth 100000 in
theorem order_off {s : ByteArray} {p : Int} (h : VD s p false) (hl : s.size ≤ 700) (hp0 : -1000 ≤ p) (hp1 : p ≤ 1000) {x : Int} {u n : Nat} (e1 : IntKind.u64.wrap x = (u : Int)) (e2 : (u : Int) % 40 = (n : Int))
    (O : Ord s p n s p s p s p 0 0) (w : World) (hA : AtoiV w) (hP : PowB w.heap.size w) :
    Calls Tryd.prog 6 #[dcV s p false, .int .i64 x] w fun e w' => e = .returned (.bool true) ∧ Below w.heap.size w w' := by
  obtain ⟨DN, UP, RN, CA, CB, L1, L2⟩ := O
  obtain ⟨s2, p2, DB, HV⟩ := half_twice h hl hp0 hp1
  have VV := fun W => dvalid_yes h W
  have TX := fun W hW => dtext_vd h W hW
  have tz : (TXB s p false).size ≤ 140737488355328 := TXB_size h
  have RD := fun W a b => dread_yes tz h (TXB_list s p false) W a b
  have FS := fun W => sure_any W
  generalize TXB s p false = T at *
  have HA : Hid (AtoiV w) := hA
  have HP : Hid (PowB w.heap.size w) := hP
  have c1 : ¬ (700 : Int) < (s.size : Int) := by omega
  have c2 : ¬ p < -1000 := by omega
  have c3 : ¬ 1000 < p := by omega
  have ew : IntKind.i64.wrap (n : Int) = (n : Int) := by unfold IntKind.wrap; simp [IntKind.bits, IntKind.signed]; omega
  have ss : (s.toList == s.toList) = true := beq_self_eq_true _
  clear hA hP h hl hp0 hp1 tz
  unfold dcV at *
  have X0 : Hid (BoxAt (w.alloc (.cells #[.string s, .int .i64 p, .bool false] 23)) w.heap.size s p false) := BoxAt.new w s p false
  have B0 : Hid (Below w.heap.size w (w.alloc (.cells #[.string s, .int .i64 p, .bool false] 23))) := (Below.refl _ _).alloc (Nat.le_refl _) _
  go_enter Tryd.func6, Tryd.ntmps6
  go_wp2_with fail
  refine (VV _).mono ?_
  rintro e w1 ⟨rfl, hb⟩
  have B1 : Hid (Below w.heap.size w w1) := B0.out.trans (hb.mono B0.out.size)
  replace X0 : Hid (BoxAt w1 w.heap.size s p false) := X0.out.step hb
  clear hb
  obtain ⟨_, y00, y01, y02⟩ := X0.out
  go_wp2_with fail
  refine (DN _).mono ?_
  rintro e w2 ⟨rfl, hb⟩
  clear y00 y01 y02
  have B2 : Hid (Below w.heap.size w (w2.alloc (.cells #[.string s, .int .i64 p, .bool false] 23))) := (B1.out.trans (hb.mono B1.out.size)).alloc (Nat.le_trans B1.out.size hb.size) _
  replace X0 : Hid (BoxAt (w2.alloc (.cells #[.string s, .int .i64 p, .bool false] 23)) w.heap.size s p false) := (X0.out.step hb).al _
  have X1 : Hid (BoxAt (w2.alloc (.cells #[.string s, .int .i64 p, .bool false] 23)) w2.heap.size s p false) := BoxAt.new w2 s p false
  clear hb
  obtain ⟨_, y00, y01, y02⟩ := X0.out
  go_wp2_with fail
  refine (UP _).mono ?_
  rintro e w3 ⟨rfl, hb⟩
  clear y00 y01 y02
  have B3 : Hid (Below w.heap.size w (w3.alloc (.cells #[.string s, .int .i64 p, .bool false] 23))) := (B2.out.trans (hb.mono B2.out.size)).alloc (Nat.le_trans B2.out.size hb.size) _
  replace X0 : Hid (BoxAt (w3.alloc (.cells #[.string s, .int .i64 p, .bool false] 23)) w.heap.size s p false) := (X0.out.step hb).al _
  replace X1 : Hid (BoxAt (w3.alloc (.cells #[.string s, .int .i64 p, .bool false] 23)) w2.heap.size s p false) := (X1.out.step hb).al _
  have X2 : Hid (BoxAt (w3.alloc (.cells #[.string s, .int .i64 p, .bool false] 23)) w3.heap.size s p false) := BoxAt.new w3 s p false
  clear hb
  obtain ⟨_, y00, y01, y02⟩ := X0.out
  go_wp2_with fail
  refine (RN _).mono ?_
  rintro e w4 ⟨rfl, hb⟩
  clear y00 y01 y02
  have B4 : Hid (Below w.heap.size w (w4.alloc (.cells #[.string s, .int .i64 p, .bool false] 23))) := (B3.out.trans (hb.mono B3.out.size)).alloc (Nat.le_trans B3.out.size hb.size) _
  replace X0 : Hid (BoxAt (w4.alloc (.cells #[.string s, .int .i64 p, .bool false] 23)) w.heap.size s p false) := (X0.out.step hb).al _
  replace X1 : Hid (BoxAt (w4.alloc (.cells #[.string s, .int .i64 p, .bool false] 23)) w2.heap.size s p false) := (X1.out.step hb).al _
  replace X2 : Hid (BoxAt (w4.alloc (.cells #[.string s, .int .i64 p, .bool false] 23)) w3.heap.size s p false) := (X2.out.step hb).al _
  have X3 : Hid (BoxAt (w4.alloc (.cells #[.string s, .int .i64 p, .bool false] 23)) w4.heap.size s p false) := BoxAt.new w4 s p false
  clear hb
  obtain ⟨_, y00, y01, y02⟩ := X0.out
  obtain ⟨_, y10, y11, y12⟩ := X1.out
  obtain ⟨_, y20, y21, y22⟩ := X2.out
  go_wp2_with fail
  refine (CA _).mono ?_
  rintro e w5 ⟨rfl, hb⟩
  clear y00 y01 y02
  clear y10 y11 y12
  clear y20 y21 y22
  have B5 : Hid (Below w.heap.size w w5) := B4.out.trans (hb.mono B4.out.size)
  replace X0 : Hid (BoxAt w5 w.heap.size s p false) := X0.out.step hb
  replace X1 : Hid (BoxAt w5 w2.heap.size s p false) := X1.out.step hb
  replace X2 : Hid (BoxAt w5 w3.heap.size s p false) := X2.out.step hb
  replace X3 : Hid (BoxAt w5 w4.heap.size s p false) := X3.out.step hb
  clear hb
  obtain ⟨_, y00, y01, y02⟩ := X0.out
  obtain ⟨_, y20, y21, y22⟩ := X2.out
  go_wp2_with fail
  refine (CB _).mono ?_
  rintro e w6 ⟨rfl, hb⟩
  clear y00 y01 y02
  clear y20 y21 y22
  have B6 : Hid (Below w.heap.size w w6) := B5.out.trans (hb.mono B5.out.size)
  replace X0 : Hid (BoxAt w6 w.heap.size s p false) := X0.out.step hb
  replace X1 : Hid (BoxAt w6 w2.heap.size s p false) := X1.out.step hb
  replace X2 : Hid (BoxAt w6 w3.heap.size s p false) := X2.out.step hb
  replace X3 : Hid (BoxAt w6 w4.heap.size s p false) := X3.out.step hb
  clear hb
  obtain ⟨_, y00, y01, y02⟩ := X0.out
  obtain ⟨_, y10, y11, y12⟩ := X1.out
  obtain ⟨_, y20, y21, y22⟩ := X2.out
  obtain ⟨_, y30, y31, y32⟩ := X3.out
  go_wp2_with fail
  refine (DB _).mono ?_
  rintro e w7 ⟨rfl, hb⟩
  clear y00 y01 y02
  clear y10 y11 y12
  clear y20 y21 y22
  clear y30 y31 y32
  have B7 : Hid (Below w.heap.size w (w7.alloc (.cells #[.string s2, .int .i64 p2, .bool false] 23))) := (B6.out.trans (hb.mono B6.out.size)).alloc (Nat.le_trans B6.out.size hb.size) _
  replace X0 : Hid (BoxAt (w7.alloc (.cells #[.string s2, .int .i64 p2, .bool false] 23)) w.heap.size s p false) := (X0.out.step hb).al _
  replace X1 : Hid (BoxAt (w7.alloc (.cells #[.string s2, .int .i64 p2, .bool false] 23)) w2.heap.size s p false) := (X1.out.step hb).al _
  replace X2 : Hid (BoxAt (w7.alloc (.cells #[.string s2, .int .i64 p2, .bool false] 23)) w3.heap.size s p false) := (X2.out.step hb).al _
  replace X3 : Hid (BoxAt (w7.alloc (.cells #[.string s2, .int .i64 p2, .bool false] 23)) w4.heap.size s p false) := (X3.out.step hb).al _
  have X4 : Hid (BoxAt (w7.alloc (.cells #[.string s2, .int .i64 p2, .bool false] 23)) w7.heap.size s2 p2 false) := BoxAt.new w7 s2 p2 false
  clear hb
  obtain ⟨_, y40, y41, y42⟩ := X4.out
  go_wp2_with fail
  refine (HV _).mono ?_
  rintro e w8 ⟨rfl, hb⟩
  clear y40 y41 y42
  have B8 : Hid (Below w.heap.size w (w8.alloc (.cells #[.string s, .int .i64 p, .bool false] 23))) := (B7.out.trans (hb.mono B7.out.size)).alloc (Nat.le_trans B7.out.size hb.size) _
  replace X0 : Hid (BoxAt (w8.alloc (.cells #[.string s, .int .i64 p, .bool false] 23)) w.heap.size s p false) := (X0.out.step hb).al _
  replace X1 : Hid (BoxAt (w8.alloc (.cells #[.string s, .int .i64 p, .bool false] 23)) w2.heap.size s p false) := (X1.out.step hb).al _
  replace X2 : Hid (BoxAt (w8.alloc (.cells #[.string s, .int .i64 p, .bool false] 23)) w3.heap.size s p false) := (X2.out.step hb).al _
  replace X3 : Hid (BoxAt (w8.alloc (.cells #[.string s, .int .i64 p, .bool false] 23)) w4.heap.size s p false) := (X3.out.step hb).al _
  replace X4 : Hid (BoxAt (w8.alloc (.cells #[.string s, .int .i64 p, .bool false] 23)) w7.heap.size s2 p2 false) := (X4.out.step hb).al _
  have X5 : Hid (BoxAt (w8.alloc (.cells #[.string s, .int .i64 p, .bool false] 23)) w8.heap.size s p false) := BoxAt.new w8 s p false
  clear hb
  obtain ⟨_, y00, y01, y02⟩ := X0.out
  go_wp2_with fail
  refine (TX _ (HP.out.step B8.out)).mono ?_
  rintro e w9 ⟨rfl, hb⟩
  clear y00 y01 y02
  have B9 : Hid (Below w.heap.size w w9) := B8.out.trans (hb.mono B8.out.size)
  replace X0 : Hid (BoxAt w9 w.heap.size s p false) := X0.out.step hb
  replace X1 : Hid (BoxAt w9 w2.heap.size s p false) := X1.out.step hb
  replace X2 : Hid (BoxAt w9 w3.heap.size s p false) := X2.out.step hb
  replace X3 : Hid (BoxAt w9 w4.heap.size s p false) := X3.out.step hb
  replace X4 : Hid (BoxAt w9 w7.heap.size s2 p2 false) := X4.out.step hb
  replace X5 : Hid (BoxAt w9 w8.heap.size s p false) := X5.out.step hb
  clear hb
  go_wp2_with fail
  refine (RD _ (HA.out.step HA.out.lt B9.out) (HP.out.step B9.out)).mono ?_
  rintro e w10 ⟨rfl, hb⟩
  have B10 : Hid (Below w.heap.size w (w10.alloc (.cells #[.string s, .int .i64 p, .bool false] 23))) := (B9.out.trans (hb.mono B9.out.size)).alloc (Nat.le_trans B9.out.size hb.size) _
  replace X0 : Hid (BoxAt (w10.alloc (.cells #[.string s, .int .i64 p, .bool false] 23)) w.heap.size s p false) := (X0.out.step hb).al _
  replace X1 : Hid (BoxAt (w10.alloc (.cells #[.string s, .int .i64 p, .bool false] 23)) w2.heap.size s p false) := (X1.out.step hb).al _
  replace X2 : Hid (BoxAt (w10.alloc (.cells #[.string s, .int .i64 p, .bool false] 23)) w3.heap.size s p false) := (X2.out.step hb).al _
  replace X3 : Hid (BoxAt (w10.alloc (.cells #[.string s, .int .i64 p, .bool false] 23)) w4.heap.size s p false) := (X3.out.step hb).al _
  replace X4 : Hid (BoxAt (w10.alloc (.cells #[.string s, .int .i64 p, .bool false] 23)) w7.heap.size s2 p2 false) := (X4.out.step hb).al _
  replace X5 : Hid (BoxAt (w10.alloc (.cells #[.string s, .int .i64 p, .bool false] 23)) w8.heap.size s p false) := (X5.out.step hb).al _
  have X6 : Hid (BoxAt (w10.alloc (.cells #[.string s, .int .i64 p, .bool false] 23)) w10.heap.size s p false) := BoxAt.new w10 s p false
  clear hb
  obtain ⟨_, y00, y01, y02⟩ := X0.out
  obtain ⟨_, y50, y51, y52⟩ := X5.out
  obtain ⟨_, y60, y61, y62⟩ := X6.out
  go_wp2_with fail
  refine (FS _).mono ?_
  rintro e w11 ⟨rfl, hb⟩
  clear y00 y01 y02
  clear y50 y51 y52
  clear y60 y61 y62
  have B11 : Hid (Below w.heap.size w w11) := B10.out.trans (hb.mono B10.out.size)
  replace X0 : Hid (BoxAt w11 w.heap.size s p false) := X0.out.step hb
  replace X1 : Hid (BoxAt w11 w2.heap.size s p false) := X1.out.step hb
  replace X2 : Hid (BoxAt w11 w3.heap.size s p false) := X2.out.step hb
  replace X3 : Hid (BoxAt w11 w4.heap.size s p false) := X3.out.step hb
  replace X4 : Hid (BoxAt w11 w7.heap.size s2 p2 false) := X4.out.step hb
  replace X5 : Hid (BoxAt w11 w8.heap.size s p false) := X5.out.step hb
  replace X6 : Hid (BoxAt w11 w10.heap.size s p false) := X6.out.step hb
  clear hb
  go_wp2
  go_ret
  exact ⟨rfl, B11.out⟩

set_option maxHeartbeats 4000000 in
set_option maxRecDepth 100000 in
theorem order_zl {s : ByteArray} {p : Int} (h : VD s p false) (hl : s.size ≤ 700) (hp0 : -1000 ≤ p) (hp1 : p ≤ 1000) {x : Int} {u n : Nat} (e1 : IntKind.u64.wrap x = (u : Int)) (e2 : (u : Int) % 40 = (n : Int))
    (O : Ord s p n ⟨#[]⟩ 0 ⟨#[49]⟩ (p + 1) ⟨#[]⟩ 0 (-1) (-1)) (w : World) (hA : AtoiV w) (hP : PowB w.heap.size w) :
    Calls Tryd.prog 6 #[dcV s p false, .int .i64 x] w fun e w' => e = .returned (.bool true) ∧ Below w.heap.size w w' := by
  obtain ⟨DN, UP, RN, CA, CB, L1, L2⟩ := O
  obtain ⟨s2, p2, DB, HV⟩ := half_twice h hl hp0 hp1
  have VV := fun W => dvalid_yes h W
  have TX := fun W hW => dtext_vd h W hW
  have tz : (TXB s p false).size ≤ 140737488355328 := TXB_size h
  have RD := fun W a b => dread_yes tz h (TXB_list s p false) W a b
  have FS := fun W => sure_any W
  generalize TXB s p false = T at *
  have HA : Hid (AtoiV w) := hA
  have HP : Hid (PowB w.heap.size w) := hP
  have c1 : ¬ (700 : Int) < (s.size : Int) := by omega
  have c2 : ¬ p < -1000 := by omega
  have c3 : ¬ 1000 < p := by omega
  have ew : IntKind.i64.wrap (n : Int) = (n : Int) := by unfold IntKind.wrap; simp [IntKind.bits, IntKind.signed]; omega
  have ss : (s.toList == s.toList) = true := beq_self_eq_true _
  clear hA hP h hl hp0 hp1 tz
  have pq : (p + 1 == p) = false := beq_eq_false_iff_ne.mpr (by omega)
  have pr : (p == p + 1) = false := beq_eq_false_iff_ne.mpr (by omega)
  have pw : ¬ p = p + 1 := by omega
  have pu : ¬ p + 1 = p := by omega
  unfold dcV at *
  have X0 : Hid (BoxAt (w.alloc (.cells #[.string s, .int .i64 p, .bool false] 23)) w.heap.size s p false) := BoxAt.new w s p false
  have B0 : Hid (Below w.heap.size w (w.alloc (.cells #[.string s, .int .i64 p, .bool false] 23))) := (Below.refl _ _).alloc (Nat.le_refl _) _
  go_enter Tryd.func6, Tryd.ntmps6
  go_wp2_with fail
  refine (VV _).mono ?_
  rintro e w1 ⟨rfl, hb⟩
  have B1 : Hid (Below w.heap.size w w1) := B0.out.trans (hb.mono B0.out.size)
  replace X0 : Hid (BoxAt w1 w.heap.size s p false) := X0.out.step hb
  clear hb
  obtain ⟨_, y00, y01, y02⟩ := X0.out
  go_wp2_with fail
  refine (DN _).mono ?_
  rintro e w2 ⟨rfl, hb⟩
  clear y00 y01 y02
  have B2 : Hid (Below w.heap.size w (w2.alloc (.cells #[.string ⟨#[]⟩, .int .i64 0, .bool false] 23))) := (B1.out.trans (hb.mono B1.out.size)).alloc (Nat.le_trans B1.out.size hb.size) _
  replace X0 : Hid (BoxAt (w2.alloc (.cells #[.string ⟨#[]⟩, .int .i64 0, .bool false] 23)) w.heap.size s p false) := (X0.out.step hb).al _
  have X1 : Hid (BoxAt (w2.alloc (.cells #[.string ⟨#[]⟩, .int .i64 0, .bool false] 23)) w2.heap.size ⟨#[]⟩ 0 false) := BoxAt.new w2 ⟨#[]⟩ 0 false
  clear hb
  obtain ⟨_, y00, y01, y02⟩ := X0.out
  go_wp2_with fail
  refine (UP _).mono ?_
  rintro e w3 ⟨rfl, hb⟩
  clear y00 y01 y02
  have B3 : Hid (Below w.heap.size w (w3.alloc (.cells #[.string ⟨#[49]⟩, .int .i64 (p + 1), .bool false] 23))) := (B2.out.trans (hb.mono B2.out.size)).alloc (Nat.le_trans B2.out.size hb.size) _
  replace X0 : Hid (BoxAt (w3.alloc (.cells #[.string ⟨#[49]⟩, .int .i64 (p + 1), .bool false] 23)) w.heap.size s p false) := (X0.out.step hb).al _
  replace X1 : Hid (BoxAt (w3.alloc (.cells #[.string ⟨#[49]⟩, .int .i64 (p + 1), .bool false] 23)) w2.heap.size ⟨#[]⟩ 0 false) := (X1.out.step hb).al _
  have X2 : Hid (BoxAt (w3.alloc (.cells #[.string ⟨#[49]⟩, .int .i64 (p + 1), .bool false] 23)) w3.heap.size ⟨#[49]⟩ (p + 1) false) := BoxAt.new w3 ⟨#[49]⟩ (p + 1) false
  clear hb
  obtain ⟨_, y00, y01, y02⟩ := X0.out
  go_wp2_with fail
  refine (RN _).mono ?_
  rintro e w4 ⟨rfl, hb⟩
  clear y00 y01 y02
  have B4 : Hid (Below w.heap.size w (w4.alloc (.cells #[.string ⟨#[]⟩, .int .i64 0, .bool false] 23))) := (B3.out.trans (hb.mono B3.out.size)).alloc (Nat.le_trans B3.out.size hb.size) _
  replace X0 : Hid (BoxAt (w4.alloc (.cells #[.string ⟨#[]⟩, .int .i64 0, .bool false] 23)) w.heap.size s p false) := (X0.out.step hb).al _
  replace X1 : Hid (BoxAt (w4.alloc (.cells #[.string ⟨#[]⟩, .int .i64 0, .bool false] 23)) w2.heap.size ⟨#[]⟩ 0 false) := (X1.out.step hb).al _
  replace X2 : Hid (BoxAt (w4.alloc (.cells #[.string ⟨#[]⟩, .int .i64 0, .bool false] 23)) w3.heap.size ⟨#[49]⟩ (p + 1) false) := (X2.out.step hb).al _
  have X3 : Hid (BoxAt (w4.alloc (.cells #[.string ⟨#[]⟩, .int .i64 0, .bool false] 23)) w4.heap.size ⟨#[]⟩ 0 false) := BoxAt.new w4 ⟨#[]⟩ 0 false
  clear hb
  obtain ⟨_, y00, y01, y02⟩ := X0.out
  obtain ⟨_, y10, y11, y12⟩ := X1.out
  obtain ⟨_, y20, y21, y22⟩ := X2.out
  go_wp2_with fail
  refine (CA _).mono ?_
  rintro e w5 ⟨rfl, hb⟩
  clear y00 y01 y02
  clear y10 y11 y12
  clear y20 y21 y22
  have B5 : Hid (Below w.heap.size w w5) := B4.out.trans (hb.mono B4.out.size)
  replace X0 : Hid (BoxAt w5 w.heap.size s p false) := X0.out.step hb
  replace X1 : Hid (BoxAt w5 w2.heap.size ⟨#[]⟩ 0 false) := X1.out.step hb
  replace X2 : Hid (BoxAt w5 w3.heap.size ⟨#[49]⟩ (p + 1) false) := X2.out.step hb
  replace X3 : Hid (BoxAt w5 w4.heap.size ⟨#[]⟩ 0 false) := X3.out.step hb
  clear hb
  obtain ⟨_, y00, y01, y02⟩ := X0.out
  obtain ⟨_, y20, y21, y22⟩ := X2.out
  go_wp2_with fail
  refine (CB _).mono ?_
  rintro e w6 ⟨rfl, hb⟩
  clear y00 y01 y02
  clear y20 y21 y22
  have B6 : Hid (Below w.heap.size w w6) := B5.out.trans (hb.mono B5.out.size)
  replace X0 : Hid (BoxAt w6 w.heap.size s p false) := X0.out.step hb
  replace X1 : Hid (BoxAt w6 w2.heap.size ⟨#[]⟩ 0 false) := X1.out.step hb
  replace X2 : Hid (BoxAt w6 w3.heap.size ⟨#[49]⟩ (p + 1) false) := X2.out.step hb
  replace X3 : Hid (BoxAt w6 w4.heap.size ⟨#[]⟩ 0 false) := X3.out.step hb
  clear hb
  obtain ⟨_, y00, y01, y02⟩ := X0.out
  obtain ⟨_, y10, y11, y12⟩ := X1.out
  obtain ⟨_, y20, y21, y22⟩ := X2.out
  obtain ⟨_, y30, y31, y32⟩ := X3.out
  go_wp2_with fail
  refine (DB _).mono ?_
  rintro e w7 ⟨rfl, hb⟩
  clear y00 y01 y02
  clear y10 y11 y12
  clear y20 y21 y22
  clear y30 y31 y32
  have B7 : Hid (Below w.heap.size w (w7.alloc (.cells #[.string s2, .int .i64 p2, .bool false] 23))) := (B6.out.trans (hb.mono B6.out.size)).alloc (Nat.le_trans B6.out.size hb.size) _
  replace X0 : Hid (BoxAt (w7.alloc (.cells #[.string s2, .int .i64 p2, .bool false] 23)) w.heap.size s p false) := (X0.out.step hb).al _
  replace X1 : Hid (BoxAt (w7.alloc (.cells #[.string s2, .int .i64 p2, .bool false] 23)) w2.heap.size ⟨#[]⟩ 0 false) := (X1.out.step hb).al _
  replace X2 : Hid (BoxAt (w7.alloc (.cells #[.string s2, .int .i64 p2, .bool false] 23)) w3.heap.size ⟨#[49]⟩ (p + 1) false) := (X2.out.step hb).al _
  replace X3 : Hid (BoxAt (w7.alloc (.cells #[.string s2, .int .i64 p2, .bool false] 23)) w4.heap.size ⟨#[]⟩ 0 false) := (X3.out.step hb).al _
  have X4 : Hid (BoxAt (w7.alloc (.cells #[.string s2, .int .i64 p2, .bool false] 23)) w7.heap.size s2 p2 false) := BoxAt.new w7 s2 p2 false
  clear hb
  obtain ⟨_, y40, y41, y42⟩ := X4.out
  go_wp2_with fail
  refine (HV _).mono ?_
  rintro e w8 ⟨rfl, hb⟩
  clear y40 y41 y42
  have B8 : Hid (Below w.heap.size w (w8.alloc (.cells #[.string s, .int .i64 p, .bool false] 23))) := (B7.out.trans (hb.mono B7.out.size)).alloc (Nat.le_trans B7.out.size hb.size) _
  replace X0 : Hid (BoxAt (w8.alloc (.cells #[.string s, .int .i64 p, .bool false] 23)) w.heap.size s p false) := (X0.out.step hb).al _
  replace X1 : Hid (BoxAt (w8.alloc (.cells #[.string s, .int .i64 p, .bool false] 23)) w2.heap.size ⟨#[]⟩ 0 false) := (X1.out.step hb).al _
  replace X2 : Hid (BoxAt (w8.alloc (.cells #[.string s, .int .i64 p, .bool false] 23)) w3.heap.size ⟨#[49]⟩ (p + 1) false) := (X2.out.step hb).al _
  replace X3 : Hid (BoxAt (w8.alloc (.cells #[.string s, .int .i64 p, .bool false] 23)) w4.heap.size ⟨#[]⟩ 0 false) := (X3.out.step hb).al _
  replace X4 : Hid (BoxAt (w8.alloc (.cells #[.string s, .int .i64 p, .bool false] 23)) w7.heap.size s2 p2 false) := (X4.out.step hb).al _
  have X5 : Hid (BoxAt (w8.alloc (.cells #[.string s, .int .i64 p, .bool false] 23)) w8.heap.size s p false) := BoxAt.new w8 s p false
  clear hb
  obtain ⟨_, y00, y01, y02⟩ := X0.out
  go_wp2_with fail
  refine (TX _ (HP.out.step B8.out)).mono ?_
  rintro e w9 ⟨rfl, hb⟩
  clear y00 y01 y02
  have B9 : Hid (Below w.heap.size w w9) := B8.out.trans (hb.mono B8.out.size)
  replace X0 : Hid (BoxAt w9 w.heap.size s p false) := X0.out.step hb
  replace X1 : Hid (BoxAt w9 w2.heap.size ⟨#[]⟩ 0 false) := X1.out.step hb
  replace X2 : Hid (BoxAt w9 w3.heap.size ⟨#[49]⟩ (p + 1) false) := X2.out.step hb
  replace X3 : Hid (BoxAt w9 w4.heap.size ⟨#[]⟩ 0 false) := X3.out.step hb
  replace X4 : Hid (BoxAt w9 w7.heap.size s2 p2 false) := X4.out.step hb
  replace X5 : Hid (BoxAt w9 w8.heap.size s p false) := X5.out.step hb
  clear hb
  go_wp2_with fail
  refine (RD _ (HA.out.step HA.out.lt B9.out) (HP.out.step B9.out)).mono ?_
  rintro e w10 ⟨rfl, hb⟩
  have B10 : Hid (Below w.heap.size w (w10.alloc (.cells #[.string s, .int .i64 p, .bool false] 23))) := (B9.out.trans (hb.mono B9.out.size)).alloc (Nat.le_trans B9.out.size hb.size) _
  replace X0 : Hid (BoxAt (w10.alloc (.cells #[.string s, .int .i64 p, .bool false] 23)) w.heap.size s p false) := (X0.out.step hb).al _
  replace X1 : Hid (BoxAt (w10.alloc (.cells #[.string s, .int .i64 p, .bool false] 23)) w2.heap.size ⟨#[]⟩ 0 false) := (X1.out.step hb).al _
  replace X2 : Hid (BoxAt (w10.alloc (.cells #[.string s, .int .i64 p, .bool false] 23)) w3.heap.size ⟨#[49]⟩ (p + 1) false) := (X2.out.step hb).al _
  replace X3 : Hid (BoxAt (w10.alloc (.cells #[.string s, .int .i64 p, .bool false] 23)) w4.heap.size ⟨#[]⟩ 0 false) := (X3.out.step hb).al _
  replace X4 : Hid (BoxAt (w10.alloc (.cells #[.string s, .int .i64 p, .bool false] 23)) w7.heap.size s2 p2 false) := (X4.out.step hb).al _
  replace X5 : Hid (BoxAt (w10.alloc (.cells #[.string s, .int .i64 p, .bool false] 23)) w8.heap.size s p false) := (X5.out.step hb).al _
  have X6 : Hid (BoxAt (w10.alloc (.cells #[.string s, .int .i64 p, .bool false] 23)) w10.heap.size s p false) := BoxAt.new w10 s p false
  clear hb
  obtain ⟨_, y00, y01, y02⟩ := X0.out
  obtain ⟨_, y50, y51, y52⟩ := X5.out
  obtain ⟨_, y60, y61, y62⟩ := X6.out
  go_wp2_with fail
  refine (FS _).mono ?_
  rintro e w11 ⟨rfl, hb⟩
  clear y00 y01 y02
  clear y50 y51 y52
  clear y60 y61 y62
  have B11 : Hid (Below w.heap.size w w11) := B10.out.trans (hb.mono B10.out.size)
  replace X0 : Hid (BoxAt w11 w.heap.size s p false) := X0.out.step hb
  replace X1 : Hid (BoxAt w11 w2.heap.size ⟨#[]⟩ 0 false) := X1.out.step hb
  replace X2 : Hid (BoxAt w11 w3.heap.size ⟨#[49]⟩ (p + 1) false) := X2.out.step hb
  replace X3 : Hid (BoxAt w11 w4.heap.size ⟨#[]⟩ 0 false) := X3.out.step hb
  replace X4 : Hid (BoxAt w11 w7.heap.size s2 p2 false) := X4.out.step hb
  replace X5 : Hid (BoxAt w11 w8.heap.size s p false) := X5.out.step hb
  replace X6 : Hid (BoxAt w11 w10.heap.size s p false) := X6.out.step hb
  clear hb
  go_wp2
  go_ret
  exact ⟨rfl, B11.out⟩

set_option maxHeartbeats 4000000 in
set_option maxRecDepth 100000 in
theorem order_zh {s : ByteArray} {p : Int} (h : VD s p false) (hl : s.size ≤ 700) (hp0 : -1000 ≤ p) (hp1 : p ≤ 1000) {x : Int} {u n : Nat} (e1 : IntKind.u64.wrap x = (u : Int)) (e2 : (u : Int) % 40 = (n : Int))
    (O : Ord s p n ⟨#[]⟩ 0 ⟨#[49]⟩ (p + 1) ⟨#[49]⟩ (p + 1) (-1) (-1)) (w : World) (hA : AtoiV w) (hP : PowB w.heap.size w) :
    Calls Tryd.prog 6 #[dcV s p false, .int .i64 x] w fun e w' => e = .returned (.bool true) ∧ Below w.heap.size w w' := by
  obtain ⟨DN, UP, RN, CA, CB, L1, L2⟩ := O
  obtain ⟨s2, p2, DB, HV⟩ := half_twice h hl hp0 hp1
  have VV := fun W => dvalid_yes h W
  have TX := fun W hW => dtext_vd h W hW
  have tz : (TXB s p false).size ≤ 140737488355328 := TXB_size h
  have RD := fun W a b => dread_yes tz h (TXB_list s p false) W a b
  have FS := fun W => sure_any W
  generalize TXB s p false = T at *
  have HA : Hid (AtoiV w) := hA
  have HP : Hid (PowB w.heap.size w) := hP
  have c1 : ¬ (700 : Int) < (s.size : Int) := by omega
  have c2 : ¬ p < -1000 := by omega
  have c3 : ¬ 1000 < p := by omega
  have ew : IntKind.i64.wrap (n : Int) = (n : Int) := by unfold IntKind.wrap; simp [IntKind.bits, IntKind.signed]; omega
  have ss : (s.toList == s.toList) = true := beq_self_eq_true _
  clear hA hP h hl hp0 hp1 tz
  have pq : (p + 1 == p) = false := beq_eq_false_iff_ne.mpr (by omega)
  have pr : (p == p + 1) = false := beq_eq_false_iff_ne.mpr (by omega)
  have pw : ¬ p = p + 1 := by omega
  have pu : ¬ p + 1 = p := by omega
  unfold dcV at *
  have X0 : Hid (BoxAt (w.alloc (.cells #[.string s, .int .i64 p, .bool false] 23)) w.heap.size s p false) := BoxAt.new w s p false
  have B0 : Hid (Below w.heap.size w (w.alloc (.cells #[.string s, .int .i64 p, .bool false] 23))) := (Below.refl _ _).alloc (Nat.le_refl _) _
  go_enter Tryd.func6, Tryd.ntmps6
  go_wp2_with fail
  refine (VV _).mono ?_
  rintro e w1 ⟨rfl, hb⟩
  have B1 : Hid (Below w.heap.size w w1) := B0.out.trans (hb.mono B0.out.size)
  replace X0 : Hid (BoxAt w1 w.heap.size s p false) := X0.out.step hb
  clear hb
  obtain ⟨_, y00, y01, y02⟩ := X0.out
  go_wp2_with fail
  refine (DN _).mono ?_
  rintro e w2 ⟨rfl, hb⟩
  clear y00 y01 y02
  have B2 : Hid (Below w.heap.size w (w2.alloc (.cells #[.string ⟨#[]⟩, .int .i64 0, .bool false] 23))) := (B1.out.trans (hb.mono B1.out.size)).alloc (Nat.le_trans B1.out.size hb.size) _
  replace X0 : Hid (BoxAt (w2.alloc (.cells #[.string ⟨#[]⟩, .int .i64 0, .bool false] 23)) w.heap.size s p false) := (X0.out.step hb).al _
  have X1 : Hid (BoxAt (w2.alloc (.cells #[.string ⟨#[]⟩, .int .i64 0, .bool false] 23)) w2.heap.size ⟨#[]⟩ 0 false) := BoxAt.new w2 ⟨#[]⟩ 0 false
  clear hb
  obtain ⟨_, y00, y01, y02⟩ := X0.out
  go_wp2_with fail
  refine (UP _).mono ?_
  rintro e w3 ⟨rfl, hb⟩
  clear y00 y01 y02
  have B3 : Hid (Below w.heap.size w (w3.alloc (.cells #[.string ⟨#[49]⟩, .int .i64 (p + 1), .bool false] 23))) := (B2.out.trans (hb.mono B2.out.size)).alloc (Nat.le_trans B2.out.size hb.size) _
  replace X0 : Hid (BoxAt (w3.alloc (.cells #[.string ⟨#[49]⟩, .int .i64 (p + 1), .bool false] 23)) w.heap.size s p false) := (X0.out.step hb).al _
  replace X1 : Hid (BoxAt (w3.alloc (.cells #[.string ⟨#[49]⟩, .int .i64 (p + 1), .bool false] 23)) w2.heap.size ⟨#[]⟩ 0 false) := (X1.out.step hb).al _
  have X2 : Hid (BoxAt (w3.alloc (.cells #[.string ⟨#[49]⟩, .int .i64 (p + 1), .bool false] 23)) w3.heap.size ⟨#[49]⟩ (p + 1) false) := BoxAt.new w3 ⟨#[49]⟩ (p + 1) false
  clear hb
  obtain ⟨_, y00, y01, y02⟩ := X0.out
  go_wp2_with fail
  refine (RN _).mono ?_
  rintro e w4 ⟨rfl, hb⟩
  clear y00 y01 y02
  have B4 : Hid (Below w.heap.size w (w4.alloc (.cells #[.string ⟨#[49]⟩, .int .i64 (p + 1), .bool false] 23))) := (B3.out.trans (hb.mono B3.out.size)).alloc (Nat.le_trans B3.out.size hb.size) _
  replace X0 : Hid (BoxAt (w4.alloc (.cells #[.string ⟨#[49]⟩, .int .i64 (p + 1), .bool false] 23)) w.heap.size s p false) := (X0.out.step hb).al _
  replace X1 : Hid (BoxAt (w4.alloc (.cells #[.string ⟨#[49]⟩, .int .i64 (p + 1), .bool false] 23)) w2.heap.size ⟨#[]⟩ 0 false) := (X1.out.step hb).al _
  replace X2 : Hid (BoxAt (w4.alloc (.cells #[.string ⟨#[49]⟩, .int .i64 (p + 1), .bool false] 23)) w3.heap.size ⟨#[49]⟩ (p + 1) false) := (X2.out.step hb).al _
  have X3 : Hid (BoxAt (w4.alloc (.cells #[.string ⟨#[49]⟩, .int .i64 (p + 1), .bool false] 23)) w4.heap.size ⟨#[49]⟩ (p + 1) false) := BoxAt.new w4 ⟨#[49]⟩ (p + 1) false
  clear hb
  obtain ⟨_, y00, y01, y02⟩ := X0.out
  obtain ⟨_, y10, y11, y12⟩ := X1.out
  obtain ⟨_, y20, y21, y22⟩ := X2.out
  go_wp2_with fail
  refine (CA _).mono ?_
  rintro e w5 ⟨rfl, hb⟩
  clear y00 y01 y02
  clear y10 y11 y12
  clear y20 y21 y22
  have B5 : Hid (Below w.heap.size w w5) := B4.out.trans (hb.mono B4.out.size)
  replace X0 : Hid (BoxAt w5 w.heap.size s p false) := X0.out.step hb
  replace X1 : Hid (BoxAt w5 w2.heap.size ⟨#[]⟩ 0 false) := X1.out.step hb
  replace X2 : Hid (BoxAt w5 w3.heap.size ⟨#[49]⟩ (p + 1) false) := X2.out.step hb
  replace X3 : Hid (BoxAt w5 w4.heap.size ⟨#[49]⟩ (p + 1) false) := X3.out.step hb
  clear hb
  obtain ⟨_, y00, y01, y02⟩ := X0.out
  obtain ⟨_, y20, y21, y22⟩ := X2.out
  go_wp2_with fail
  refine (CB _).mono ?_
  rintro e w6 ⟨rfl, hb⟩
  clear y00 y01 y02
  clear y20 y21 y22
  have B6 : Hid (Below w.heap.size w w6) := B5.out.trans (hb.mono B5.out.size)
  replace X0 : Hid (BoxAt w6 w.heap.size s p false) := X0.out.step hb
  replace X1 : Hid (BoxAt w6 w2.heap.size ⟨#[]⟩ 0 false) := X1.out.step hb
  replace X2 : Hid (BoxAt w6 w3.heap.size ⟨#[49]⟩ (p + 1) false) := X2.out.step hb
  replace X3 : Hid (BoxAt w6 w4.heap.size ⟨#[49]⟩ (p + 1) false) := X3.out.step hb
  clear hb
  obtain ⟨_, y00, y01, y02⟩ := X0.out
  obtain ⟨_, y10, y11, y12⟩ := X1.out
  obtain ⟨_, y20, y21, y22⟩ := X2.out
  obtain ⟨_, y30, y31, y32⟩ := X3.out
  go_wp2_with fail
  refine (DB _).mono ?_
  rintro e w7 ⟨rfl, hb⟩
  clear y00 y01 y02
  clear y10 y11 y12
  clear y20 y21 y22
  clear y30 y31 y32
  have B7 : Hid (Below w.heap.size w (w7.alloc (.cells #[.string s2, .int .i64 p2, .bool false] 23))) := (B6.out.trans (hb.mono B6.out.size)).alloc (Nat.le_trans B6.out.size hb.size) _
  replace X0 : Hid (BoxAt (w7.alloc (.cells #[.string s2, .int .i64 p2, .bool false] 23)) w.heap.size s p false) := (X0.out.step hb).al _
  replace X1 : Hid (BoxAt (w7.alloc (.cells #[.string s2, .int .i64 p2, .bool false] 23)) w2.heap.size ⟨#[]⟩ 0 false) := (X1.out.step hb).al _
  replace X2 : Hid (BoxAt (w7.alloc (.cells #[.string s2, .int .i64 p2, .bool false] 23)) w3.heap.size ⟨#[49]⟩ (p + 1) false) := (X2.out.step hb).al _
  replace X3 : Hid (BoxAt (w7.alloc (.cells #[.string s2, .int .i64 p2, .bool false] 23)) w4.heap.size ⟨#[49]⟩ (p + 1) false) := (X3.out.step hb).al _
  have X4 : Hid (BoxAt (w7.alloc (.cells #[.string s2, .int .i64 p2, .bool false] 23)) w7.heap.size s2 p2 false) := BoxAt.new w7 s2 p2 false
  clear hb
  obtain ⟨_, y40, y41, y42⟩ := X4.out
  go_wp2_with fail
  refine (HV _).mono ?_
  rintro e w8 ⟨rfl, hb⟩
  clear y40 y41 y42
  have B8 : Hid (Below w.heap.size w (w8.alloc (.cells #[.string s, .int .i64 p, .bool false] 23))) := (B7.out.trans (hb.mono B7.out.size)).alloc (Nat.le_trans B7.out.size hb.size) _
  replace X0 : Hid (BoxAt (w8.alloc (.cells #[.string s, .int .i64 p, .bool false] 23)) w.heap.size s p false) := (X0.out.step hb).al _
  replace X1 : Hid (BoxAt (w8.alloc (.cells #[.string s, .int .i64 p, .bool false] 23)) w2.heap.size ⟨#[]⟩ 0 false) := (X1.out.step hb).al _
  replace X2 : Hid (BoxAt (w8.alloc (.cells #[.string s, .int .i64 p, .bool false] 23)) w3.heap.size ⟨#[49]⟩ (p + 1) false) := (X2.out.step hb).al _
  replace X3 : Hid (BoxAt (w8.alloc (.cells #[.string s, .int .i64 p, .bool false] 23)) w4.heap.size ⟨#[49]⟩ (p + 1) false) := (X3.out.step hb).al _
  replace X4 : Hid (BoxAt (w8.alloc (.cells #[.string s, .int .i64 p, .bool false] 23)) w7.heap.size s2 p2 false) := (X4.out.step hb).al _
  have X5 : Hid (BoxAt (w8.alloc (.cells #[.string s, .int .i64 p, .bool false] 23)) w8.heap.size s p false) := BoxAt.new w8 s p false
  clear hb
  obtain ⟨_, y00, y01, y02⟩ := X0.out
  go_wp2_with fail
  refine (TX _ (HP.out.step B8.out)).mono ?_
  rintro e w9 ⟨rfl, hb⟩
  clear y00 y01 y02
  have B9 : Hid (Below w.heap.size w w9) := B8.out.trans (hb.mono B8.out.size)
  replace X0 : Hid (BoxAt w9 w.heap.size s p false) := X0.out.step hb
  replace X1 : Hid (BoxAt w9 w2.heap.size ⟨#[]⟩ 0 false) := X1.out.step hb
  replace X2 : Hid (BoxAt w9 w3.heap.size ⟨#[49]⟩ (p + 1) false) := X2.out.step hb
  replace X3 : Hid (BoxAt w9 w4.heap.size ⟨#[49]⟩ (p + 1) false) := X3.out.step hb
  replace X4 : Hid (BoxAt w9 w7.heap.size s2 p2 false) := X4.out.step hb
  replace X5 : Hid (BoxAt w9 w8.heap.size s p false) := X5.out.step hb
  clear hb
  go_wp2_with fail
  refine (RD _ (HA.out.step HA.out.lt B9.out) (HP.out.step B9.out)).mono ?_
  rintro e w10 ⟨rfl, hb⟩
  have B10 : Hid (Below w.heap.size w (w10.alloc (.cells #[.string s, .int .i64 p, .bool false] 23))) := (B9.out.trans (hb.mono B9.out.size)).alloc (Nat.le_trans B9.out.size hb.size) _
  replace X0 : Hid (BoxAt (w10.alloc (.cells #[.string s, .int .i64 p, .bool false] 23)) w.heap.size s p false) := (X0.out.step hb).al _
  replace X1 : Hid (BoxAt (w10.alloc (.cells #[.string s, .int .i64 p, .bool false] 23)) w2.heap.size ⟨#[]⟩ 0 false) := (X1.out.step hb).al _
  replace X2 : Hid (BoxAt (w10.alloc (.cells #[.string s, .int .i64 p, .bool false] 23)) w3.heap.size ⟨#[49]⟩ (p + 1) false) := (X2.out.step hb).al _
  replace X3 : Hid (BoxAt (w10.alloc (.cells #[.string s, .int .i64 p, .bool false] 23)) w4.heap.size ⟨#[49]⟩ (p + 1) false) := (X3.out.step hb).al _
  replace X4 : Hid (BoxAt (w10.alloc (.cells #[.string s, .int .i64 p, .bool false] 23)) w7.heap.size s2 p2 false) := (X4.out.step hb).al _
  replace X5 : Hid (BoxAt (w10.alloc (.cells #[.string s, .int .i64 p, .bool false] 23)) w8.heap.size s p false) := (X5.out.step hb).al _
  have X6 : Hid (BoxAt (w10.alloc (.cells #[.string s, .int .i64 p, .bool false] 23)) w10.heap.size s p false) := BoxAt.new w10 s p false
  clear hb
  obtain ⟨_, y00, y01, y02⟩ := X0.out
  obtain ⟨_, y50, y51, y52⟩ := X5.out
  obtain ⟨_, y60, y61, y62⟩ := X6.out
  go_wp2_with fail
  refine (FS _).mono ?_
  rintro e w11 ⟨rfl, hb⟩
  clear y00 y01 y02
  clear y50 y51 y52
  clear y60 y61 y62
  have B11 : Hid (Below w.heap.size w w11) := B10.out.trans (hb.mono B10.out.size)
  replace X0 : Hid (BoxAt w11 w.heap.size s p false) := X0.out.step hb
  replace X1 : Hid (BoxAt w11 w2.heap.size ⟨#[]⟩ 0 false) := X1.out.step hb
  replace X2 : Hid (BoxAt w11 w3.heap.size ⟨#[49]⟩ (p + 1) false) := X2.out.step hb
  replace X3 : Hid (BoxAt w11 w4.heap.size ⟨#[49]⟩ (p + 1) false) := X3.out.step hb
  replace X4 : Hid (BoxAt w11 w7.heap.size s2 p2 false) := X4.out.step hb
  replace X5 : Hid (BoxAt w11 w8.heap.size s p false) := X5.out.step hb
  replace X6 : Hid (BoxAt w11 w10.heap.size s p false) := X6.out.step hb
  clear hb
  go_wp2
  go_ret
  exact ⟨rfl, B11.out⟩

end Go.Proofs.YtladeppjccfbhaaDoor
