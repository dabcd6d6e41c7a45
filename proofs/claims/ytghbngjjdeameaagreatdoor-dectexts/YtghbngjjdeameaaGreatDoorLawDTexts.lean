/-
  The statement DecTexts: for all numbers and all texts the call of DecTexts returns true, where the listed variables lie as the program's text lays them.
-/
import Derived.Test.YtghbngjjdeameaaGreatDoorDecRr
import Derived.Test.YtghbngjjdeameaaGreatDoorDecU
import Derived.Test.YtghbngjjdeameaaGreatDoorDecBx
namespace Go.Proofs.YtghbngjjdeameaaGreatDoor
open Go.RowKit

theorem text_both {s : ByteArray} {p : Int} {c : Bool} (hs : s.size ≤ 9223372036854775807) : ∃ T : ByteArray,
    (∀ W, PowB W.heap.size W → Calls Tryz.prog 6 #[dcV s p c] W fun e w' => e = .returned (.string T) ∧ Below W.heap.size W w') ∧
    (∀ W, Calls Tryz.prog 7 #[dcV s p c] W fun e w' => e = .returned (.string T) ∧ Below W.heap.size W w') := by
  by_cases v : VD s p c
  · exact ⟨_, fun W hW => dtext_vd v W hW, fun W => rdtext_vd v W⟩
  · exact ⟨_, fun W _ => dtext_no hs v W, fun W => rdtext_no hs v W⟩
theorem read_both {t : ByteArray} (ht : t.size ≤ 140737488355328) : ∃ (s2 : ByteArray) (p2 : Int) (c2 : Bool) (k : Int) (E : Value),
    (∀ W, AtoiV W → PowB W.heap.size W → Calls Tryz.prog 4 #[.string t] W fun e w' => e = .returned (.tuple #[dcV s2 p2 c2, E]) ∧ Below W.heap.size W w') ∧
    (∀ W, Calls Tryz.prog 5 #[.string t] W fun e w' => e = .returned (.tuple #[dcV s2 p2 c2, .int .i64 k]) ∧ Below W.heap.size W w') ∧
    (∀ W, ErrT W → Calls Tryz.prog 8 #[E] W fun e w' => e = .returned (.int .i64 k) ∧ Below W.heap.size W w') := by
  by_cases h : ∃ d p c, VD d p c ∧ t.data.toList = TXL d p c
  · obtain ⟨d, p, c, v, e⟩ := h
    exact ⟨d, p, c, 0, .nilIface, fun W a b => dread_yes ht v e W a b, fun W => rdread_yes ht v e W, fun W _ => num_nil W⟩
  · have n : ∀ d p c, VD d p c → t.data.toList ≠ TXL d p c := fun d p c v e => h ⟨d, p, c, v, e⟩
    exact ⟨_, _, _, 3, _, fun W a b => dread_no ht n W a b, fun W => rdread_no ht n W, fun W h => num_errno 3 W h⟩

set_option maxHeartbeats 4000000 in
set_option maxRecDepth 100000 in
theorem law_dtexts (s : ByteArray) (p : Int) (c : Bool) (hs : s.size ≤ 9223372036854775807) (t : ByteArray) (ht : t.size ≤ 140737488355328) (w : World) (hE : ErrT w) (hA : AtoiV w) (hP : PowB w.heap.size w) :
    Calls Tryz.prog 3 #[dcV s p c, .string t] w fun e w' => e = .returned (.bool true) ∧ Below w.heap.size w w' := by
  obtain ⟨T, X1, X2⟩ := text_both (s := s) (p := p) (c := c) hs
  obtain ⟨s2, p2, c2, k, E, R1, R2, G⟩ := read_both ht
  have FS := fun W => sure_any W
  have tt : (T.toList == T.toList) = true := beq_self_eq_true _
  have HE : Hid (ErrT w) := hE
  have HA : Hid (AtoiV w) := hA
  have HP : Hid (PowB w.heap.size w) := hP
  clear hE hA hP hs ht
  unfold dcV at *
  have Y0 : Hid (BoxAt (w.alloc (.cells #[.string s, .int .i64 p, .bool c] 23)) w.heap.size s p c) := BoxAt.new w s p c
  have B0 : Hid (Below w.heap.size w (w.alloc (.cells #[.string s, .int .i64 p, .bool c] 23))) := (Below.refl _ _).alloc (Nat.le_refl _) _
  go_enter Tryz.func3, Tryz.ntmps3
  go_wp2_with fail
  refine (R1 _ (HA.out.step HA.out.lt B0.out) (HP.out.step B0.out)).mono ?_
  rintro e w1 ⟨rfl, hb1⟩
  have B1 : Hid (Below w.heap.size w (w1.alloc (.cells #[.string s2, .int .i64 p2, .bool c2] 23))) := (B0.out.trans (hb1.mono B0.out.size)).alloc (Nat.le_trans B0.out.size hb1.size) _
  replace Y0 : Hid (BoxAt (w1.alloc (.cells #[.string s2, .int .i64 p2, .bool c2] 23)) w.heap.size s p c) := ((Y0.out.step hb1).al (.cells #[.string s2, .int .i64 p2, .bool c2] 23))
  have Y1 : Hid (BoxAt (w1.alloc (.cells #[.string s2, .int .i64 p2, .bool c2] 23)) w1.heap.size s2 p2 c2) := BoxAt.new w1 s2 p2 c2
  clear hb1
  go_wp2_with fail
  refine (R2 _).mono ?_
  rintro e w2 ⟨rfl, hb2⟩
  have B2 : Hid (Below w.heap.size w (w2.alloc (.cells #[.string s2, .int .i64 p2, .bool c2] 23))) := (B1.out.trans (hb2.mono B1.out.size)).alloc (Nat.le_trans B1.out.size hb2.size) _
  replace Y0 : Hid (BoxAt (w2.alloc (.cells #[.string s2, .int .i64 p2, .bool c2] 23)) w.heap.size s p c) := ((Y0.out.step hb2).al (.cells #[.string s2, .int .i64 p2, .bool c2] 23))
  replace Y1 : Hid (BoxAt (w2.alloc (.cells #[.string s2, .int .i64 p2, .bool c2] 23)) w1.heap.size s2 p2 c2) := ((Y1.out.step hb2).al (.cells #[.string s2, .int .i64 p2, .bool c2] 23))
  have Y2 : Hid (BoxAt (w2.alloc (.cells #[.string s2, .int .i64 p2, .bool c2] 23)) w2.heap.size s2 p2 c2) := BoxAt.new w2 s2 p2 c2
  clear hb2
  go_wp2
  generalize (w2.alloc (.cells #[.string s2, .int .i64 p2, .bool c2] 23)) = W at *
  obtain ⟨_, x00, x01, x02⟩ := Y0.out
  obtain ⟨_, x10, x11, x12⟩ := Y1.out
  obtain ⟨_, x20, x21, x22⟩ := Y2.out
  generalize w1.heap.size = n1 at *
  generalize w2.heap.size = n2 at *
  go_region_held3 (fun w' => w'.cell? ⟨w.heap.size, 0, none⟩ = some (.string s) ∧ w'.cell? ⟨w.heap.size, 1, none⟩ = some (.int .i64 p) ∧ w'.cell? ⟨w.heap.size, 2, none⟩ = some (.bool c) ∧ w'.cell? ⟨n1, 0, none⟩ = some (.string s2) ∧ w'.cell? ⟨n1, 1, none⟩ = some (.int .i64 p2) ∧ w'.cell? ⟨n1, 2, none⟩ = some (.bool c2) ∧ w'.cell? ⟨n2, 0, none⟩ = some (.string s2) ∧ w'.cell? ⟨n2, 1, none⟩ = some (.int .i64 p2) ∧ w'.cell? ⟨n2, 2, none⟩ = some (.bool c2)) (simp [*, go_sem])
    (first
      | (go_at_call 6; refine (X1 _ (HP.out.step (B2.out.drew))).mono ?_; rintro x w3 ⟨rfl, hb⟩; have B3 : Hid (Below w.heap.size w w3) := (B2.out.drew).trans (hb.mono (B2.out.drew).size); have Z0 : Hid (BoxAt w3 w.heap.size s p c) := (Y0.out.step (Below.refl _ _).drew).step hb; have Z1 : Hid (BoxAt w3 n1 s2 p2 c2) := (Y1.out.step (Below.refl _ _).drew).step hb; have Z2 : Hid (BoxAt w3 n2 s2 p2 c2) := (Y2.out.step (Below.refl _ _).drew).step hb; clear hb; obtain ⟨_, z00, z01, z02⟩ := Z0.out; obtain ⟨_, z10, z11, z12⟩ := Z1.out; obtain ⟨_, z20, z21, z22⟩ := Z2.out)
      | (go_at_call 7; refine (X2 _).mono ?_; rintro x w4 ⟨rfl, hb⟩; have B4 : Hid (Below w.heap.size w w4) := B3.out.trans (hb.mono B3.out.size); have Q0 : Hid (BoxAt w4 w.heap.size s p c) := Z0.out.step hb; have Q1 : Hid (BoxAt w4 n1 s2 p2 c2) := Z1.out.step hb; have Q2 : Hid (BoxAt w4 n2 s2 p2 c2) := Z2.out.step hb; clear hb; obtain ⟨_, q00, q01, q02⟩ := Q0.out; obtain ⟨_, q10, q11, q12⟩ := Q1.out; obtain ⟨_, q20, q21, q22⟩ := Q2.out)
      | (go_at_call 8; refine (G _ (ErrT.below HE.out B4.out (ErrT.pos HE.out))).mono ?_; rintro x w5 ⟨rfl, hb⟩; have B5 : Hid (Below w.heap.size w w5) := B4.out.trans (hb.mono B4.out.size); have P0 : Hid (BoxAt w5 w.heap.size s p c) := Q0.out.step hb; have P1 : Hid (BoxAt w5 n1 s2 p2 c2) := Q1.out.step hb; have P2 : Hid (BoxAt w5 n2 s2 p2 c2) := Q2.out.step hb; clear hb; obtain ⟨_, p00, p01, p02⟩ := P0.out; obtain ⟨_, p10, p11, p12⟩ := P1.out; obtain ⟨_, p20, p21, p22⟩ := P2.out)
      | (go_at_call 9; refine (FS _).mono ?_; rintro x w6 ⟨rfl, hb⟩; have B6 : Hid (Below w.heap.size w w6) := B5.out.trans (hb.mono B5.out.size); have O0 : Hid (BoxAt w6 w.heap.size s p c) := P0.out.step hb; have O1 : Hid (BoxAt w6 n1 s2 p2 c2) := P1.out.step hb; have O2 : Hid (BoxAt w6 n2 s2 p2 c2) := P2.out.step hb; clear hb; obtain ⟨_, o00, o01, o02⟩ := O0.out; obtain ⟨_, o10, o11, o12⟩ := O1.out; obtain ⟨_, o20, o21, o22⟩ := O2.out))
  go_wp2
  go_ret
  exact ⟨rfl, B6.out⟩

end Go.Proofs.YtghbngjjdeameaaGreatDoor
