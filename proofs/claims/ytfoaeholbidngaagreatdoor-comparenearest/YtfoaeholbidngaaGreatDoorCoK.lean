/-
  The law CompareExact, by what the program's calls answer.
-/
import Derived.Test.YtfoaeholbidngaaGreatDoorCoH
import Derived.Test.YtfoaeholbidngaaGreatDoorCoG
namespace Go.Proofs.YtfoaeholbidngaaGreatDoor
open Go.RowKit

set_option maxRecDepth 100000 in
set_option maxHeartbeats 4000000 in
theorem exact_err {b z k : Int} (k0 : k ≠ 0) {w : World}
    (EX : ∀ W, Calls Tryz.prog 25 #[.int .u64 b, .int .i64 z] W fun e w' => e = .returned (.tuple #[dcV ⟨#[]⟩ 0 false, .int .i64 k]) ∧ Below W.heap.size W w')
    (WK : ∀ W, Below w.heap.size w W → Calls Tryz.prog 13 #[] W fun o w' => o = .returned (.bool true) ∧ Below W.heap.size W w') :
    Calls Tryz.prog 7 #[.int .u64 b, .int .i64 z] w fun o w' => o = .returned (.bool true) ∧ Below w.heap.size w w' := by
  have BO := fun W => bounds16_err (by rw [beq_eq_false_iff_ne]; exact k0) (w := W) EX
  unfold dcV at *
  go_enter Tryz.func7, Tryz.ntmps7
  go_wp2_with fail
  refine (EX _).mono ?_
  rintro o w1 ⟨rfl, b1⟩
  have H1 : Hid (Below w.heap.size w (w1.alloc (.cells #[.string ⟨#[]⟩, .int .i64 0, .bool false] 23))) := b1.alloc b1.size _
  clear b1
  go_wp2_with fail
  refine (BO _).mono ?_
  rintro o w2 ⟨rfl, b2⟩
  have H2 : Hid (Below w.heap.size w w2) := H1.out.trans (b2.mono H1.out.size)
  clear b2 H1
  go_wp2_with fail
  have H3 : Hid (Below w.heap.size w ((w2.alloc (.cells #[.string ⟨#[]⟩, .int .i64 0, .bool false] 23)).alloc (.cells #[.string ⟨#[]⟩, .int .i64 0, .bool false] 23))) := (H2.out.alloc H2.out.size _).alloc (H2.out.alloc H2.out.size _).size _
  refine (WK _ H3.out).mono ?_
  rintro o wz ⟨rfl, bz⟩
  have Bz : Hid (Below w.heap.size w wz) := H3.out.trans (bz.mono H3.out.size)
  clear bz
  go_wp2
  go_ret
  exact ⟨rfl, Bz.out⟩
set_option maxRecDepth 100000 in
set_option maxHeartbeats 4000000 in
theorem exact_sgn {z : Int} {b m : Nat} (nb : m ≠ b) {c : Bool} {X XL XH : ByteArray → Int → Prop} {w : World}
    (EX : ∀ W, Calls Tryz.prog 25 #[.int .u64 (b : Int), .int .i64 z] W fun e w' => ∃ u P, e = .returned (.tuple #[dcV u P false, .int .i64 0]) ∧ X u P ∧ Below W.heap.size W w')
    (BO : ∀ W, Calls Tryz.prog 26 #[.int .u64 (b : Int), .int .i64 z] W fun e w' => ∃ u P u' P', e = .returned (.tuple #[dcV u P false, dcV u' P' false, .bool c, .int .i64 0]) ∧ XL u P ∧ XH u' P' ∧ Below W.heap.size W w')
    (MG : ∀ W, Calls Tryz.prog 27 #[.int .u64 (b : Int), .int .i64 z] W fun e w' => e = .returned (.int .u64 (m : Int)) ∧ w' = W)
    (WK : ∀ W, Below w.heap.size w W → Calls Tryz.prog 13 #[] W fun o w' => o = .returned (.bool true) ∧ Below W.heap.size W w') :
    Calls Tryz.prog 7 #[.int .u64 (b : Int), .int .i64 z] w fun o w' => o = .returned (.bool true) ∧ Below w.heap.size w w' := by
  unfold dcV at *
  go_enter Tryz.func7, Tryz.ntmps7
  go_wp2_with fail
  refine (EX _).mono ?_
  rintro o w1 ⟨u, P, rfl, hx, b1⟩
  have HX : Hid (X u P) := hx
  have H1 : Hid (DcB (w1.alloc (.cells #[.string u, .int .i64 P, .bool false] 23)) w1.heap.size (.string u) (.int .i64 P) (.bool false) ∧ Below w.heap.size w (w1.alloc (.cells #[.string u, .int .i64 P, .bool false] 23))) := ⟨DcB.new w1 _ _ _ _, b1.alloc b1.size _⟩
  clear b1 hx EX
  go_wp2_with fail
  refine (BO _).mono ?_
  rintro o w2 ⟨ul, Pl, uh, Ph, rfl, hl, hh, b2⟩
  have HL : Hid (XL ul Pl) := hl
  have HH : Hid (XH uh Ph) := hh
  have H2 : Hid (DcB ((w2.alloc (.cells #[.string ul, .int .i64 Pl, .bool false] 23)).alloc (.cells #[.string uh, .int .i64 Ph, .bool false] 23)) w1.heap.size (.string u) (.int .i64 P) (.bool false) ∧ DcB ((w2.alloc (.cells #[.string ul, .int .i64 Pl, .bool false] 23)).alloc (.cells #[.string uh, .int .i64 Ph, .bool false] 23)) w2.heap.size (.string ul) (.int .i64 Pl) (.bool false) ∧ DcB ((w2.alloc (.cells #[.string ul, .int .i64 Pl, .bool false] 23)).alloc (.cells #[.string uh, .int .i64 Ph, .bool false] 23)) (w2.heap.size + 1) (.string uh) (.int .i64 Ph) (.bool false) ∧ Below w.heap.size w ((w2.alloc (.cells #[.string ul, .int .i64 Pl, .bool false] 23)).alloc (.cells #[.string uh, .int .i64 Ph, .bool false] 23))) := by
    have q2 : Below w.heap.size w w2 := H1.out.2.trans (b2.mono H1.out.2.size)
    refine ⟨((H1.out.1.step b2).al _).al _, (DcB.new w2 _ _ _ _).al _, ?_, (q2.alloc q2.size _).alloc (q2.alloc q2.size _).size _⟩
    have q := DcB.new (w2.alloc (.cells #[.string ul, .int .i64 Pl, .bool false] 23)) (.string uh) (.int .i64 Ph) (.bool false) 23
    simpa using q
  clear b2 H1 BO hh hl
  go_wp2_with fail
  refine (MG _).mono ?_
  rintro o w3 ⟨rfl, rfl⟩
  clear MG
  have i1 : ((m : Int) == (b : Int)) = false := by rw [beq_eq_false_iff_ne]; omega
  go_wp2_with fail
  all_goals first | (exfalso; omega) | skip
  refine (WK _ H2.out.2.2.2).mono ?_
  rintro o wz ⟨rfl, bz⟩
  have Bz : Hid (Below w.heap.size w wz) := H2.out.2.2.2.trans (bz.mono H2.out.2.2.2.size)
  clear bz
  go_wp2
  go_ret
  exact ⟨rfl, Bz.out⟩
set_option maxRecDepth 100000 in
set_option maxHeartbeats 4000000 in
theorem exact_zero {z : Int} {g n f T : Nat} {L : Int} (hz : Fz z g n f T L) {X XH : ByteArray → Int → Prop} {w : World}
    (EX : ∀ W, Calls Tryz.prog 25 #[.int .u64 0, .int .i64 z] W fun e w' => ∃ u P, e = .returned (.tuple #[dcV u P false, .int .i64 0]) ∧ X u P ∧ Below W.heap.size W w')
    (BO : ∀ W, Calls Tryz.prog 26 #[.int .u64 0, .int .i64 z] W fun e w' => ∃ u P u' P', e = .returned (.tuple #[dcV u P false, dcV u' P' false, .bool true, .int .i64 0]) ∧ (u = ⟨#[]⟩ ∧ P = 0) ∧ XH u' P' ∧ Below W.heap.size W w')
    (P1 : ∀ u P, X u P → NoM w 14 #[dcV u P false, .int .i64 z] (.tuple #[.int .u64 0, .nilIface]))
    (P2 : ∀ u P, X u P → NoM w 8 #[dcV u P false, .int .u64 0, .int .i64 z] (.tuple #[.int .i64 0, .nilIface]))
    (P3 : ∀ u P, XH u P → NoM w 10 #[dcV u P false, .int .u64 0, .int .i64 z] (.tuple #[.int .i64 0, .nilIface]))
    (P4 : ∀ u P, XH u P → NoM w 14 #[dcV u P false, .int .i64 z] (.tuple #[.int .u64 0, .nilIface]))
    (WK : ∀ W, Below w.heap.size w W → Calls Tryz.prog 13 #[] W fun o w' => o = .returned (.bool true) ∧ Below W.heap.size W w') :
    Calls Tryz.prog 7 #[.int .u64 0, .int .i64 z] w fun o w' => o = .returned (.bool true) ∧ Below w.heap.size w w' := by
  obtain ⟨en, hg, h2, g0⟩ := fz_parts hz
  have n0 : 0 < n := by rcases hz with ⟨_, _, rfl, _⟩ | ⟨_, _, rfl, _⟩ <;> decide
  have MG := fun W => rmag_z hz (b := 0) (by omega) W
  rw [mg_self (by omega)] at MG
  have IN := fun W => rinf_z hz W
  rw [← en] at IN
  have NK := fun W => num_nilC W
  have hn : n < 9223372036854775808 := by omega
  simp only [Int.cast_ofNat_Int] at MG
  have i2 : ((0 : Int) == (n : Int)) = false := by rw [beq_eq_false_iff_ne]; omega
  clear hz en hg h2 g0 n0
  unfold NoM dcV at *
  simp only [Array.push, List.concat_eq_append, List.cons_append, List.nil_append] at P1 P2 P3 P4
  go_enter Tryz.func7, Tryz.ntmps7
  go_wp2_with fail
  refine (EX _).mono ?_
  rintro o w1 ⟨u, P, rfl, hx, b1⟩
  have HX : Hid (X u P) := hx
  have H1 : Hid (DcB (w1.alloc (.cells #[.string u, .int .i64 P, .bool false] 23)) w1.heap.size (.string u) (.int .i64 P) (.bool false) ∧ Below w.heap.size w (w1.alloc (.cells #[.string u, .int .i64 P, .bool false] 23))) := ⟨DcB.new w1 _ _ _ _, b1.alloc b1.size _⟩
  clear b1 hx EX
  go_wp2_with fail
  refine (BO _).mono ?_
  rintro o w2 ⟨_, _, uh, Ph, rfl, ⟨rfl, rfl⟩, hh, b2⟩
  have HH : Hid (XH uh Ph) := hh
  have H2 : Hid (DcB ((w2.alloc (.cells #[.string ⟨#[]⟩, .int .i64 0, .bool false] 23)).alloc (.cells #[.string uh, .int .i64 Ph, .bool false] 23)) w1.heap.size (.string u) (.int .i64 P) (.bool false) ∧ DcB ((w2.alloc (.cells #[.string ⟨#[]⟩, .int .i64 0, .bool false] 23)).alloc (.cells #[.string uh, .int .i64 Ph, .bool false] 23)) w2.heap.size (.string ⟨#[]⟩) (.int .i64 0) (.bool false) ∧ DcB ((w2.alloc (.cells #[.string ⟨#[]⟩, .int .i64 0, .bool false] 23)).alloc (.cells #[.string uh, .int .i64 Ph, .bool false] 23)) (w2.heap.size + 1) (.string uh) (.int .i64 Ph) (.bool false) ∧ Below w.heap.size w ((w2.alloc (.cells #[.string ⟨#[]⟩, .int .i64 0, .bool false] 23)).alloc (.cells #[.string uh, .int .i64 Ph, .bool false] 23))) := by
    have q2 : Below w.heap.size w w2 := H1.out.2.trans (b2.mono H1.out.2.size)
    refine ⟨((H1.out.1.step b2).al _).al _, (DcB.new w2 _ _ _ _).al _, ?_, (q2.alloc q2.size _).alloc (q2.alloc q2.size _).size _⟩
    have q := DcB.new (w2.alloc (.cells #[.string ⟨#[]⟩, .int .i64 0, .bool false] 23)) (.string uh) (.int .i64 Ph) (.bool false) 23
    simpa using q
  clear b2 H1 BO hh
  go_wp2_with fail
  refine (MG _).mono ?_
  rintro o w3 ⟨rfl, rfl⟩
  clear MG
  obtain ⟨_, a0, a1, a2, _, _, _⟩ := H2.out.1
  go_wp2_with fail
  all_goals first | (exfalso; omega) | skip
  refine (P1 _ _ HX.out _ H2.out.2.2.2).mono ?_
  rintro o v3 ⟨rfl, b3⟩
  have H3 : Hid (DcB v3 w1.heap.size (.string u) (.int .i64 P) (.bool false) ∧ DcB v3 w2.heap.size (.string ⟨#[]⟩) (.int .i64 0) (.bool false) ∧ DcB v3 (w2.heap.size + 1) (.string uh) (.int .i64 Ph) (.bool false) ∧ Below w.heap.size w v3) := ⟨H2.out.1.step b3, H2.out.2.1.step b3, H2.out.2.2.1.step b3, H2.out.2.2.2.trans (b3.mono H2.out.2.2.2.size)⟩
  clear b3 a0 a1 a2 H2
  obtain ⟨_, a0, a1, a2, _, _, _⟩ := H3.out.1
  go_wp2_with fail
  all_goals first | (exfalso; omega) | skip
  refine (P2 _ _ HX.out _ H3.out.2.2.2).mono ?_
  rintro o v4 ⟨rfl, b4⟩
  have H4 : Hid (DcB v4 w1.heap.size (.string u) (.int .i64 P) (.bool false) ∧ DcB v4 w2.heap.size (.string ⟨#[]⟩) (.int .i64 0) (.bool false) ∧ DcB v4 (w2.heap.size + 1) (.string uh) (.int .i64 Ph) (.bool false) ∧ Below w.heap.size w v4) := ⟨H3.out.1.step b4, H3.out.2.1.step b4, H3.out.2.2.1.step b4, H3.out.2.2.2.trans (b4.mono H3.out.2.2.2.size)⟩
  clear b4 a0 a1 a2 H3
  obtain ⟨_, a0, a1, a2, _, _, _⟩ := H4.out.2.2.1
  go_wp2_with fail
  all_goals first | (exfalso; omega) | skip
  refine (P3 _ _ HH.out _ H4.out.2.2.2).mono ?_
  rintro o v5 ⟨rfl, b5⟩
  have H5 : Hid (DcB v5 w1.heap.size (.string u) (.int .i64 P) (.bool false) ∧ DcB v5 w2.heap.size (.string ⟨#[]⟩) (.int .i64 0) (.bool false) ∧ DcB v5 (w2.heap.size + 1) (.string uh) (.int .i64 Ph) (.bool false) ∧ Below w.heap.size w v5) := ⟨H4.out.1.step b5, H4.out.2.1.step b5, H4.out.2.2.1.step b5, H4.out.2.2.2.trans (b5.mono H4.out.2.2.2.size)⟩
  clear b5 a0 a1 a2 H4
  obtain ⟨_, a0, a1, a2, _, _, _⟩ := H5.out.2.2.1
  go_wp2_with fail
  all_goals first | (exfalso; omega) | skip
  refine (P4 _ _ HH.out _ H5.out.2.2.2).mono ?_
  rintro o v6 ⟨rfl, b6⟩
  have H6 : Hid (DcB v6 w1.heap.size (.string u) (.int .i64 P) (.bool false) ∧ DcB v6 w2.heap.size (.string ⟨#[]⟩) (.int .i64 0) (.bool false) ∧ DcB v6 (w2.heap.size + 1) (.string uh) (.int .i64 Ph) (.bool false) ∧ Below w.heap.size w v6) := ⟨H5.out.1.step b6, H5.out.2.1.step b6, H5.out.2.2.1.step b6, H5.out.2.2.2.trans (b6.mono H5.out.2.2.2.size)⟩
  clear b6 a0 a1 a2 H5
  go_wp2_with fail
  all_goals first | (exfalso; omega) | skip
  refine (NK _).mono ?_
  rintro o v6 ⟨rfl, rfl⟩
  go_wp2_with fail
  refine (IN _).mono ?_
  rintro o v6 ⟨rfl, rfl⟩
  obtain ⟨_, a0, a1, a2, _, _, _⟩ := H6.out.2.1
  go_wp2_with fail
  all_goals first | (exfalso; omega) | skip
  refine (WK _ H6.out.2.2.2).mono ?_
  rintro o wz ⟨rfl, bz⟩
  have Bz : Hid (Below w.heap.size w wz) := H6.out.2.2.2.trans (bz.mono H6.out.2.2.2.size)
  clear bz
  go_wp2
  go_ret
  exact ⟨rfl, Bz.out⟩
set_option maxRecDepth 100000 in
set_option maxHeartbeats 4000000 in
theorem exact_even {z : Int} {g n f T : Nat} {L : Int} (hz : Fz z g n f T L) {b : Nat} (b0 : b ≠ 0) (hb : b < n) {X XL XH : ByteArray → Int → Prop} {w : World}
    (EX : ∀ W, Calls Tryz.prog 25 #[.int .u64 (b : Int), .int .i64 z] W fun e w' => ∃ u P, e = .returned (.tuple #[dcV u P false, .int .i64 0]) ∧ X u P ∧ Below W.heap.size W w')
    (BO : ∀ W, Calls Tryz.prog 26 #[.int .u64 (b : Int), .int .i64 z] W fun e w' => ∃ u P u' P', e = .returned (.tuple #[dcV u P false, dcV u' P' false, .bool true, .int .i64 0]) ∧ XL u P ∧ XH u' P' ∧ Below W.heap.size W w')
    (P1 : ∀ u P, X u P → NoM w 14 #[dcV u P false, .int .i64 z] (.tuple #[.int .u64 (b : Int), .nilIface]))
    (P2 : ∀ u P, X u P → NoM w 8 #[dcV u P false, .int .u64 (b : Int), .int .i64 z] (.tuple #[.int .i64 0, .nilIface]))
    (P3 : ∀ u P, XH u P → NoM w 10 #[dcV u P false, .int .u64 (b : Int), .int .i64 z] (.tuple #[.int .i64 0, .nilIface]))
    (P4 : ∀ u P, XH u P → NoM w 14 #[dcV u P false, .int .i64 z] (.tuple #[.int .u64 (b : Int), .nilIface]))
    (P5 : ∀ u P, XL u P → NoM w 10 #[dcV u P false, .int .u64 ((b : Int) - 1), .int .i64 z] (.tuple #[.int .i64 0, .nilIface]))
    (P6 : ∀ u P, XL u P → NoM w 14 #[dcV u P false, .int .i64 z] (.tuple #[.int .u64 (b : Int), .nilIface]))
    (WK : ∀ W, Below w.heap.size w W → Calls Tryz.prog 13 #[] W fun o w' => o = .returned (.bool true) ∧ Below W.heap.size W w') :
    Calls Tryz.prog 7 #[.int .u64 (b : Int), .int .i64 z] w fun o w' => o = .returned (.bool true) ∧ Below w.heap.size w w' := by
  obtain ⟨en, hg, h2, g0⟩ := fz_parts hz
  have n0 : 0 < n := by rcases hz with ⟨_, _, rfl, _⟩ | ⟨_, _, rfl, _⟩ <;> decide
  have MG := fun W => rmag_z hz (b := b) (by omega) W
  rw [mg_self (by omega)] at MG
  have IN := fun W => rinf_z hz W
  rw [← en] at IN
  have NK := fun W => num_nilC W
  have hn : n < 9223372036854775808 := by omega
  have i1 : ((b : Int) == 0) = false := by rw [beq_eq_false_iff_ne]; omega
  have i2 : ((b : Int) == (n : Int)) = false := by rw [beq_eq_false_iff_ne]; omega
  have i3 : 0 < (b : Int) := by omega
  have i4 : b < 9223372036854775807 := by omega
  clear hz en hg h2 g0 n0 hb b0
  unfold NoM dcV at *
  simp only [Array.push, List.concat_eq_append, List.cons_append, List.nil_append] at P1 P2 P3 P4 P5 P6
  go_enter Tryz.func7, Tryz.ntmps7
  go_wp2_with fail
  refine (EX _).mono ?_
  rintro o w1 ⟨u, P, rfl, hx, b1⟩
  have HX : Hid (X u P) := hx
  have H1 : Hid (DcB (w1.alloc (.cells #[.string u, .int .i64 P, .bool false] 23)) w1.heap.size (.string u) (.int .i64 P) (.bool false) ∧ Below w.heap.size w (w1.alloc (.cells #[.string u, .int .i64 P, .bool false] 23))) := ⟨DcB.new w1 _ _ _ _, b1.alloc b1.size _⟩
  clear b1 hx EX
  go_wp2_with fail
  refine (BO _).mono ?_
  rintro o w2 ⟨ul, Pl, uh, Ph, rfl, hl, hh, b2⟩
  have HL : Hid (XL ul Pl) := hl
  have HH : Hid (XH uh Ph) := hh
  have H2 : Hid (DcB ((w2.alloc (.cells #[.string ul, .int .i64 Pl, .bool false] 23)).alloc (.cells #[.string uh, .int .i64 Ph, .bool false] 23)) w1.heap.size (.string u) (.int .i64 P) (.bool false) ∧ DcB ((w2.alloc (.cells #[.string ul, .int .i64 Pl, .bool false] 23)).alloc (.cells #[.string uh, .int .i64 Ph, .bool false] 23)) w2.heap.size (.string ul) (.int .i64 Pl) (.bool false) ∧ DcB ((w2.alloc (.cells #[.string ul, .int .i64 Pl, .bool false] 23)).alloc (.cells #[.string uh, .int .i64 Ph, .bool false] 23)) (w2.heap.size + 1) (.string uh) (.int .i64 Ph) (.bool false) ∧ Below w.heap.size w ((w2.alloc (.cells #[.string ul, .int .i64 Pl, .bool false] 23)).alloc (.cells #[.string uh, .int .i64 Ph, .bool false] 23))) := by
    have q2 : Below w.heap.size w w2 := H1.out.2.trans (b2.mono H1.out.2.size)
    refine ⟨((H1.out.1.step b2).al _).al _, (DcB.new w2 _ _ _ _).al _, ?_, (q2.alloc q2.size _).alloc (q2.alloc q2.size _).size _⟩
    have q := DcB.new (w2.alloc (.cells #[.string ul, .int .i64 Pl, .bool false] 23)) (.string uh) (.int .i64 Ph) (.bool false) 23
    simpa using q
  clear b2 H1 BO hh hl
  go_wp2_with fail
  refine (MG _).mono ?_
  rintro o w3 ⟨rfl, rfl⟩
  clear MG
  obtain ⟨_, a0, a1, a2, _, _, _⟩ := H2.out.1
  go_wp2_with fail
  all_goals first | (exfalso; omega) | skip
  refine (P1 _ _ HX.out _ H2.out.2.2.2).mono ?_
  rintro o v3 ⟨rfl, b3⟩
  have H3 : Hid (DcB v3 w1.heap.size (.string u) (.int .i64 P) (.bool false) ∧ DcB v3 w2.heap.size (.string ul) (.int .i64 Pl) (.bool false) ∧ DcB v3 (w2.heap.size + 1) (.string uh) (.int .i64 Ph) (.bool false) ∧ Below w.heap.size w v3) := ⟨H2.out.1.step b3, H2.out.2.1.step b3, H2.out.2.2.1.step b3, H2.out.2.2.2.trans (b3.mono H2.out.2.2.2.size)⟩
  clear b3 a0 a1 a2 H2
  obtain ⟨_, a0, a1, a2, _, _, _⟩ := H3.out.1
  go_wp2_with fail
  all_goals first | (exfalso; omega) | skip
  refine (P2 _ _ HX.out _ H3.out.2.2.2).mono ?_
  rintro o v4 ⟨rfl, b4⟩
  have H4 : Hid (DcB v4 w1.heap.size (.string u) (.int .i64 P) (.bool false) ∧ DcB v4 w2.heap.size (.string ul) (.int .i64 Pl) (.bool false) ∧ DcB v4 (w2.heap.size + 1) (.string uh) (.int .i64 Ph) (.bool false) ∧ Below w.heap.size w v4) := ⟨H3.out.1.step b4, H3.out.2.1.step b4, H3.out.2.2.1.step b4, H3.out.2.2.2.trans (b4.mono H3.out.2.2.2.size)⟩
  clear b4 a0 a1 a2 H3
  obtain ⟨_, a0, a1, a2, _, _, _⟩ := H4.out.2.2.1
  go_wp2_with fail
  all_goals first | (exfalso; omega) | skip
  refine (P3 _ _ HH.out _ H4.out.2.2.2).mono ?_
  rintro o v5 ⟨rfl, b5⟩
  have H5 : Hid (DcB v5 w1.heap.size (.string u) (.int .i64 P) (.bool false) ∧ DcB v5 w2.heap.size (.string ul) (.int .i64 Pl) (.bool false) ∧ DcB v5 (w2.heap.size + 1) (.string uh) (.int .i64 Ph) (.bool false) ∧ Below w.heap.size w v5) := ⟨H4.out.1.step b5, H4.out.2.1.step b5, H4.out.2.2.1.step b5, H4.out.2.2.2.trans (b5.mono H4.out.2.2.2.size)⟩
  clear b5 a0 a1 a2 H4
  obtain ⟨_, a0, a1, a2, _, _, _⟩ := H5.out.2.2.1
  go_wp2_with fail
  all_goals first | (exfalso; omega) | skip
  refine (P4 _ _ HH.out _ H5.out.2.2.2).mono ?_
  rintro o v6 ⟨rfl, b6⟩
  have H6 : Hid (DcB v6 w1.heap.size (.string u) (.int .i64 P) (.bool false) ∧ DcB v6 w2.heap.size (.string ul) (.int .i64 Pl) (.bool false) ∧ DcB v6 (w2.heap.size + 1) (.string uh) (.int .i64 Ph) (.bool false) ∧ Below w.heap.size w v6) := ⟨H5.out.1.step b6, H5.out.2.1.step b6, H5.out.2.2.1.step b6, H5.out.2.2.2.trans (b6.mono H5.out.2.2.2.size)⟩
  clear b6 a0 a1 a2 H5
  go_wp2_with fail
  all_goals first | (exfalso; omega) | skip
  refine (NK _).mono ?_
  rintro o v6 ⟨rfl, rfl⟩
  go_wp2_with fail
  refine (IN _).mono ?_
  rintro o v6 ⟨rfl, rfl⟩
  obtain ⟨_, a0, a1, a2, _, _, _⟩ := H6.out.2.1
  go_wp2_with fail
  all_goals first | (exfalso; omega) | skip
  refine (P5 _ _ HL.out _ H6.out.2.2.2).mono ?_
  rintro o v7 ⟨rfl, b7⟩
  have H7 : Hid (DcB v7 w1.heap.size (.string u) (.int .i64 P) (.bool false) ∧ DcB v7 w2.heap.size (.string ul) (.int .i64 Pl) (.bool false) ∧ DcB v7 (w2.heap.size + 1) (.string uh) (.int .i64 Ph) (.bool false) ∧ Below w.heap.size w v7) := ⟨H6.out.1.step b7, H6.out.2.1.step b7, H6.out.2.2.1.step b7, H6.out.2.2.2.trans (b7.mono H6.out.2.2.2.size)⟩
  clear b7 a0 a1 a2 H6
  obtain ⟨_, a0, a1, a2, _, _, _⟩ := H7.out.2.1
  go_wp2_with fail
  all_goals first | (exfalso; omega) | skip
  refine (P6 _ _ HL.out _ H7.out.2.2.2).mono ?_
  rintro o v8 ⟨rfl, b8⟩
  have H8 : Hid (DcB v8 w1.heap.size (.string u) (.int .i64 P) (.bool false) ∧ DcB v8 w2.heap.size (.string ul) (.int .i64 Pl) (.bool false) ∧ DcB v8 (w2.heap.size + 1) (.string uh) (.int .i64 Ph) (.bool false) ∧ Below w.heap.size w v8) := ⟨H7.out.1.step b8, H7.out.2.1.step b8, H7.out.2.2.1.step b8, H7.out.2.2.2.trans (b8.mono H7.out.2.2.2.size)⟩
  clear b8 a0 a1 a2 H7
  go_wp2_with fail
  all_goals first | (exfalso; omega) | skip
  refine (WK _ H8.out.2.2.2).mono ?_
  rintro o wz ⟨rfl, bz⟩
  have Bz : Hid (Below w.heap.size w wz) := H8.out.2.2.2.trans (bz.mono H8.out.2.2.2.size)
  clear bz
  go_wp2
  go_ret
  exact ⟨rfl, Bz.out⟩
set_option maxRecDepth 100000 in
set_option maxHeartbeats 4000000 in
theorem exact_odd {z : Int} {g n f T : Nat} {L : Int} (hz : Fz z g n f T L) {b : Nat} (b0 : b ≠ 0) (hb : b + 1 < n) {X XL XH : ByteArray → Int → Prop} {w : World}
    (EX : ∀ W, Calls Tryz.prog 25 #[.int .u64 (b : Int), .int .i64 z] W fun e w' => ∃ u P, e = .returned (.tuple #[dcV u P false, .int .i64 0]) ∧ X u P ∧ Below W.heap.size W w')
    (BO : ∀ W, Calls Tryz.prog 26 #[.int .u64 (b : Int), .int .i64 z] W fun e w' => ∃ u P u' P', e = .returned (.tuple #[dcV u P false, dcV u' P' false, .bool false, .int .i64 0]) ∧ XL u P ∧ XH u' P' ∧ Below W.heap.size W w')
    (P1 : ∀ u P, X u P → NoM w 14 #[dcV u P false, .int .i64 z] (.tuple #[.int .u64 (b : Int), .nilIface]))
    (P2 : ∀ u P, X u P → NoM w 8 #[dcV u P false, .int .u64 (b : Int), .int .i64 z] (.tuple #[.int .i64 0, .nilIface]))
    (P3 : ∀ u P, XH u P → NoM w 10 #[dcV u P false, .int .u64 (b : Int), .int .i64 z] (.tuple #[.int .i64 0, .nilIface]))
    (P4 : ∀ u P, XH u P → NoM w 14 #[dcV u P false, .int .i64 z] (.tuple #[.int .u64 ((b : Int) + 1), .nilIface]))
    (P5 : ∀ u P, XL u P → NoM w 10 #[dcV u P false, .int .u64 ((b : Int) - 1), .int .i64 z] (.tuple #[.int .i64 0, .nilIface]))
    (P6 : ∀ u P, XL u P → NoM w 14 #[dcV u P false, .int .i64 z] (.tuple #[.int .u64 ((b : Int) - 1), .nilIface]))
    (WK : ∀ W, Below w.heap.size w W → Calls Tryz.prog 13 #[] W fun o w' => o = .returned (.bool true) ∧ Below W.heap.size W w') :
    Calls Tryz.prog 7 #[.int .u64 (b : Int), .int .i64 z] w fun o w' => o = .returned (.bool true) ∧ Below w.heap.size w w' := by
  obtain ⟨en, hg, h2, g0⟩ := fz_parts hz
  have n0 : 0 < n := by rcases hz with ⟨_, _, rfl, _⟩ | ⟨_, _, rfl, _⟩ <;> decide
  have MG := fun W => rmag_z hz (b := b) (by omega) W
  rw [mg_self (by omega)] at MG
  have IN := fun W => rinf_z hz W
  rw [← en] at IN
  have NK := fun W => num_nilC W
  have hn : n < 9223372036854775808 := by omega
  have i1 : ((b : Int) == 0) = false := by rw [beq_eq_false_iff_ne]; omega
  have i2 : ((b : Int) + 1 == (n : Int)) = false := by rw [beq_eq_false_iff_ne]; omega
  have i3 : 0 < (b : Int) := by omega
  have i4 : b < 9223372036854775807 := by omega
  have i5 : ((b : Int) + 1 == (b : Int)) = false := by rw [beq_eq_false_iff_ne]; omega
  have i6 : ((b : Int) - 1 == (b : Int)) = false := by rw [beq_eq_false_iff_ne]; omega
  clear hz en hg h2 g0 n0 hb b0
  unfold NoM dcV at *
  simp only [Array.push, List.concat_eq_append, List.cons_append, List.nil_append] at P1 P2 P3 P4 P5 P6
  go_enter Tryz.func7, Tryz.ntmps7
  go_wp2_with fail
  refine (EX _).mono ?_
  rintro o w1 ⟨u, P, rfl, hx, b1⟩
  have HX : Hid (X u P) := hx
  have H1 : Hid (DcB (w1.alloc (.cells #[.string u, .int .i64 P, .bool false] 23)) w1.heap.size (.string u) (.int .i64 P) (.bool false) ∧ Below w.heap.size w (w1.alloc (.cells #[.string u, .int .i64 P, .bool false] 23))) := ⟨DcB.new w1 _ _ _ _, b1.alloc b1.size _⟩
  clear b1 hx EX
  go_wp2_with fail
  refine (BO _).mono ?_
  rintro o w2 ⟨ul, Pl, uh, Ph, rfl, hl, hh, b2⟩
  have HL : Hid (XL ul Pl) := hl
  have HH : Hid (XH uh Ph) := hh
  have H2 : Hid (DcB ((w2.alloc (.cells #[.string ul, .int .i64 Pl, .bool false] 23)).alloc (.cells #[.string uh, .int .i64 Ph, .bool false] 23)) w1.heap.size (.string u) (.int .i64 P) (.bool false) ∧ DcB ((w2.alloc (.cells #[.string ul, .int .i64 Pl, .bool false] 23)).alloc (.cells #[.string uh, .int .i64 Ph, .bool false] 23)) w2.heap.size (.string ul) (.int .i64 Pl) (.bool false) ∧ DcB ((w2.alloc (.cells #[.string ul, .int .i64 Pl, .bool false] 23)).alloc (.cells #[.string uh, .int .i64 Ph, .bool false] 23)) (w2.heap.size + 1) (.string uh) (.int .i64 Ph) (.bool false) ∧ Below w.heap.size w ((w2.alloc (.cells #[.string ul, .int .i64 Pl, .bool false] 23)).alloc (.cells #[.string uh, .int .i64 Ph, .bool false] 23))) := by
    have q2 : Below w.heap.size w w2 := H1.out.2.trans (b2.mono H1.out.2.size)
    refine ⟨((H1.out.1.step b2).al _).al _, (DcB.new w2 _ _ _ _).al _, ?_, (q2.alloc q2.size _).alloc (q2.alloc q2.size _).size _⟩
    have q := DcB.new (w2.alloc (.cells #[.string ul, .int .i64 Pl, .bool false] 23)) (.string uh) (.int .i64 Ph) (.bool false) 23
    simpa using q
  clear b2 H1 BO hh hl
  go_wp2_with fail
  refine (MG _).mono ?_
  rintro o w3 ⟨rfl, rfl⟩
  clear MG
  obtain ⟨_, a0, a1, a2, _, _, _⟩ := H2.out.1
  go_wp2_with fail
  all_goals first | (exfalso; omega) | skip
  refine (P1 _ _ HX.out _ H2.out.2.2.2).mono ?_
  rintro o v3 ⟨rfl, b3⟩
  have H3 : Hid (DcB v3 w1.heap.size (.string u) (.int .i64 P) (.bool false) ∧ DcB v3 w2.heap.size (.string ul) (.int .i64 Pl) (.bool false) ∧ DcB v3 (w2.heap.size + 1) (.string uh) (.int .i64 Ph) (.bool false) ∧ Below w.heap.size w v3) := ⟨H2.out.1.step b3, H2.out.2.1.step b3, H2.out.2.2.1.step b3, H2.out.2.2.2.trans (b3.mono H2.out.2.2.2.size)⟩
  clear b3 a0 a1 a2 H2
  obtain ⟨_, a0, a1, a2, _, _, _⟩ := H3.out.1
  go_wp2_with fail
  all_goals first | (exfalso; omega) | skip
  refine (P2 _ _ HX.out _ H3.out.2.2.2).mono ?_
  rintro o v4 ⟨rfl, b4⟩
  have H4 : Hid (DcB v4 w1.heap.size (.string u) (.int .i64 P) (.bool false) ∧ DcB v4 w2.heap.size (.string ul) (.int .i64 Pl) (.bool false) ∧ DcB v4 (w2.heap.size + 1) (.string uh) (.int .i64 Ph) (.bool false) ∧ Below w.heap.size w v4) := ⟨H3.out.1.step b4, H3.out.2.1.step b4, H3.out.2.2.1.step b4, H3.out.2.2.2.trans (b4.mono H3.out.2.2.2.size)⟩
  clear b4 a0 a1 a2 H3
  obtain ⟨_, a0, a1, a2, _, _, _⟩ := H4.out.2.2.1
  go_wp2_with fail
  all_goals first | (exfalso; omega) | skip
  refine (P3 _ _ HH.out _ H4.out.2.2.2).mono ?_
  rintro o v5 ⟨rfl, b5⟩
  have H5 : Hid (DcB v5 w1.heap.size (.string u) (.int .i64 P) (.bool false) ∧ DcB v5 w2.heap.size (.string ul) (.int .i64 Pl) (.bool false) ∧ DcB v5 (w2.heap.size + 1) (.string uh) (.int .i64 Ph) (.bool false) ∧ Below w.heap.size w v5) := ⟨H4.out.1.step b5, H4.out.2.1.step b5, H4.out.2.2.1.step b5, H4.out.2.2.2.trans (b5.mono H4.out.2.2.2.size)⟩
  clear b5 a0 a1 a2 H4
  obtain ⟨_, a0, a1, a2, _, _, _⟩ := H5.out.2.2.1
  go_wp2_with fail
  all_goals first | (exfalso; omega) | skip
  refine (P4 _ _ HH.out _ H5.out.2.2.2).mono ?_
  rintro o v6 ⟨rfl, b6⟩
  have H6 : Hid (DcB v6 w1.heap.size (.string u) (.int .i64 P) (.bool false) ∧ DcB v6 w2.heap.size (.string ul) (.int .i64 Pl) (.bool false) ∧ DcB v6 (w2.heap.size + 1) (.string uh) (.int .i64 Ph) (.bool false) ∧ Below w.heap.size w v6) := ⟨H5.out.1.step b6, H5.out.2.1.step b6, H5.out.2.2.1.step b6, H5.out.2.2.2.trans (b6.mono H5.out.2.2.2.size)⟩
  clear b6 a0 a1 a2 H5
  go_wp2_with fail
  all_goals first | (exfalso; omega) | skip
  refine (NK _).mono ?_
  rintro o v6 ⟨rfl, rfl⟩
  go_wp2_with fail
  refine (IN _).mono ?_
  rintro o v6 ⟨rfl, rfl⟩
  obtain ⟨_, a0, a1, a2, _, _, _⟩ := H6.out.2.1
  go_wp2_with fail
  all_goals first | (exfalso; omega) | skip
  refine (P5 _ _ HL.out _ H6.out.2.2.2).mono ?_
  rintro o v7 ⟨rfl, b7⟩
  have H7 : Hid (DcB v7 w1.heap.size (.string u) (.int .i64 P) (.bool false) ∧ DcB v7 w2.heap.size (.string ul) (.int .i64 Pl) (.bool false) ∧ DcB v7 (w2.heap.size + 1) (.string uh) (.int .i64 Ph) (.bool false) ∧ Below w.heap.size w v7) := ⟨H6.out.1.step b7, H6.out.2.1.step b7, H6.out.2.2.1.step b7, H6.out.2.2.2.trans (b7.mono H6.out.2.2.2.size)⟩
  clear b7 a0 a1 a2 H6
  obtain ⟨_, a0, a1, a2, _, _, _⟩ := H7.out.2.1
  go_wp2_with fail
  all_goals first | (exfalso; omega) | skip
  refine (P6 _ _ HL.out _ H7.out.2.2.2).mono ?_
  rintro o v8 ⟨rfl, b8⟩
  have H8 : Hid (DcB v8 w1.heap.size (.string u) (.int .i64 P) (.bool false) ∧ DcB v8 w2.heap.size (.string ul) (.int .i64 Pl) (.bool false) ∧ DcB v8 (w2.heap.size + 1) (.string uh) (.int .i64 Ph) (.bool false) ∧ Below w.heap.size w v8) := ⟨H7.out.1.step b8, H7.out.2.1.step b8, H7.out.2.2.1.step b8, H7.out.2.2.2.trans (b8.mono H7.out.2.2.2.size)⟩
  clear b8 a0 a1 a2 H7
  go_wp2_with fail
  all_goals first | (exfalso; omega) | skip
  refine (WK _ H8.out.2.2.2).mono ?_
  rintro o wz ⟨rfl, bz⟩
  have Bz : Hid (Below w.heap.size w wz) := H8.out.2.2.2.trans (bz.mono H8.out.2.2.2.size)
  clear bz
  go_wp2
  go_ret
  exact ⟨rfl, Bz.out⟩
set_option maxRecDepth 100000 in
set_option maxHeartbeats 4000000 in
theorem exact_inf {z : Int} {g n f T : Nat} {L : Int} (hz : Fz z g n f T L) {b : Nat} (b0 : b ≠ 0) (hb : b + 1 = n) {X XL XH : ByteArray → Int → Prop} {w : World}
    (EX : ∀ W, Calls Tryz.prog 25 #[.int .u64 (b : Int), .int .i64 z] W fun e w' => ∃ u P, e = .returned (.tuple #[dcV u P false, .int .i64 0]) ∧ X u P ∧ Below W.heap.size W w')
    (BO : ∀ W, Calls Tryz.prog 26 #[.int .u64 (b : Int), .int .i64 z] W fun e w' => ∃ u P u' P', e = .returned (.tuple #[dcV u P false, dcV u' P' false, .bool false, .int .i64 0]) ∧ XL u P ∧ XH u' P' ∧ Below W.heap.size W w')
    (P1 : ∀ u P, X u P → NoM w 14 #[dcV u P false, .int .i64 z] (.tuple #[.int .u64 (b : Int), .nilIface]))
    (P2 : ∀ u P, X u P → NoM w 8 #[dcV u P false, .int .u64 (b : Int), .int .i64 z] (.tuple #[.int .i64 0, .nilIface]))
    (P3 : ∀ u P, XH u P → NoM w 10 #[dcV u P false, .int .u64 (b : Int), .int .i64 z] (.tuple #[.int .i64 0, .nilIface]))
    (P4 : ∀ u P, XH u P → NoM w 14 #[dcV u P false, .int .i64 z] (.tuple #[.int .u64 ((b : Int) + 1), .iface 74 (.int .i64 4)]))
    (P5 : ∀ u P, XL u P → NoM w 10 #[dcV u P false, .int .u64 ((b : Int) - 1), .int .i64 z] (.tuple #[.int .i64 0, .nilIface]))
    (P6 : ∀ u P, XL u P → NoM w 14 #[dcV u P false, .int .i64 z] (.tuple #[.int .u64 ((b : Int) - 1), .nilIface]))
    (WK : ∀ W, Below w.heap.size w W → Calls Tryz.prog 13 #[] W fun o w' => o = .returned (.bool true) ∧ Below W.heap.size W w') :
    Calls Tryz.prog 7 #[.int .u64 (b : Int), .int .i64 z] w fun o w' => o = .returned (.bool true) ∧ Below w.heap.size w w' := by
  obtain ⟨en, hg, h2, g0⟩ := fz_parts hz
  have n0 : 0 < n := by rcases hz with ⟨_, _, rfl, _⟩ | ⟨_, _, rfl, _⟩ <;> decide
  have MG := fun W => rmag_z hz (b := b) (by omega) W
  rw [mg_self (by omega)] at MG
  have IN := fun W => rinf_z hz W
  rw [← en] at IN
  have NK := fun W => num_errnoC 4 W
  have hn : n < 9223372036854775808 := by omega
  rw [show (n : Int) = (b : Int) + 1 from by omega] at IN
  have i1 : ((b : Int) == 0) = false := by rw [beq_eq_false_iff_ne]; omega
  have i3 : 0 < (b : Int) := by omega
  have i4 : b < 9223372036854775807 := by omega
  have i5 : ((b : Int) + 1 == (b : Int)) = false := by rw [beq_eq_false_iff_ne]; omega
  have i6 : ((b : Int) - 1 == (b : Int)) = false := by rw [beq_eq_false_iff_ne]; omega
  clear hn
  clear hz en hg h2 g0 n0 hb b0
  unfold NoM dcV at *
  simp only [Array.push, List.concat_eq_append, List.cons_append, List.nil_append] at P1 P2 P3 P4 P5 P6
  go_enter Tryz.func7, Tryz.ntmps7
  go_wp2_with fail
  refine (EX _).mono ?_
  rintro o w1 ⟨u, P, rfl, hx, b1⟩
  have HX : Hid (X u P) := hx
  have H1 : Hid (DcB (w1.alloc (.cells #[.string u, .int .i64 P, .bool false] 23)) w1.heap.size (.string u) (.int .i64 P) (.bool false) ∧ Below w.heap.size w (w1.alloc (.cells #[.string u, .int .i64 P, .bool false] 23))) := ⟨DcB.new w1 _ _ _ _, b1.alloc b1.size _⟩
  clear b1 hx EX
  go_wp2_with fail
  refine (BO _).mono ?_
  rintro o w2 ⟨ul, Pl, uh, Ph, rfl, hl, hh, b2⟩
  have HL : Hid (XL ul Pl) := hl
  have HH : Hid (XH uh Ph) := hh
  have H2 : Hid (DcB ((w2.alloc (.cells #[.string ul, .int .i64 Pl, .bool false] 23)).alloc (.cells #[.string uh, .int .i64 Ph, .bool false] 23)) w1.heap.size (.string u) (.int .i64 P) (.bool false) ∧ DcB ((w2.alloc (.cells #[.string ul, .int .i64 Pl, .bool false] 23)).alloc (.cells #[.string uh, .int .i64 Ph, .bool false] 23)) w2.heap.size (.string ul) (.int .i64 Pl) (.bool false) ∧ DcB ((w2.alloc (.cells #[.string ul, .int .i64 Pl, .bool false] 23)).alloc (.cells #[.string uh, .int .i64 Ph, .bool false] 23)) (w2.heap.size + 1) (.string uh) (.int .i64 Ph) (.bool false) ∧ Below w.heap.size w ((w2.alloc (.cells #[.string ul, .int .i64 Pl, .bool false] 23)).alloc (.cells #[.string uh, .int .i64 Ph, .bool false] 23))) := by
    have q2 : Below w.heap.size w w2 := H1.out.2.trans (b2.mono H1.out.2.size)
    refine ⟨((H1.out.1.step b2).al _).al _, (DcB.new w2 _ _ _ _).al _, ?_, (q2.alloc q2.size _).alloc (q2.alloc q2.size _).size _⟩
    have q := DcB.new (w2.alloc (.cells #[.string ul, .int .i64 Pl, .bool false] 23)) (.string uh) (.int .i64 Ph) (.bool false) 23
    simpa using q
  clear b2 H1 BO hh hl
  go_wp2_with fail
  refine (MG _).mono ?_
  rintro o w3 ⟨rfl, rfl⟩
  clear MG
  obtain ⟨_, a0, a1, a2, _, _, _⟩ := H2.out.1
  go_wp2_with fail
  all_goals first | (exfalso; omega) | skip
  refine (P1 _ _ HX.out _ H2.out.2.2.2).mono ?_
  rintro o v3 ⟨rfl, b3⟩
  have H3 : Hid (DcB v3 w1.heap.size (.string u) (.int .i64 P) (.bool false) ∧ DcB v3 w2.heap.size (.string ul) (.int .i64 Pl) (.bool false) ∧ DcB v3 (w2.heap.size + 1) (.string uh) (.int .i64 Ph) (.bool false) ∧ Below w.heap.size w v3) := ⟨H2.out.1.step b3, H2.out.2.1.step b3, H2.out.2.2.1.step b3, H2.out.2.2.2.trans (b3.mono H2.out.2.2.2.size)⟩
  clear b3 a0 a1 a2 H2
  obtain ⟨_, a0, a1, a2, _, _, _⟩ := H3.out.1
  go_wp2_with fail
  all_goals first | (exfalso; omega) | skip
  refine (P2 _ _ HX.out _ H3.out.2.2.2).mono ?_
  rintro o v4 ⟨rfl, b4⟩
  have H4 : Hid (DcB v4 w1.heap.size (.string u) (.int .i64 P) (.bool false) ∧ DcB v4 w2.heap.size (.string ul) (.int .i64 Pl) (.bool false) ∧ DcB v4 (w2.heap.size + 1) (.string uh) (.int .i64 Ph) (.bool false) ∧ Below w.heap.size w v4) := ⟨H3.out.1.step b4, H3.out.2.1.step b4, H3.out.2.2.1.step b4, H3.out.2.2.2.trans (b4.mono H3.out.2.2.2.size)⟩
  clear b4 a0 a1 a2 H3
  obtain ⟨_, a0, a1, a2, _, _, _⟩ := H4.out.2.2.1
  go_wp2_with fail
  all_goals first | (exfalso; omega) | skip
  refine (P3 _ _ HH.out _ H4.out.2.2.2).mono ?_
  rintro o v5 ⟨rfl, b5⟩
  have H5 : Hid (DcB v5 w1.heap.size (.string u) (.int .i64 P) (.bool false) ∧ DcB v5 w2.heap.size (.string ul) (.int .i64 Pl) (.bool false) ∧ DcB v5 (w2.heap.size + 1) (.string uh) (.int .i64 Ph) (.bool false) ∧ Below w.heap.size w v5) := ⟨H4.out.1.step b5, H4.out.2.1.step b5, H4.out.2.2.1.step b5, H4.out.2.2.2.trans (b5.mono H4.out.2.2.2.size)⟩
  clear b5 a0 a1 a2 H4
  obtain ⟨_, a0, a1, a2, _, _, _⟩ := H5.out.2.2.1
  go_wp2_with fail
  all_goals first | (exfalso; omega) | skip
  refine (P4 _ _ HH.out _ H5.out.2.2.2).mono ?_
  rintro o v6 ⟨rfl, b6⟩
  have H6 : Hid (DcB v6 w1.heap.size (.string u) (.int .i64 P) (.bool false) ∧ DcB v6 w2.heap.size (.string ul) (.int .i64 Pl) (.bool false) ∧ DcB v6 (w2.heap.size + 1) (.string uh) (.int .i64 Ph) (.bool false) ∧ Below w.heap.size w v6) := ⟨H5.out.1.step b6, H5.out.2.1.step b6, H5.out.2.2.1.step b6, H5.out.2.2.2.trans (b6.mono H5.out.2.2.2.size)⟩
  clear b6 a0 a1 a2 H5
  go_wp2_with fail
  all_goals first | (exfalso; omega) | skip
  refine (NK _).mono ?_
  rintro o v6 ⟨rfl, rfl⟩
  go_wp2_with fail
  refine (IN _).mono ?_
  rintro o v6 ⟨rfl, rfl⟩
  obtain ⟨_, a0, a1, a2, _, _, _⟩ := H6.out.2.1
  go_wp2_with fail
  all_goals first | (exfalso; omega) | skip
  refine (P5 _ _ HL.out _ H6.out.2.2.2).mono ?_
  rintro o v7 ⟨rfl, b7⟩
  have H7 : Hid (DcB v7 w1.heap.size (.string u) (.int .i64 P) (.bool false) ∧ DcB v7 w2.heap.size (.string ul) (.int .i64 Pl) (.bool false) ∧ DcB v7 (w2.heap.size + 1) (.string uh) (.int .i64 Ph) (.bool false) ∧ Below w.heap.size w v7) := ⟨H6.out.1.step b7, H6.out.2.1.step b7, H6.out.2.2.1.step b7, H6.out.2.2.2.trans (b7.mono H6.out.2.2.2.size)⟩
  clear b7 a0 a1 a2 H6
  obtain ⟨_, a0, a1, a2, _, _, _⟩ := H7.out.2.1
  go_wp2_with fail
  all_goals first | (exfalso; omega) | skip
  refine (P6 _ _ HL.out _ H7.out.2.2.2).mono ?_
  rintro o v8 ⟨rfl, b8⟩
  have H8 : Hid (DcB v8 w1.heap.size (.string u) (.int .i64 P) (.bool false) ∧ DcB v8 w2.heap.size (.string ul) (.int .i64 Pl) (.bool false) ∧ DcB v8 (w2.heap.size + 1) (.string uh) (.int .i64 Ph) (.bool false) ∧ Below w.heap.size w v8) := ⟨H7.out.1.step b8, H7.out.2.1.step b8, H7.out.2.2.1.step b8, H7.out.2.2.2.trans (b8.mono H7.out.2.2.2.size)⟩
  clear b8 a0 a1 a2 H7
  go_wp2_with fail
  all_goals first | (exfalso; omega) | skip
  refine (WK _ H8.out.2.2.2).mono ?_
  rintro o wz ⟨rfl, bz⟩
  have Bz : Hid (Below w.heap.size w wz) := H8.out.2.2.2.trans (bz.mono H8.out.2.2.2.size)
  clear bz
  go_wp2
  go_ret
  exact ⟨rfl, Bz.out⟩
end Go.Proofs.YtfoaeholbidngaaGreatDoor
