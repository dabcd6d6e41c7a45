/-
  What the document's answers of layers 2, 3, 11 and 12 are, as far as layer 14 asks them.
-/
import Derived.Test.YtfoaeholbidngaaGreatDoorEx2
namespace Go.Proofs.YtfoaeholbidngaaGreatDoor
open Go.RowKit

/-- A shape in the call's own box. -/
structure ShB (w W : World) (a b c d : Value) : Prop where
  sz : w.heap.size + 1 ≤ W.heap.size
  bel : Below w.heap.size w W
  a0 : W.cell? ⟨w.heap.size, 0, none⟩ = some a
  a1 : W.cell? ⟨w.heap.size, 1, none⟩ = some b
  a2 : W.cell? ⟨w.heap.size, 2, none⟩ = some c
  a3 : W.cell? ⟨w.heap.size, 3, none⟩ = some d
theorem ShB.step {w W W' : World} {a b c d : Value} (h : ShB w W a b c d) (hb : Below W.heap.size W W') : ShB w W' a b c d := by
  have z := h.sz
  have k : ∀ o, W'.cell? ⟨w.heap.size, o, none⟩ = W.cell? ⟨w.heap.size, o, none⟩ := fun o => hb.cell (p := ⟨w.heap.size, o, none⟩) (by show w.heap.size < W.heap.size; omega)
  exact ⟨Nat.le_trans z hb.size, h.bel.trans (hb.mono (by omega)), (k 0).trans h.a0, (k 1).trans h.a1, (k 2).trans h.a2, (k 3).trans h.a3⟩
theorem ShB.drew {w W : World} {a b c d : Value} (h : ShB w W a b c d) : ShB w W.drew a b c d := h.step (Below.refl _ _).drew
/-- A struct of four fields in a block that may be written. -/
structure FlB (W : World) (K : Nat) (a b c d : Value) : Prop where
  lt : K < W.heap.size
  a0 : W.cell? ⟨K, 0, none⟩ = some a
  a1 : W.cell? ⟨K, 1, none⟩ = some b
  a2 : W.cell? ⟨K, 2, none⟩ = some c
  a3 : W.cell? ⟨K, 3, none⟩ = some d
  f0 : W.frozen? ⟨K, 0, none⟩ = false
  f1 : W.frozen? ⟨K, 1, none⟩ = false
  f2 : W.frozen? ⟨K, 2, none⟩ = false
  f3 : W.frozen? ⟨K, 3, none⟩ = false
theorem FlB.step {W W' : World} {K : Nat} {a b c d : Value} (h : FlB W K a b c d) (hb : Below W.heap.size W W') : FlB W' K a b c d := by
  have k := fun o => hb.cell (p := ⟨K, o, none⟩) h.lt
  have j := fun o => hb.frozen (p := ⟨K, o, none⟩) h.lt
  exact ⟨Nat.lt_of_lt_of_le h.lt hb.size, (k 0).trans h.a0, (k 1).trans h.a1, (k 2).trans h.a2, (k 3).trans h.a3, (j 0).trans h.f0, (j 1).trans h.f1, (j 2).trans h.f2, (j 3).trans h.f3⟩
theorem FlB.new (W : World) (a b c d : Value) (T : TypeId) : FlB (W.alloc (.cells #[a, b, c, d] T)) W.heap.size a b c d :=
  ⟨by simp, by simp, by simp, by simp, by simp, World.frozen?_alloc_new _ _ _ _, World.frozen?_alloc_new _ _ _ _, World.frozen?_alloc_new _ _ _ _, World.frozen?_alloc_new _ _ _ _⟩
theorem FlB.drew {W : World} {K : Nat} {a b c d : Value} (h : FlB W K a b c d) : FlB W.drew K a b c d := h.step (Below.refl _ _).drew
theorem FlB.set3 {W : World} {K : Nat} {a b c d : Value} (h : FlB W K a b c d) (v : Value) : FlB (W.setCell ⟨K, 3, none⟩ v) K a b c v := by
  obtain ⟨z, a0, a1, a2, a3, f0, f1, f2, f3⟩ := h
  exact ⟨by simpa using z, (World.cell?_setCell_other _ ⟨K, 3, none⟩ ⟨K, 0, none⟩ v (by intro e; cases e)).trans a0, (World.cell?_setCell_other _ ⟨K, 3, none⟩ ⟨K, 1, none⟩ v (by intro e; cases e)).trans a1, (World.cell?_setCell_other _ ⟨K, 3, none⟩ ⟨K, 2, none⟩ v (by intro e; cases e)).trans a2, World.cell?_setCell_same _ _ _ a3, (World.frozen?_setCell ..).trans f0, (World.frozen?_setCell ..).trans f1, (World.frozen?_setCell ..).trans f2, (World.frozen?_setCell ..).trans f3⟩
set_option maxRecDepth 100000 in
set_option maxHeartbeats 1000000 in
theorem rfrac_32 (w : World) : Calls Tryz.prog 82 #[.int .i64 32] w fun e w' => e = .returned (.int .i64 23) ∧ w' = w := by
  go_enter Tryz.func82, Tryz.ntmps82
  go_wp2
  go_ret
  exact ⟨rfl, rfl⟩
set_option maxRecDepth 100000 in
set_option maxHeartbeats 1000000 in
theorem rtop_32 (w : World) : Calls Tryz.prog 81 #[.int .i64 32] w fun e w' => e = .returned (.int .u64 255) ∧ w' = w := by
  go_enter Tryz.func81, Tryz.ntmps81
  go_wp2
  go_ret
  exact ⟨rfl, rfl⟩
set_option maxRecDepth 100000 in
set_option maxHeartbeats 1000000 in
theorem rlow_32 (w : World) : Calls Tryz.prog 116 #[.int .i64 32] w fun e w' => e = .returned (.int .i64 (-149)) ∧ w' = w := by
  go_enter Tryz.func116, Tryz.ntmps116
  go_wp2
  go_ret
  exact ⟨rfl, rfl⟩
set_option maxRecDepth 100000 in
set_option maxHeartbeats 1000000 in
theorem rsign_32 (w : World) : Calls Tryz.prog 53 #[.int .i64 32] w fun e w' => e = .returned (.int .u64 2147483648) ∧ w' = w := by
  go_enter Tryz.func53, Tryz.ntmps53
  go_wp2
  go_ret
  exact ⟨rfl, rfl⟩
set_option maxRecDepth 100000 in
set_option maxHeartbeats 1000000 in
theorem rsize_32 (w : World) : Calls Tryz.prog 22 #[.int .i64 32] w fun e w' => e = .returned (.bool true) ∧ w' = w := by
  go_enter Tryz.func22, Tryz.ntmps22
  go_wp2
  go_ret
  exact ⟨rfl, rfl⟩
set_option maxRecDepth 100000 in
set_option maxHeartbeats 1000000 in
theorem rinf_32 (w : World) : Calls Tryz.prog 49 #[.int .i64 32] w fun e w' => e = .returned (.int .u64 2139095040) ∧ w' = w := by
  have H1 := fun W => rtop_32 W
  have H2 := fun W => rfrac_32 W
  go_enter Tryz.func49, Tryz.ntmps49
  go_wp2_with fail
  refine (H1 _).mono ?_
  rintro e w ⟨rfl, rfl⟩
  go_wp2_with fail
  refine (H2 _).mono ?_
  rintro e w ⟨rfl, rfl⟩
  go_wp2
  go_ret
  exact ⟨rfl, rfl⟩
set_option maxRecDepth 100000 in
set_option maxHeartbeats 1000000 in
theorem rInf_32 (w : World) : Calls Tryz.prog 24 #[.int .i64 32] w fun e w' => e = .returned (.int .u64 2139095040) ∧ w' = w := by
  have H1 := fun W => rinf_32 W
  go_enter Tryz.func24, Tryz.ntmps24
  go_wp2_with fail
  refine (H1 _).mono ?_
  rintro e w ⟨rfl, rfl⟩
  go_wp2
  go_ret
  exact ⟨rfl, rfl⟩
set_option maxRecDepth 100000 in
set_option maxHeartbeats 1000000 in
theorem rmag_32 {b : Nat} (h : b < 4294967296) (w : World) : Calls Tryz.prog 27 #[.int .u64 (b : Int), .int .i64 32] w fun e w' => e = .returned (.int .u64 ((mg 2147483648 b : Nat) : Int)) ∧ w' = w := by
  have hA := andNot_32 b h
  have H1 := fun W => rsign_32 W
  clear h
  go_enter Tryz.func27, Tryz.ntmps27
  go_wp2_with fail
  refine (H1 _).mono ?_
  rintro e w ⟨rfl, rfl⟩
  go_wp2
  go_ret
  exact ⟨rfl, rfl⟩
set_option maxRecDepth 100000 in
set_option maxHeartbeats 1000000 in
theorem rof_32 {b : Nat} (h : b < 4294967296) (w : World) : Calls Tryz.prog 62 #[.int .u64 (b : Int), .int .i64 32] w fun e w' => e = .returned (.int .i64 (cl 2139095040 (mg 2147483648 b))) ∧ w' = w := by
  have HM := fun W => rmag_32 h W
  have HI := fun W => rinf_32 W
  generalize mg 2147483648 b = x at *
  have C := cl_cases 2139095040 x
  have C2 : (((x : Int) == 0) = true ∧ cl 2139095040 x = 1) ∨ (((x : Int) == 0) = false ∧ decide ((x : Int) < 2139095040) = true ∧ cl 2139095040 x = 2) ∨ (((x : Int) == 0) = false ∧ decide ((x : Int) < 2139095040) = false ∧ ((x : Int) == 2139095040) = true ∧ cl 2139095040 x = 3) ∨ (((x : Int) == 0) = false ∧ decide ((x : Int) < 2139095040) = false ∧ ((x : Int) == 2139095040) = false ∧ cl 2139095040 x = 4) := by
    rcases C with ⟨p, q⟩ | ⟨p0, p1, q⟩ | ⟨p0, p1, q⟩ | ⟨p1, q⟩
    · exact .inl ⟨by simp; omega, q⟩
    · exact .inr (.inl ⟨by simp; omega, by simp; omega, q⟩)
    · exact .inr (.inr (.inl ⟨by simp; omega, by simp; omega, by simp; omega, q⟩))
    · exact .inr (.inr (.inr ⟨by simp; omega, by simp; omega, by simp; omega, q⟩))
  clear C h
  generalize cl 2139095040 x = C at *
  rcases C2 with ⟨p0, rfl⟩ | ⟨p0, p1, rfl⟩ | ⟨p0, p1, p2, rfl⟩ | ⟨p0, p1, p2, rfl⟩
  · go_enter Tryz.func62, Tryz.ntmps62
    go_wp2_with fail
    refine (HM _).mono ?_
    rintro e w ⟨rfl, rfl⟩
    go_wp2
    go_ret
    exact ⟨rfl, rfl⟩
  · go_enter Tryz.func62, Tryz.ntmps62
    go_wp2_with fail
    refine (HM _).mono ?_
    rintro e w ⟨rfl, rfl⟩
    go_wp2_with fail
    refine (HI _).mono ?_
    rintro e w ⟨rfl, rfl⟩
    go_wp2
    go_ret
    exact ⟨rfl, rfl⟩
  · go_enter Tryz.func62, Tryz.ntmps62
    go_wp2_with fail
    refine (HM _).mono ?_
    rintro e w ⟨rfl, rfl⟩
    go_wp2_with fail
    refine (HI _).mono ?_
    rintro e w ⟨rfl, rfl⟩
    go_wp2_with fail
    refine (HI _).mono ?_
    rintro e w ⟨rfl, rfl⟩
    go_wp2
    go_ret
    exact ⟨rfl, rfl⟩
  · go_enter Tryz.func62, Tryz.ntmps62
    go_wp2_with fail
    refine (HM _).mono ?_
    rintro e w ⟨rfl, rfl⟩
    go_wp2_with fail
    refine (HI _).mono ?_
    rintro e w ⟨rfl, rfl⟩
    go_wp2_with fail
    refine (HI _).mono ?_
    rintro e w ⟨rfl, rfl⟩
    go_wp2
    go_ret
    exact ⟨rfl, rfl⟩
set_option maxRecDepth 100000 in
set_option maxHeartbeats 1000000 in
theorem rsigned_32 {x : Nat} (h : x < 2147483648) (c : Bool) (w : World) : Calls Tryz.prog 146 #[.bool c, .int .u64 (x : Int), .int .i64 32] w fun e w' => e = .returned (.int .u64 ((sgd 2147483648 c x : Nat) : Int)) ∧ w' = w := by
  have hA := or_sign_32 h
  have HS := fun W => rsign_32 W
  clear h
  cases c
  · go_enter Tryz.func146, Tryz.ntmps146
    go_wp2
    go_ret
    exact ⟨rfl, rfl⟩
  · go_enter Tryz.func146, Tryz.ntmps146
    go_wp2_with fail
    refine (HS _).mono ?_
    rintro e w ⟨rfl, rfl⟩
    go_wp2
    go_ret
    exact ⟨rfl, rfl⟩
set_option maxRecDepth 100000 in
set_option maxHeartbeats 1000000 in
theorem rparts_32 {b : Nat} (h : b < 4294967296) (w : World) : Calls Tryz.prog 83 #[.int .u64 (b : Int), .int .i64 32] w fun e w' => e = .returned (.tuple #[.int .u64 ((mt 23 (mg 2147483648 b) : Nat) : Int), .int .i64 (xp 23 (-149) (mg 2147483648 b))]) ∧ w' = w := by
  have HM := fun W => rmag_32 h W
  have H2 := fun W => rfrac_32 W
  have H3 := fun W => rlow_32 W
  have hl := mg_lt (g := 2147483648) (by decide) b
  generalize mg 2147483648 b = x at *
  clear h
  have hM := and_mask_32 (m := x) (by omega)
  have lo := Nat.mod_lt x (show 0 < 8388608 by decide)
  have hO := or_hid_32 lo
  have E1 : Hid (mt 23 x = if x / 8388608 = 0 then x else x % 8388608 + 8388608) := rfl
  have E2 : Hid (xp 23 (-149) x = if x / 8388608 = 0 then (-149) else (-149) + ((x / 8388608 : Nat) : Int) - 1) := rfl
  have E3 : Hid (x / 8388608 * 8388608 + x % 8388608 = x) := Nat.div_add_mod' x 8388608
  have hq : x / 8388608 < 2048 := by omega
  have eq : (x : Int) / 8388608 = ((x / 8388608 : Nat) : Int) := rfl
  obtain ⟨y, hr⟩ : ∃ y, y = x % 8388608 := ⟨_, rfl⟩
  obtain ⟨k, hk⟩ : ∃ k, k = x / 8388608 := ⟨_, rfl⟩
  rw [← hr] at hM hO lo E1 E3
  rw [← hk] at hq eq E1 E2 E3
  clear hr hk
  by_cases z : k = 0
  · have e0 : ((k : Int) == 0) = true := by simp; omega
    have G : Hid (mt 23 x = y ∧ xp 23 (-149) x = (-149)) := ⟨by rw [E1.out, if_pos z]; have := E3.out; rw [z] at this; omega, by rw [E2.out, if_pos z]⟩
    rw [G.out.1, G.out.2]
    clear z
    go_enter Tryz.func83, Tryz.ntmps83
    go_wp2_with fail
    refine (HM _).mono ?_
    rintro e w ⟨rfl, rfl⟩
    go_wp2_with fail
    refine (H2 _).mono ?_
    rintro e w ⟨rfl, rfl⟩
    go_wp2_with fail
    refine (H3 _).mono ?_
    rintro e w ⟨rfl, rfl⟩
    go_wp2
    go_ret2
    exact ⟨rfl, rfl⟩
  · have e0 : ((k : Int) == 0) = false := by simp; omega
    have G : Hid (mt 23 x = y + 8388608 ∧ xp 23 (-149) x = (-149) + (k : Int) - 1) := ⟨by rw [E1.out, if_neg z], by rw [E2.out, if_neg z]⟩
    rw [G.out.1, G.out.2]
    clear z
    go_enter Tryz.func83, Tryz.ntmps83
    go_wp2_with fail
    refine (HM _).mono ?_
    rintro e w ⟨rfl, rfl⟩
    go_wp2_with fail
    refine (H2 _).mono ?_
    rintro e w ⟨rfl, rfl⟩
    go_wp2_with fail
    refine (H3 _).mono ?_
    rintro e w ⟨rfl, rfl⟩
    go_wp2
    go_ret2
    exact ⟨rfl, rfl⟩
set_option maxRecDepth 100000 in
set_option maxHeartbeats 1000000 in
theorem rfrac_64 (w : World) : Calls Tryz.prog 82 #[.int .i64 64] w fun e w' => e = .returned (.int .i64 52) ∧ w' = w := by
  go_enter Tryz.func82, Tryz.ntmps82
  go_wp2
  go_ret
  exact ⟨rfl, rfl⟩
set_option maxRecDepth 100000 in
set_option maxHeartbeats 1000000 in
theorem rtop_64 (w : World) : Calls Tryz.prog 81 #[.int .i64 64] w fun e w' => e = .returned (.int .u64 2047) ∧ w' = w := by
  go_enter Tryz.func81, Tryz.ntmps81
  go_wp2
  go_ret
  exact ⟨rfl, rfl⟩
set_option maxRecDepth 100000 in
set_option maxHeartbeats 1000000 in
theorem rlow_64 (w : World) : Calls Tryz.prog 116 #[.int .i64 64] w fun e w' => e = .returned (.int .i64 (-1074)) ∧ w' = w := by
  go_enter Tryz.func116, Tryz.ntmps116
  go_wp2
  go_ret
  exact ⟨rfl, rfl⟩
set_option maxRecDepth 100000 in
set_option maxHeartbeats 1000000 in
theorem rsign_64 (w : World) : Calls Tryz.prog 53 #[.int .i64 64] w fun e w' => e = .returned (.int .u64 9223372036854775808) ∧ w' = w := by
  go_enter Tryz.func53, Tryz.ntmps53
  go_wp2
  go_ret
  exact ⟨rfl, rfl⟩
set_option maxRecDepth 100000 in
set_option maxHeartbeats 1000000 in
theorem rsize_64 (w : World) : Calls Tryz.prog 22 #[.int .i64 64] w fun e w' => e = .returned (.bool true) ∧ w' = w := by
  go_enter Tryz.func22, Tryz.ntmps22
  go_wp2
  go_ret
  exact ⟨rfl, rfl⟩
set_option maxRecDepth 100000 in
set_option maxHeartbeats 1000000 in
theorem rinf_64 (w : World) : Calls Tryz.prog 49 #[.int .i64 64] w fun e w' => e = .returned (.int .u64 9218868437227405312) ∧ w' = w := by
  have H1 := fun W => rtop_64 W
  have H2 := fun W => rfrac_64 W
  go_enter Tryz.func49, Tryz.ntmps49
  go_wp2_with fail
  refine (H1 _).mono ?_
  rintro e w ⟨rfl, rfl⟩
  go_wp2_with fail
  refine (H2 _).mono ?_
  rintro e w ⟨rfl, rfl⟩
  go_wp2
  go_ret
  exact ⟨rfl, rfl⟩
set_option maxRecDepth 100000 in
set_option maxHeartbeats 1000000 in
theorem rInf_64 (w : World) : Calls Tryz.prog 24 #[.int .i64 64] w fun e w' => e = .returned (.int .u64 9218868437227405312) ∧ w' = w := by
  have H1 := fun W => rinf_64 W
  go_enter Tryz.func24, Tryz.ntmps24
  go_wp2_with fail
  refine (H1 _).mono ?_
  rintro e w ⟨rfl, rfl⟩
  go_wp2
  go_ret
  exact ⟨rfl, rfl⟩
set_option maxRecDepth 100000 in
set_option maxHeartbeats 1000000 in
theorem rmag_64 {b : Nat} (h : b < 18446744073709551616) (w : World) : Calls Tryz.prog 27 #[.int .u64 (b : Int), .int .i64 64] w fun e w' => e = .returned (.int .u64 ((mg 9223372036854775808 b : Nat) : Int)) ∧ w' = w := by
  have hA := andNot_64 b h
  have H1 := fun W => rsign_64 W
  clear h
  go_enter Tryz.func27, Tryz.ntmps27
  go_wp2_with fail
  refine (H1 _).mono ?_
  rintro e w ⟨rfl, rfl⟩
  go_wp2
  go_ret
  exact ⟨rfl, rfl⟩
set_option maxRecDepth 100000 in
set_option maxHeartbeats 1000000 in
theorem rof_64 {b : Nat} (h : b < 18446744073709551616) (w : World) : Calls Tryz.prog 62 #[.int .u64 (b : Int), .int .i64 64] w fun e w' => e = .returned (.int .i64 (cl 9218868437227405312 (mg 9223372036854775808 b))) ∧ w' = w := by
  have HM := fun W => rmag_64 h W
  have HI := fun W => rinf_64 W
  generalize mg 9223372036854775808 b = x at *
  have C := cl_cases 9218868437227405312 x
  have C2 : (((x : Int) == 0) = true ∧ cl 9218868437227405312 x = 1) ∨ (((x : Int) == 0) = false ∧ decide ((x : Int) < 9218868437227405312) = true ∧ cl 9218868437227405312 x = 2) ∨ (((x : Int) == 0) = false ∧ decide ((x : Int) < 9218868437227405312) = false ∧ ((x : Int) == 9218868437227405312) = true ∧ cl 9218868437227405312 x = 3) ∨ (((x : Int) == 0) = false ∧ decide ((x : Int) < 9218868437227405312) = false ∧ ((x : Int) == 9218868437227405312) = false ∧ cl 9218868437227405312 x = 4) := by
    rcases C with ⟨p, q⟩ | ⟨p0, p1, q⟩ | ⟨p0, p1, q⟩ | ⟨p1, q⟩
    · exact .inl ⟨by simp; omega, q⟩
    · exact .inr (.inl ⟨by simp; omega, by simp; omega, q⟩)
    · exact .inr (.inr (.inl ⟨by simp; omega, by simp; omega, by simp; omega, q⟩))
    · exact .inr (.inr (.inr ⟨by simp; omega, by simp; omega, by simp; omega, q⟩))
  clear C h
  generalize cl 9218868437227405312 x = C at *
  rcases C2 with ⟨p0, rfl⟩ | ⟨p0, p1, rfl⟩ | ⟨p0, p1, p2, rfl⟩ | ⟨p0, p1, p2, rfl⟩
  · go_enter Tryz.func62, Tryz.ntmps62
    go_wp2_with fail
    refine (HM _).mono ?_
    rintro e w ⟨rfl, rfl⟩
    go_wp2
    go_ret
    exact ⟨rfl, rfl⟩
  · go_enter Tryz.func62, Tryz.ntmps62
    go_wp2_with fail
    refine (HM _).mono ?_
    rintro e w ⟨rfl, rfl⟩
    go_wp2_with fail
    refine (HI _).mono ?_
    rintro e w ⟨rfl, rfl⟩
    go_wp2
    go_ret
    exact ⟨rfl, rfl⟩
  · go_enter Tryz.func62, Tryz.ntmps62
    go_wp2_with fail
    refine (HM _).mono ?_
    rintro e w ⟨rfl, rfl⟩
    go_wp2_with fail
    refine (HI _).mono ?_
    rintro e w ⟨rfl, rfl⟩
    go_wp2_with fail
    refine (HI _).mono ?_
    rintro e w ⟨rfl, rfl⟩
    go_wp2
    go_ret
    exact ⟨rfl, rfl⟩
  · go_enter Tryz.func62, Tryz.ntmps62
    go_wp2_with fail
    refine (HM _).mono ?_
    rintro e w ⟨rfl, rfl⟩
    go_wp2_with fail
    refine (HI _).mono ?_
    rintro e w ⟨rfl, rfl⟩
    go_wp2_with fail
    refine (HI _).mono ?_
    rintro e w ⟨rfl, rfl⟩
    go_wp2
    go_ret
    exact ⟨rfl, rfl⟩
set_option maxRecDepth 100000 in
set_option maxHeartbeats 1000000 in
theorem rsigned_64 {x : Nat} (h : x < 9223372036854775808) (c : Bool) (w : World) : Calls Tryz.prog 146 #[.bool c, .int .u64 (x : Int), .int .i64 64] w fun e w' => e = .returned (.int .u64 ((sgd 9223372036854775808 c x : Nat) : Int)) ∧ w' = w := by
  have hA := or_sign_64 h
  have HS := fun W => rsign_64 W
  clear h
  cases c
  · go_enter Tryz.func146, Tryz.ntmps146
    go_wp2
    go_ret
    exact ⟨rfl, rfl⟩
  · go_enter Tryz.func146, Tryz.ntmps146
    go_wp2_with fail
    refine (HS _).mono ?_
    rintro e w ⟨rfl, rfl⟩
    go_wp2
    go_ret
    exact ⟨rfl, rfl⟩
set_option maxRecDepth 100000 in
set_option maxHeartbeats 1000000 in
theorem rparts_64 {b : Nat} (h : b < 18446744073709551616) (w : World) : Calls Tryz.prog 83 #[.int .u64 (b : Int), .int .i64 64] w fun e w' => e = .returned (.tuple #[.int .u64 ((mt 52 (mg 9223372036854775808 b) : Nat) : Int), .int .i64 (xp 52 (-1074) (mg 9223372036854775808 b))]) ∧ w' = w := by
  have HM := fun W => rmag_64 h W
  have H2 := fun W => rfrac_64 W
  have H3 := fun W => rlow_64 W
  have hl := mg_lt (g := 9223372036854775808) (by decide) b
  generalize mg 9223372036854775808 b = x at *
  clear h
  have hM := and_mask_64 (m := x) (by omega)
  have lo := Nat.mod_lt x (show 0 < 4503599627370496 by decide)
  have hO := or_hid_64 lo
  have E1 : Hid (mt 52 x = if x / 4503599627370496 = 0 then x else x % 4503599627370496 + 4503599627370496) := rfl
  have E2 : Hid (xp 52 (-1074) x = if x / 4503599627370496 = 0 then (-1074) else (-1074) + ((x / 4503599627370496 : Nat) : Int) - 1) := rfl
  have E3 : Hid (x / 4503599627370496 * 4503599627370496 + x % 4503599627370496 = x) := Nat.div_add_mod' x 4503599627370496
  have hq : x / 4503599627370496 < 2048 := by omega
  have eq : (x : Int) / 4503599627370496 = ((x / 4503599627370496 : Nat) : Int) := rfl
  obtain ⟨y, hr⟩ : ∃ y, y = x % 4503599627370496 := ⟨_, rfl⟩
  obtain ⟨k, hk⟩ : ∃ k, k = x / 4503599627370496 := ⟨_, rfl⟩
  rw [← hr] at hM hO lo E1 E3
  rw [← hk] at hq eq E1 E2 E3
  clear hr hk
  by_cases z : k = 0
  · have e0 : ((k : Int) == 0) = true := by simp; omega
    have G : Hid (mt 52 x = y ∧ xp 52 (-1074) x = (-1074)) := ⟨by rw [E1.out, if_pos z]; have := E3.out; rw [z] at this; omega, by rw [E2.out, if_pos z]⟩
    rw [G.out.1, G.out.2]
    clear z
    go_enter Tryz.func83, Tryz.ntmps83
    go_wp2_with fail
    refine (HM _).mono ?_
    rintro e w ⟨rfl, rfl⟩
    go_wp2_with fail
    refine (H2 _).mono ?_
    rintro e w ⟨rfl, rfl⟩
    go_wp2_with fail
    refine (H3 _).mono ?_
    rintro e w ⟨rfl, rfl⟩
    go_wp2
    go_ret2
    exact ⟨rfl, rfl⟩
  · have e0 : ((k : Int) == 0) = false := by simp; omega
    have G : Hid (mt 52 x = y + 4503599627370496 ∧ xp 52 (-1074) x = (-1074) + (k : Int) - 1) := ⟨by rw [E1.out, if_neg z], by rw [E2.out, if_neg z]⟩
    rw [G.out.1, G.out.2]
    clear z
    go_enter Tryz.func83, Tryz.ntmps83
    go_wp2_with fail
    refine (HM _).mono ?_
    rintro e w ⟨rfl, rfl⟩
    go_wp2_with fail
    refine (H2 _).mono ?_
    rintro e w ⟨rfl, rfl⟩
    go_wp2_with fail
    refine (H3 _).mono ?_
    rintro e w ⟨rfl, rfl⟩
    go_wp2
    go_ret2
    exact ⟨rfl, rfl⟩
set_option maxRecDepth 100000 in
set_option maxHeartbeats 1000000 in
theorem rsize_no {s : Int} (h : Sn s) (w : World) : Calls Tryz.prog 22 #[.int .i64 s] w fun e w' => e = .returned (.bool false) ∧ w' = w := by
  have p1 : (s == 32) = false := by simpa using h.1
  have p2 : (s == 64) = false := by simpa using h.2
  clear h
  go_enter Tryz.func22, Tryz.ntmps22
  go_wp2
  go_ret
  exact ⟨rfl, rfl⟩
set_option maxRecDepth 100000 in
set_option maxHeartbeats 1000000 in
theorem rcheck_32 {b : Nat} (h : b < 4294967296) (w : World) : Calls Tryz.prog 61 #[.int .u64 (b : Int), .int .i64 32] w fun e w' => e = .returned (.int .i64 0) ∧ w' = w := by
  have H := fun W => rsize_32 W
  have q : ((b : Int) / 4294967296 != 0) = false := by simp; omega
  go_enter Tryz.func61, Tryz.ntmps61
  go_wp2_with fail
  refine (H _).mono ?_
  rintro e w ⟨rfl, rfl⟩
  go_wp2
  go_ret
  exact ⟨rfl, rfl⟩
set_option maxRecDepth 100000 in
set_option maxHeartbeats 1000000 in
theorem rcheck_64 (b : Int) (w : World) : Calls Tryz.prog 61 #[.int .u64 b, .int .i64 64] w fun e w' => e = .returned (.int .i64 0) ∧ w' = w := by
  have H := fun W => rsize_64 W
  go_enter Tryz.func61, Tryz.ntmps61
  go_wp2_with fail
  refine (H _).mono ?_
  rintro e w ⟨rfl, rfl⟩
  go_wp2
  go_ret
  exact ⟨rfl, rfl⟩
set_option maxRecDepth 100000 in
set_option maxHeartbeats 1000000 in
theorem runp_32 {b : Nat} (h : b < 4294967296) (w : World) : Calls Tryz.prog 50 #[.int .u64 (b : Int), .int .i64 32] w fun e w' => e = .returned (.tuple #[.agg #[.bool (uN 2147483648 2139095040 b), .int .i64 (cl 2139095040 (mg 2147483648 b)), .int .u64 ((uM 2139095040 23 (mg 2147483648 b) : Nat) : Int), .int .i64 (uE 2139095040 23 (-149) (mg 2147483648 b))], .int .i64 0]) ∧ Below w.heap.size w w' := by
  have H := fun W => rcheck_32 h W
  have HO := fun W => rof_32 h W
  have HS := fun W => rsign_32 W
  have HP := fun W => rparts_32 h W
  have hA := and_sign_32 b h
  have hN : ((((if ng 2147483648 b then 2147483648 else 0 : Nat) : Int)) != 0) = ng 2147483648 b := by
    cases ng 2147483648 b <;> decide
  rw [← hA] at hN
  unfold uN uM uE
  generalize mg 2147483648 b = x at *
  generalize ng 2147483648 b = g at *
  generalize mt 23 x = M at *
  generalize xp 23 (-149) x = X at *
  have HQ : cl 2139095040 x = 1 ∨ cl 2139095040 x = 2 ∨ cl 2139095040 x = 3 ∨ cl 2139095040 x = 4 := by
    rcases cl_cases 2139095040 x with ⟨_, q⟩ | ⟨_, _, q⟩ | ⟨_, _, q⟩ | ⟨_, q⟩
    · exact .inl q
    · exact .inr (.inl q)
    · exact .inr (.inr (.inl q))
    · exact .inr (.inr (.inr q))
  generalize cl 2139095040 x = C at *
  obtain ⟨Y, hY⟩ : ∃ Y, bits BinOp.and IntKind.u64 (b : Int) 2147483648 = Y := ⟨_, rfl⟩
  rw [hY] at hN
  clear hA h
  rcases HQ with rfl | rfl | rfl | rfl
  · go_enter Tryz.func50, Tryz.ntmps50
    go_wp2_with fail
    refine (H _).mono ?_
    rintro e w1 ⟨rfl, hh⟩
    subst hh
    go_wp2_with fail
    refine (HS _).mono ?_
    rintro e w1 ⟨rfl, hh⟩
    subst hh
    go_wp2_with fail
    refine (HO _).mono ?_
    rintro e w1 ⟨rfl, hh⟩
    subst hh
    go_wp2
    exact bodyPost_ret (v := .tuple #[.agg #[.bool g, .int .i64 1, .int .u64 0, .int .i64 0], .int .i64 0]) (by simp [results, Tryz.results50, go_sem]) rfl ⟨rfl, ((Below.refl _ _).alloc (Nat.le_refl _) _).alloc (by simp) _⟩
  · go_enter Tryz.func50, Tryz.ntmps50
    go_wp2_with fail
    refine (H _).mono ?_
    rintro e w1 ⟨rfl, hh⟩
    subst hh
    go_wp2_with fail
    refine (HS _).mono ?_
    rintro e w1 ⟨rfl, hh⟩
    subst hh
    go_wp2_with fail
    refine (HO _).mono ?_
    rintro e w1 ⟨rfl, hh⟩
    subst hh
    go_wp2_with fail
    refine (HP _).mono ?_
    rintro e w1 ⟨rfl, hh⟩
    subst hh
    go_wp2
    exact bodyPost_ret (v := .tuple #[.agg #[.bool g, .int .i64 2, .int .u64 (M : Int), .int .i64 X], .int .i64 0]) (by simp [results, Tryz.results50, go_sem]) rfl ⟨rfl, ((Below.refl _ _).alloc (Nat.le_refl _) _).alloc (by simp) _⟩
  · go_enter Tryz.func50, Tryz.ntmps50
    go_wp2_with fail
    refine (H _).mono ?_
    rintro e w1 ⟨rfl, hh⟩
    subst hh
    go_wp2_with fail
    refine (HS _).mono ?_
    rintro e w1 ⟨rfl, hh⟩
    subst hh
    go_wp2_with fail
    refine (HO _).mono ?_
    rintro e w1 ⟨rfl, hh⟩
    subst hh
    go_wp2
    exact bodyPost_ret (v := .tuple #[.agg #[.bool g, .int .i64 3, .int .u64 0, .int .i64 0], .int .i64 0]) (by simp [results, Tryz.results50, go_sem]) rfl ⟨rfl, ((Below.refl _ _).alloc (Nat.le_refl _) _).alloc (by simp) _⟩
  · go_enter Tryz.func50, Tryz.ntmps50
    go_wp2_with fail
    refine (H _).mono ?_
    rintro e w1 ⟨rfl, hh⟩
    subst hh
    go_wp2_with fail
    refine (HS _).mono ?_
    rintro e w1 ⟨rfl, hh⟩
    subst hh
    go_wp2_with fail
    refine (HO _).mono ?_
    rintro e w1 ⟨rfl, hh⟩
    subst hh
    go_wp2
    exact bodyPost_ret (v := .tuple #[.agg #[.bool false, .int .i64 4, .int .u64 0, .int .i64 0], .int .i64 0]) (by simp [results, Tryz.results50, go_sem]) rfl ⟨rfl, ((Below.refl _ _).alloc (Nat.le_refl _) _).alloc (by simp) _⟩
set_option maxRecDepth 100000 in
set_option maxHeartbeats 1000000 in
theorem runp_64 {b : Nat} (h : b < 18446744073709551616) (w : World) : Calls Tryz.prog 50 #[.int .u64 (b : Int), .int .i64 64] w fun e w' => e = .returned (.tuple #[.agg #[.bool (uN 9223372036854775808 9218868437227405312 b), .int .i64 (cl 9218868437227405312 (mg 9223372036854775808 b)), .int .u64 ((uM 9218868437227405312 52 (mg 9223372036854775808 b) : Nat) : Int), .int .i64 (uE 9218868437227405312 52 (-1074) (mg 9223372036854775808 b))], .int .i64 0]) ∧ Below w.heap.size w w' := by
  have H := fun W => rcheck_64 (b : Int) W
  have HO := fun W => rof_64 h W
  have HS := fun W => rsign_64 W
  have HP := fun W => rparts_64 h W
  have hA := and_sign_64 b h
  have hN : ((((if ng 9223372036854775808 b then 9223372036854775808 else 0 : Nat) : Int)) != 0) = ng 9223372036854775808 b := by
    cases ng 9223372036854775808 b <;> decide
  rw [← hA] at hN
  unfold uN uM uE
  generalize mg 9223372036854775808 b = x at *
  generalize ng 9223372036854775808 b = g at *
  generalize mt 52 x = M at *
  generalize xp 52 (-1074) x = X at *
  have HQ : cl 9218868437227405312 x = 1 ∨ cl 9218868437227405312 x = 2 ∨ cl 9218868437227405312 x = 3 ∨ cl 9218868437227405312 x = 4 := by
    rcases cl_cases 9218868437227405312 x with ⟨_, q⟩ | ⟨_, _, q⟩ | ⟨_, _, q⟩ | ⟨_, q⟩
    · exact .inl q
    · exact .inr (.inl q)
    · exact .inr (.inr (.inl q))
    · exact .inr (.inr (.inr q))
  generalize cl 9218868437227405312 x = C at *
  obtain ⟨Y, hY⟩ : ∃ Y, bits BinOp.and IntKind.u64 (b : Int) 9223372036854775808 = Y := ⟨_, rfl⟩
  rw [hY] at hN
  clear hA h
  rcases HQ with rfl | rfl | rfl | rfl
  · go_enter Tryz.func50, Tryz.ntmps50
    go_wp2_with fail
    refine (H _).mono ?_
    rintro e w1 ⟨rfl, hh⟩
    subst hh
    go_wp2_with fail
    refine (HS _).mono ?_
    rintro e w1 ⟨rfl, hh⟩
    subst hh
    go_wp2_with fail
    refine (HO _).mono ?_
    rintro e w1 ⟨rfl, hh⟩
    subst hh
    go_wp2
    exact bodyPost_ret (v := .tuple #[.agg #[.bool g, .int .i64 1, .int .u64 0, .int .i64 0], .int .i64 0]) (by simp [results, Tryz.results50, go_sem]) rfl ⟨rfl, ((Below.refl _ _).alloc (Nat.le_refl _) _).alloc (by simp) _⟩
  · go_enter Tryz.func50, Tryz.ntmps50
    go_wp2_with fail
    refine (H _).mono ?_
    rintro e w1 ⟨rfl, hh⟩
    subst hh
    go_wp2_with fail
    refine (HS _).mono ?_
    rintro e w1 ⟨rfl, hh⟩
    subst hh
    go_wp2_with fail
    refine (HO _).mono ?_
    rintro e w1 ⟨rfl, hh⟩
    subst hh
    go_wp2_with fail
    refine (HP _).mono ?_
    rintro e w1 ⟨rfl, hh⟩
    subst hh
    go_wp2
    exact bodyPost_ret (v := .tuple #[.agg #[.bool g, .int .i64 2, .int .u64 (M : Int), .int .i64 X], .int .i64 0]) (by simp [results, Tryz.results50, go_sem]) rfl ⟨rfl, ((Below.refl _ _).alloc (Nat.le_refl _) _).alloc (by simp) _⟩
  · go_enter Tryz.func50, Tryz.ntmps50
    go_wp2_with fail
    refine (H _).mono ?_
    rintro e w1 ⟨rfl, hh⟩
    subst hh
    go_wp2_with fail
    refine (HS _).mono ?_
    rintro e w1 ⟨rfl, hh⟩
    subst hh
    go_wp2_with fail
    refine (HO _).mono ?_
    rintro e w1 ⟨rfl, hh⟩
    subst hh
    go_wp2
    exact bodyPost_ret (v := .tuple #[.agg #[.bool g, .int .i64 3, .int .u64 0, .int .i64 0], .int .i64 0]) (by simp [results, Tryz.results50, go_sem]) rfl ⟨rfl, ((Below.refl _ _).alloc (Nat.le_refl _) _).alloc (by simp) _⟩
  · go_enter Tryz.func50, Tryz.ntmps50
    go_wp2_with fail
    refine (H _).mono ?_
    rintro e w1 ⟨rfl, hh⟩
    subst hh
    go_wp2_with fail
    refine (HS _).mono ?_
    rintro e w1 ⟨rfl, hh⟩
    subst hh
    go_wp2_with fail
    refine (HO _).mono ?_
    rintro e w1 ⟨rfl, hh⟩
    subst hh
    go_wp2
    exact bodyPost_ret (v := .tuple #[.agg #[.bool false, .int .i64 4, .int .u64 0, .int .i64 0], .int .i64 0]) (by simp [results, Tryz.results50, go_sem]) rfl ⟨rfl, ((Below.refl _ _).alloc (Nat.le_refl _) _).alloc (by simp) _⟩
set_option maxRecDepth 100000 in
set_option maxHeartbeats 1000000 in
theorem rpk_far2_32 (c : Bool) {m : Nat} {p : Int} (m0 : ((m : Int) == 0) = false) (q0 : ¬ p < -4000) (q : 4000 < p) (w : World) : Calls Tryz.prog 113 #[.agg #[.bool c, .int .i64 2, .int .u64 (m : Int), .int .i64 p], .int .i64 32] w fun e w' => e = .returned (.tuple #[.int .u64 0, .int .i64 4]) ∧ Below w.heap.size w w' := by
  have HS := fun W => rsize_32 W
  have HF := fun W => rfrac_32 W
  go_enter Tryz.func113, Tryz.ntmps113
  go_wp2_with fail
  refine (HS _).mono ?_
  rintro e w1 ⟨rfl, hh⟩
  subst hh
  go_wp2
  go_region_held3 (fun w' => w'.cell? ⟨w.heap.size, 2, none⟩ = some (.int .u64 (m : Int)) ∧ w'.cell? ⟨w.heap.size, 3, none⟩ = some (.int .i64 p)) (simp [*, go_sem]) (fail)
  go_wp2_with fail
  refine (HF _).mono ?_
  rintro e w1 ⟨rfl, hh⟩
  subst hh
  go_wp2
  go_ret2
  exact ⟨rfl, ((Below.refl _ _).alloc (Nat.le_refl _) _).drew⟩
set_option maxRecDepth 100000 in
set_option maxHeartbeats 1000000 in
theorem rpk_far2_64 (c : Bool) {m : Nat} {p : Int} (m0 : ((m : Int) == 0) = false) (q0 : ¬ p < -4000) (q : 4000 < p) (w : World) : Calls Tryz.prog 113 #[.agg #[.bool c, .int .i64 2, .int .u64 (m : Int), .int .i64 p], .int .i64 64] w fun e w' => e = .returned (.tuple #[.int .u64 0, .int .i64 4]) ∧ Below w.heap.size w w' := by
  have HS := fun W => rsize_64 W
  have HF := fun W => rfrac_64 W
  go_enter Tryz.func113, Tryz.ntmps113
  go_wp2_with fail
  refine (HS _).mono ?_
  rintro e w1 ⟨rfl, hh⟩
  subst hh
  go_wp2
  go_region_held3 (fun w' => w'.cell? ⟨w.heap.size, 2, none⟩ = some (.int .u64 (m : Int)) ∧ w'.cell? ⟨w.heap.size, 3, none⟩ = some (.int .i64 p)) (simp [*, go_sem]) (fail)
  go_wp2_with fail
  refine (HF _).mono ?_
  rintro e w1 ⟨rfl, hh⟩
  subst hh
  go_wp2
  go_ret2
  exact ⟨rfl, ((Below.refl _ _).alloc (Nat.le_refl _) _).drew⟩
end Go.Proofs.YtfoaeholbidngaaGreatDoor
