/-
  The document's Compare.
-/
import Derived.Test.YtkkgancmodhghabDoorDecL
import Derived.Test.YtkkgancmodhghabDoorDecN
namespace Go.Proofs.YtkkgancmodhghabDoor
open Go.RowKit

/-- One unit more than a number's digits is not above another number's. -/
def BB (s : ByteArray) (p : Int) (t : ByteArray) (q : Int) : Prop := 0 < t.size ∧ (p < q ∨ (p = q ∧ pv s s.size < pv t s.size))

theorem nx_bb {s : ByteArray} {p : Int} {u : ByteArray} {p' : Int} (h : NX s p u p') {t : ByteArray} {q : Int} {d : Bool} (ht : VD t q d) : lowF u p' t q ≤ 0 ↔ BB s p t q := by
  unfold BB
  rcases ht with ⟨z, _, _⟩ | ht
  · have up := h.pos
    unfold lowF
    rw [if_neg (by omega), if_neg (by omega), if_pos z]
    omega
  · have tp := ht.pos
    rw [nx_le h ht]
    omega

theorem Two.drewN {w W : World} {s : ByteArray} {p : Int} {c : Bool} {t : ByteArray} {q : Int} {d : Bool} (h : Two w W s p c t q d) (n : Nat) : Two w (W.drewN n) s p c t q d := h.step ⟨rfl, rfl, rfl, Nat.le_refl _, fun _ _ => rfl⟩

theorem vd_len {s : ByteArray} {p : Int} {c : Bool} (h : VD s p c) : s.size ≤ 800 := by
  rcases h with ⟨z, _, _⟩ | h
  · omega
  · exact h.len
theorem vd_dg {s : ByteArray} {p : Int} {c : Bool} (h : VD s p c) : DG s := by
  rcases h with ⟨z, _, _⟩ | h
  · intro k hk; omega
  · exact h.dg
theorem vd_cut {s : ByteArray} {p : Int} (h : VD s p true) : VN s p true := by
  rcases h with ⟨_, _, z⟩ | h
  · exact absurd z (by decide)
  · exact h

set_option maxRecDepth 100000 in
set_option maxHeartbeats 1000000 in
theorem rcmp_bad1 {s : ByteArray} {p : Int} {c : Bool} {t : ByteArray} {q : Int} {d : Bool} (hs : s.size ≤ 9223372036854775807) (h : ¬ VD s p c) (w : World) :
    Calls Tryd.prog 8 #[dcV s p c, dcV t q d] w fun e w' => e = .returned (.tuple #[.int .i64 0, .int .i64 1]) ∧ Below w.heap.size w w' := by
  have V1 := fun W => rvald_no hs h W
  unfold dcV at *
  go_enter Tryd.func8, Tryd.ntmps8
  go_wp2_with fail
  refine (V1 _).mono ?_
  rintro e w1 ⟨rfl, hb1⟩
  have T1 := (Two.start w s p c t q d).step hb1
  clear hb1
  have HT1 : Hid (Two w w1 s p c t q d) := T1
  obtain ⟨_, _, a01, a11, a21, b01, b11, b21⟩ := T1
  go_wp2
  go_ret2
  exact ⟨rfl, HT1.out.bel⟩

set_option maxRecDepth 100000 in
set_option maxHeartbeats 1000000 in
theorem rcmp_bad2 {s : ByteArray} {p : Int} {c : Bool} {t : ByteArray} {q : Int} {d : Bool} (ht : t.size ≤ 9223372036854775807) (h1 : VD s p c) (h2 : ¬ VD t q d) (w : World) :
    Calls Tryd.prog 8 #[dcV s p c, dcV t q d] w fun e w' => e = .returned (.tuple #[.int .i64 0, .int .i64 1]) ∧ Below w.heap.size w w' := by
  have V1 := fun W => rvald_yes h1 W
  have V2 := fun W => rvald_no ht h2 W
  unfold dcV at *
  go_enter Tryd.func8, Tryd.ntmps8
  go_wp2_with fail
  refine (V1 _).mono ?_
  rintro e w1 ⟨rfl, hb1⟩
  have T1 := (Two.start w s p c t q d).step hb1
  clear hb1
  have HT1 : Hid (Two w w1 s p c t q d) := T1
  obtain ⟨_, _, a01, a11, a21, b01, b11, b21⟩ := T1
  go_wp2_with fail
  refine (V2 _).mono ?_
  rintro e w2 ⟨rfl, hb2⟩
  clear a01 a11 a21 b01 b11 b21
  have T2 := HT1.out.step hb2
  clear hb2
  have HT2 : Hid (Two w w2 s p c t q d) := T2
  obtain ⟨_, _, a02, a12, a22, b02, b12, b22⟩ := T2
  go_wp2
  go_ret2
  exact ⟨rfl, HT2.out.bel⟩

set_option maxRecDepth 100000 in
set_option maxHeartbeats 1000000 in
theorem rcmp_ff {s : ByteArray} {p : Int} {t : ByteArray} {q : Int} (h1 : VD s p false) (h2 : VD t q false) (w : World) :
    Calls Tryd.prog 8 #[dcV s p false, dcV t q false] w fun e w' => e = .returned (.tuple #[.int .i64 (lowF s p t q), .int .i64 0]) ∧ Below w.heap.size w w' := by
  have V1 := fun W => rvald_yes h1 W
  have V2 := fun W => rvald_yes h2 W
  have L0 := fun W => lower_any (c := false) (d := false) (p := p) (q := q) (vd_len h1) (vd_len h2) (vd_dg h1) (vd_dg h2) W
  have H1 : Hid (VD s p false) := h1
  have H2 : Hid (VD t q false) := h2
  clear h1 h2
  unfold dcV at *
  go_enter Tryd.func8, Tryd.ntmps8
  go_wp2_with fail
  refine (V1 _).mono ?_
  rintro e w1 ⟨rfl, hb1⟩
  have T1 := (Two.start w s p false t q false).step hb1
  clear hb1
  have HT1 : Hid (Two w w1 s p false t q false) := T1
  obtain ⟨_, _, a01, a11, a21, b01, b11, b21⟩ := T1
  go_wp2_with fail
  refine (V2 _).mono ?_
  rintro e w2 ⟨rfl, hb2⟩
  clear a01 a11 a21 b01 b11 b21
  have T2 := HT1.out.step hb2
  clear hb2
  have HT2 : Hid (Two w w2 s p false t q false) := T2
  obtain ⟨_, _, a02, a12, a22, b02, b12, b22⟩ := T2
  go_wp2_with fail
  refine (L0 _).mono ?_
  rintro e w3 ⟨rfl, hb3⟩
  clear a02 a12 a22 b02 b12 b22
  have T3 := HT2.out.step hb3
  clear hb3
  have HT3 : Hid (Two w w3 s p false t q false) := T3
  obtain ⟨_, _, a03, a13, a23, b03, b13, b23⟩ := T3
  go_wp2
  go_ret2
  exact ⟨rfl, HT3.out.bel⟩

set_option maxRecDepth 100000 in
set_option maxHeartbeats 1000000 in
theorem rcmp_a {s : ByteArray} {p : Int} {t : ByteArray} {q : Int} {d : Bool} (h1 : VD s p true) (h2 : VD t q d) (hb : BB s p t q) (w : World) :
    Calls Tryd.prog 8 #[dcV s p true, dcV t q d] w fun e w' => e = .returned (.tuple #[.int .i64 (-1), .int .i64 0]) ∧ Below w.heap.size w w' := by
  have V1 := fun W => rvald_yes h1 W
  have V2 := fun W => rvald_yes h2 W
  have L0 := fun W => lower_any (c := true) (d := d) (p := p) (q := q) (vd_len h1) (vd_len h2) (vd_dg h1) (vd_dg h2) W
  have H1 : Hid (VD s p true) := h1
  have H2 : Hid (VD t q d) := h2
  have NA := fun W => next_any (c := true) (vd_cut h1).pos (vd_cut h1).len (vd_cut h1).dg (vd_cut h1).lo (vd_cut h1).hi W
  have LA := fun u p' (h : NX s p u p') W => lower_any (s := u) (p := p') (c := false) (d := d) (q := q) h.len (vd_len h2) h.dg (vd_dg h2) W
  have HBa : Hid (BB s p t q) := hb
  clear h1 h2 hb
  unfold dcV at *
  go_enter Tryd.func8, Tryd.ntmps8
  go_wp2_with fail
  refine (V1 _).mono ?_
  rintro e w1 ⟨rfl, hb1⟩
  have T1 := (Two.start w s p true t q d).step hb1
  clear hb1
  have HT1 : Hid (Two w w1 s p true t q d) := T1
  obtain ⟨_, _, a01, a11, a21, b01, b11, b21⟩ := T1
  go_wp2_with fail
  refine (V2 _).mono ?_
  rintro e w2 ⟨rfl, hb2⟩
  clear a01 a11 a21 b01 b11 b21
  have T2 := HT1.out.step hb2
  clear hb2
  have HT2 : Hid (Two w w2 s p true t q d) := T2
  obtain ⟨_, _, a02, a12, a22, b02, b12, b22⟩ := T2
  go_wp2_with fail
  refine (L0 _).mono ?_
  rintro e w3 ⟨rfl, hb3⟩
  clear a02 a12 a22 b02 b12 b22
  have T3 := HT2.out.step hb3
  clear hb3
  have HT3 : Hid (Two w w3 s p true t q d) := T3
  obtain ⟨_, _, a03, a13, a23, b03, b13, b23⟩ := T3
  go_wp2
  go_region_held3 (fun w' => w'.cell? ⟨w.heap.size, 0, none⟩ = some (.string s) ∧ w'.cell? ⟨w.heap.size, 1, none⟩ = some (.int .i64 p) ∧ w'.cell? ⟨w.heap.size, 2, none⟩ = some (.bool true) ∧ w'.cell? ⟨w.heap.size + 1, 0, none⟩ = some (.string t) ∧ w'.cell? ⟨w.heap.size + 1, 1, none⟩ = some (.int .i64 q) ∧ w'.cell? ⟨w.heap.size + 1, 2, none⟩ = some (.bool d)) (simp [*, go_sem])
    (first
      | (go_at_call 33; refine (NA _).mono ?_; rintro e w4 ⟨u4, p4, rfl, hx4, hb4⟩; have HNX4 : Hid (NX s p u4 p4) := hx4; clear hx4; have HT4 : Hid (Two w w4 s p true t q d) := HT3.out.drew.step hb4; clear hb4; obtain ⟨_, _, x04, x14, x24, x34, x44, x54⟩ := HT4.out)
      | (go_at_call 32; refine (LA _ _ HNX4.out _).mono ?_; rintro e w5 ⟨rfl, hb5⟩; have HT5 : Hid (Two w w5 s p true t q d) := HT4.out.step hb5; clear hb5; obtain ⟨_, _, x05, x15, x25, x35, x45, x55⟩ := HT5.out; have hle4 : lowF u4 p4 t q ≤ 0 := (nx_bb HNX4.out H2.out).mpr HBa.out))
  go_wp2
  go_ret2
  exact ⟨rfl, HT5.out.bel⟩

set_option maxRecDepth 100000 in
set_option maxHeartbeats 1000000 in
theorem rcmp_tt1 {s : ByteArray} {p : Int} {t : ByteArray} {q : Int} (h1 : VD s p true) (h2 : VD t q true) (hb : ¬ BB s p t q) (hd : BB t q s p) (w : World) :
    Calls Tryd.prog 8 #[dcV s p true, dcV t q true] w fun e w' => e = .returned (.tuple #[.int .i64 1, .int .i64 0]) ∧ Below w.heap.size w w' := by
  have V1 := fun W => rvald_yes h1 W
  have V2 := fun W => rvald_yes h2 W
  have L0 := fun W => lower_any (c := true) (d := true) (p := p) (q := q) (vd_len h1) (vd_len h2) (vd_dg h1) (vd_dg h2) W
  have H1 : Hid (VD s p true) := h1
  have H2 : Hid (VD t q true) := h2
  have NA := fun W => next_any (c := true) (vd_cut h1).pos (vd_cut h1).len (vd_cut h1).dg (vd_cut h1).lo (vd_cut h1).hi W
  have LA := fun u p' (h : NX s p u p') W => lower_any (s := u) (p := p') (c := false) (d := true) (q := q) h.len (vd_len h2) h.dg (vd_dg h2) W
  have NB := fun W => next_any (c := true) (vd_cut h2).pos (vd_cut h2).len (vd_cut h2).dg (vd_cut h2).lo (vd_cut h2).hi W
  have LB := fun u p' (h : NX t q u p') W => lower_any (s := u) (p := p') (c := false) (t := s) (d := true) (q := p) h.len (vd_len h1) h.dg (vd_dg h1) W
  have HBa : Hid (¬ BB s p t q) := hb
  have HBb : Hid (BB t q s p) := hd
  clear h1 h2 hb hd
  unfold dcV at *
  go_enter Tryd.func8, Tryd.ntmps8
  go_wp2_with fail
  refine (V1 _).mono ?_
  rintro e w1 ⟨rfl, hb1⟩
  have T1 := (Two.start w s p true t q true).step hb1
  clear hb1
  have HT1 : Hid (Two w w1 s p true t q true) := T1
  obtain ⟨_, _, a01, a11, a21, b01, b11, b21⟩ := T1
  go_wp2_with fail
  refine (V2 _).mono ?_
  rintro e w2 ⟨rfl, hb2⟩
  clear a01 a11 a21 b01 b11 b21
  have T2 := HT1.out.step hb2
  clear hb2
  have HT2 : Hid (Two w w2 s p true t q true) := T2
  obtain ⟨_, _, a02, a12, a22, b02, b12, b22⟩ := T2
  go_wp2_with fail
  refine (L0 _).mono ?_
  rintro e w3 ⟨rfl, hb3⟩
  clear a02 a12 a22 b02 b12 b22
  have T3 := HT2.out.step hb3
  clear hb3
  have HT3 : Hid (Two w w3 s p true t q true) := T3
  obtain ⟨_, _, a03, a13, a23, b03, b13, b23⟩ := T3
  go_wp2
  go_region_held3 (fun w' => w'.cell? ⟨w.heap.size, 0, none⟩ = some (.string s) ∧ w'.cell? ⟨w.heap.size, 1, none⟩ = some (.int .i64 p) ∧ w'.cell? ⟨w.heap.size, 2, none⟩ = some (.bool true) ∧ w'.cell? ⟨w.heap.size + 1, 0, none⟩ = some (.string t) ∧ w'.cell? ⟨w.heap.size + 1, 1, none⟩ = some (.int .i64 q) ∧ w'.cell? ⟨w.heap.size + 1, 2, none⟩ = some (.bool true)) (simp [*, go_sem])
    (first
      | (go_at_call 33; refine (NA _).mono ?_; rintro e w4 ⟨u4, p4, rfl, hx4, hb4⟩; have HNX4 : Hid (NX s p u4 p4) := hx4; clear hx4; have HT4 : Hid (Two w w4 s p true t q true) := HT3.out.drew.step hb4; clear hb4; obtain ⟨_, _, x04, x14, x24, x34, x44, x54⟩ := HT4.out)
      | (go_at_call 32; refine (LA _ _ HNX4.out _).mono ?_; rintro e w5 ⟨rfl, hb5⟩; have HT5 : Hid (Two w w5 s p true t q true) := HT4.out.step hb5; clear hb5; obtain ⟨_, _, x05, x15, x25, x35, x45, x55⟩ := HT5.out; have hle4 : ¬ lowF u4 p4 t q ≤ 0 := fun g => HBa.out ((nx_bb HNX4.out H2.out).mp g)))
  go_wp2
  go_region_held3 (fun w' => w'.cell? ⟨w.heap.size, 0, none⟩ = some (.string s) ∧ w'.cell? ⟨w.heap.size, 1, none⟩ = some (.int .i64 p) ∧ w'.cell? ⟨w.heap.size, 2, none⟩ = some (.bool true) ∧ w'.cell? ⟨w.heap.size + 1, 0, none⟩ = some (.string t) ∧ w'.cell? ⟨w.heap.size + 1, 1, none⟩ = some (.int .i64 q) ∧ w'.cell? ⟨w.heap.size + 1, 2, none⟩ = some (.bool true)) (simp [*, go_sem])
    (first
      | (go_at_call 33; refine (NB _).mono ?_; rintro e w6 ⟨u6, p6, rfl, hx6, hb6⟩; have HNX6 : Hid (NX t q u6 p6) := hx6; clear hx6; have HT6 : Hid (Two w w6 s p true t q true) := HT5.out.drew.step hb6; clear hb6; obtain ⟨_, _, x06, x16, x26, x36, x46, x56⟩ := HT6.out)
      | (go_at_call 32; refine (LB _ _ HNX6.out _).mono ?_; rintro e w7 ⟨rfl, hb7⟩; have HT7 : Hid (Two w w7 s p true t q true) := HT6.out.step hb7; clear hb7; obtain ⟨_, _, x07, x17, x27, x37, x47, x57⟩ := HT7.out; have hle6 : lowF u6 p6 s p ≤ 0 := (nx_bb HNX6.out H1.out).mpr HBb.out))
  go_wp2
  go_ret2
  exact ⟨rfl, HT7.out.bel⟩

set_option maxRecDepth 100000 in
set_option maxHeartbeats 1000000 in
theorem rcmp_tt2 {s : ByteArray} {p : Int} {t : ByteArray} {q : Int} (h1 : VD s p true) (h2 : VD t q true) (hb : ¬ BB s p t q) (hd : ¬ BB t q s p) (w : World) :
    Calls Tryd.prog 8 #[dcV s p true, dcV t q true] w fun e w' => e = .returned (.tuple #[.int .i64 2, .int .i64 0]) ∧ Below w.heap.size w w' := by
  have V1 := fun W => rvald_yes h1 W
  have V2 := fun W => rvald_yes h2 W
  have L0 := fun W => lower_any (c := true) (d := true) (p := p) (q := q) (vd_len h1) (vd_len h2) (vd_dg h1) (vd_dg h2) W
  have H1 : Hid (VD s p true) := h1
  have H2 : Hid (VD t q true) := h2
  have NA := fun W => next_any (c := true) (vd_cut h1).pos (vd_cut h1).len (vd_cut h1).dg (vd_cut h1).lo (vd_cut h1).hi W
  have LA := fun u p' (h : NX s p u p') W => lower_any (s := u) (p := p') (c := false) (d := true) (q := q) h.len (vd_len h2) h.dg (vd_dg h2) W
  have NB := fun W => next_any (c := true) (vd_cut h2).pos (vd_cut h2).len (vd_cut h2).dg (vd_cut h2).lo (vd_cut h2).hi W
  have LB := fun u p' (h : NX t q u p') W => lower_any (s := u) (p := p') (c := false) (t := s) (d := true) (q := p) h.len (vd_len h1) h.dg (vd_dg h1) W
  have HBa : Hid (¬ BB s p t q) := hb
  have HBb : Hid (¬ BB t q s p) := hd
  clear h1 h2 hb hd
  unfold dcV at *
  go_enter Tryd.func8, Tryd.ntmps8
  go_wp2_with fail
  refine (V1 _).mono ?_
  rintro e w1 ⟨rfl, hb1⟩
  have T1 := (Two.start w s p true t q true).step hb1
  clear hb1
  have HT1 : Hid (Two w w1 s p true t q true) := T1
  obtain ⟨_, _, a01, a11, a21, b01, b11, b21⟩ := T1
  go_wp2_with fail
  refine (V2 _).mono ?_
  rintro e w2 ⟨rfl, hb2⟩
  clear a01 a11 a21 b01 b11 b21
  have T2 := HT1.out.step hb2
  clear hb2
  have HT2 : Hid (Two w w2 s p true t q true) := T2
  obtain ⟨_, _, a02, a12, a22, b02, b12, b22⟩ := T2
  go_wp2_with fail
  refine (L0 _).mono ?_
  rintro e w3 ⟨rfl, hb3⟩
  clear a02 a12 a22 b02 b12 b22
  have T3 := HT2.out.step hb3
  clear hb3
  have HT3 : Hid (Two w w3 s p true t q true) := T3
  obtain ⟨_, _, a03, a13, a23, b03, b13, b23⟩ := T3
  go_wp2
  go_region_held3 (fun w' => w'.cell? ⟨w.heap.size, 0, none⟩ = some (.string s) ∧ w'.cell? ⟨w.heap.size, 1, none⟩ = some (.int .i64 p) ∧ w'.cell? ⟨w.heap.size, 2, none⟩ = some (.bool true) ∧ w'.cell? ⟨w.heap.size + 1, 0, none⟩ = some (.string t) ∧ w'.cell? ⟨w.heap.size + 1, 1, none⟩ = some (.int .i64 q) ∧ w'.cell? ⟨w.heap.size + 1, 2, none⟩ = some (.bool true)) (simp [*, go_sem])
    (first
      | (go_at_call 33; refine (NA _).mono ?_; rintro e w4 ⟨u4, p4, rfl, hx4, hb4⟩; have HNX4 : Hid (NX s p u4 p4) := hx4; clear hx4; have HT4 : Hid (Two w w4 s p true t q true) := HT3.out.drew.step hb4; clear hb4; obtain ⟨_, _, x04, x14, x24, x34, x44, x54⟩ := HT4.out)
      | (go_at_call 32; refine (LA _ _ HNX4.out _).mono ?_; rintro e w5 ⟨rfl, hb5⟩; have HT5 : Hid (Two w w5 s p true t q true) := HT4.out.step hb5; clear hb5; obtain ⟨_, _, x05, x15, x25, x35, x45, x55⟩ := HT5.out; have hle4 : ¬ lowF u4 p4 t q ≤ 0 := fun g => HBa.out ((nx_bb HNX4.out H2.out).mp g)))
  go_wp2
  go_region_held3 (fun w' => w'.cell? ⟨w.heap.size, 0, none⟩ = some (.string s) ∧ w'.cell? ⟨w.heap.size, 1, none⟩ = some (.int .i64 p) ∧ w'.cell? ⟨w.heap.size, 2, none⟩ = some (.bool true) ∧ w'.cell? ⟨w.heap.size + 1, 0, none⟩ = some (.string t) ∧ w'.cell? ⟨w.heap.size + 1, 1, none⟩ = some (.int .i64 q) ∧ w'.cell? ⟨w.heap.size + 1, 2, none⟩ = some (.bool true)) (simp [*, go_sem])
    (first
      | (go_at_call 33; refine (NB _).mono ?_; rintro e w6 ⟨u6, p6, rfl, hx6, hb6⟩; have HNX6 : Hid (NX t q u6 p6) := hx6; clear hx6; have HT6 : Hid (Two w w6 s p true t q true) := HT5.out.drew.step hb6; clear hb6; obtain ⟨_, _, x06, x16, x26, x36, x46, x56⟩ := HT6.out)
      | (go_at_call 32; refine (LB _ _ HNX6.out _).mono ?_; rintro e w7 ⟨rfl, hb7⟩; have HT7 : Hid (Two w w7 s p true t q true) := HT6.out.step hb7; clear hb7; obtain ⟨_, _, x07, x17, x27, x37, x47, x57⟩ := HT7.out; have hle6 : ¬ lowF u6 p6 s p ≤ 0 := fun g => HBb.out ((nx_bb HNX6.out H1.out).mp g)))
  go_wp2
  go_ret2
  exact ⟨rfl, HT7.out.bel⟩

set_option maxRecDepth 100000 in
set_option maxHeartbeats 1000000 in
theorem rcmp_tf1 {s : ByteArray} {p : Int} {t : ByteArray} {q : Int} (h1 : VD s p true) (h2 : VD t q false) (hb : ¬ BB s p t q) (hl : 0 ≤ lowF s p t q) (w : World) :
    Calls Tryd.prog 8 #[dcV s p true, dcV t q false] w fun e w' => e = .returned (.tuple #[.int .i64 1, .int .i64 0]) ∧ Below w.heap.size w w' := by
  have V1 := fun W => rvald_yes h1 W
  have V2 := fun W => rvald_yes h2 W
  have L0 := fun W => lower_any (c := true) (d := false) (p := p) (q := q) (vd_len h1) (vd_len h2) (vd_dg h1) (vd_dg h2) W
  have H1 : Hid (VD s p true) := h1
  have H2 : Hid (VD t q false) := h2
  have NA := fun W => next_any (c := true) (vd_cut h1).pos (vd_cut h1).len (vd_cut h1).dg (vd_cut h1).lo (vd_cut h1).hi W
  have LA := fun u p' (h : NX s p u p') W => lower_any (s := u) (p := p') (c := false) (d := false) (q := q) h.len (vd_len h2) h.dg (vd_dg h2) W
  have HBa : Hid (¬ BB s p t q) := hb
  clear h1 h2 hb
  unfold dcV at *
  go_enter Tryd.func8, Tryd.ntmps8
  go_wp2_with fail
  refine (V1 _).mono ?_
  rintro e w1 ⟨rfl, hb1⟩
  have T1 := (Two.start w s p true t q false).step hb1
  clear hb1
  have HT1 : Hid (Two w w1 s p true t q false) := T1
  obtain ⟨_, _, a01, a11, a21, b01, b11, b21⟩ := T1
  go_wp2_with fail
  refine (V2 _).mono ?_
  rintro e w2 ⟨rfl, hb2⟩
  clear a01 a11 a21 b01 b11 b21
  have T2 := HT1.out.step hb2
  clear hb2
  have HT2 : Hid (Two w w2 s p true t q false) := T2
  obtain ⟨_, _, a02, a12, a22, b02, b12, b22⟩ := T2
  go_wp2_with fail
  refine (L0 _).mono ?_
  rintro e w3 ⟨rfl, hb3⟩
  clear a02 a12 a22 b02 b12 b22
  have T3 := HT2.out.step hb3
  clear hb3
  have HT3 : Hid (Two w w3 s p true t q false) := T3
  obtain ⟨_, _, a03, a13, a23, b03, b13, b23⟩ := T3
  go_wp2
  go_region_held3 (fun w' => w'.cell? ⟨w.heap.size, 0, none⟩ = some (.string s) ∧ w'.cell? ⟨w.heap.size, 1, none⟩ = some (.int .i64 p) ∧ w'.cell? ⟨w.heap.size, 2, none⟩ = some (.bool true) ∧ w'.cell? ⟨w.heap.size + 1, 0, none⟩ = some (.string t) ∧ w'.cell? ⟨w.heap.size + 1, 1, none⟩ = some (.int .i64 q) ∧ w'.cell? ⟨w.heap.size + 1, 2, none⟩ = some (.bool false)) (simp [*, go_sem])
    (first
      | (go_at_call 33; refine (NA _).mono ?_; rintro e w4 ⟨u4, p4, rfl, hx4, hb4⟩; have HNX4 : Hid (NX s p u4 p4) := hx4; clear hx4; have HT4 : Hid (Two w w4 s p true t q false) := HT3.out.drew.step hb4; clear hb4; obtain ⟨_, _, x04, x14, x24, x34, x44, x54⟩ := HT4.out)
      | (go_at_call 32; refine (LA _ _ HNX4.out _).mono ?_; rintro e w5 ⟨rfl, hb5⟩; have HT5 : Hid (Two w w5 s p true t q false) := HT4.out.step hb5; clear hb5; obtain ⟨_, _, x05, x15, x25, x35, x45, x55⟩ := HT5.out; have hle4 : ¬ lowF u4 p4 t q ≤ 0 := fun g => HBa.out ((nx_bb HNX4.out H2.out).mp g)))
  go_wp2
  go_quiet (fail)
  go_wp2
  go_ret2
  exact ⟨rfl, (HT5.out.drewN _).bel⟩

set_option maxRecDepth 100000 in
set_option maxHeartbeats 1000000 in
theorem rcmp_tf2 {s : ByteArray} {p : Int} {t : ByteArray} {q : Int} (h1 : VD s p true) (h2 : VD t q false) (hb : ¬ BB s p t q) (hl : ¬ 0 ≤ lowF s p t q) (w : World) :
    Calls Tryd.prog 8 #[dcV s p true, dcV t q false] w fun e w' => e = .returned (.tuple #[.int .i64 2, .int .i64 0]) ∧ Below w.heap.size w w' := by
  have V1 := fun W => rvald_yes h1 W
  have V2 := fun W => rvald_yes h2 W
  have L0 := fun W => lower_any (c := true) (d := false) (p := p) (q := q) (vd_len h1) (vd_len h2) (vd_dg h1) (vd_dg h2) W
  have H1 : Hid (VD s p true) := h1
  have H2 : Hid (VD t q false) := h2
  have NA := fun W => next_any (c := true) (vd_cut h1).pos (vd_cut h1).len (vd_cut h1).dg (vd_cut h1).lo (vd_cut h1).hi W
  have LA := fun u p' (h : NX s p u p') W => lower_any (s := u) (p := p') (c := false) (d := false) (q := q) h.len (vd_len h2) h.dg (vd_dg h2) W
  have HBa : Hid (¬ BB s p t q) := hb
  clear h1 h2 hb
  unfold dcV at *
  go_enter Tryd.func8, Tryd.ntmps8
  go_wp2_with fail
  refine (V1 _).mono ?_
  rintro e w1 ⟨rfl, hb1⟩
  have T1 := (Two.start w s p true t q false).step hb1
  clear hb1
  have HT1 : Hid (Two w w1 s p true t q false) := T1
  obtain ⟨_, _, a01, a11, a21, b01, b11, b21⟩ := T1
  go_wp2_with fail
  refine (V2 _).mono ?_
  rintro e w2 ⟨rfl, hb2⟩
  clear a01 a11 a21 b01 b11 b21
  have T2 := HT1.out.step hb2
  clear hb2
  have HT2 : Hid (Two w w2 s p true t q false) := T2
  obtain ⟨_, _, a02, a12, a22, b02, b12, b22⟩ := T2
  go_wp2_with fail
  refine (L0 _).mono ?_
  rintro e w3 ⟨rfl, hb3⟩
  clear a02 a12 a22 b02 b12 b22
  have T3 := HT2.out.step hb3
  clear hb3
  have HT3 : Hid (Two w w3 s p true t q false) := T3
  obtain ⟨_, _, a03, a13, a23, b03, b13, b23⟩ := T3
  go_wp2
  go_region_held3 (fun w' => w'.cell? ⟨w.heap.size, 0, none⟩ = some (.string s) ∧ w'.cell? ⟨w.heap.size, 1, none⟩ = some (.int .i64 p) ∧ w'.cell? ⟨w.heap.size, 2, none⟩ = some (.bool true) ∧ w'.cell? ⟨w.heap.size + 1, 0, none⟩ = some (.string t) ∧ w'.cell? ⟨w.heap.size + 1, 1, none⟩ = some (.int .i64 q) ∧ w'.cell? ⟨w.heap.size + 1, 2, none⟩ = some (.bool false)) (simp [*, go_sem])
    (first
      | (go_at_call 33; refine (NA _).mono ?_; rintro e w4 ⟨u4, p4, rfl, hx4, hb4⟩; have HNX4 : Hid (NX s p u4 p4) := hx4; clear hx4; have HT4 : Hid (Two w w4 s p true t q false) := HT3.out.drew.step hb4; clear hb4; obtain ⟨_, _, x04, x14, x24, x34, x44, x54⟩ := HT4.out)
      | (go_at_call 32; refine (LA _ _ HNX4.out _).mono ?_; rintro e w5 ⟨rfl, hb5⟩; have HT5 : Hid (Two w w5 s p true t q false) := HT4.out.step hb5; clear hb5; obtain ⟨_, _, x05, x15, x25, x35, x45, x55⟩ := HT5.out; have hle4 : ¬ lowF u4 p4 t q ≤ 0 := fun g => HBa.out ((nx_bb HNX4.out H2.out).mp g)))
  go_wp2
  go_quiet (fail)
  go_wp2
  go_ret2
  exact ⟨rfl, (HT5.out.drewN _).bel⟩

set_option maxRecDepth 100000 in
set_option maxHeartbeats 1000000 in
theorem rcmp_ft1 {s : ByteArray} {p : Int} {t : ByteArray} {q : Int} (h1 : VD s p false) (h2 : VD t q true) (hd : BB t q s p) (w : World) :
    Calls Tryd.prog 8 #[dcV s p false, dcV t q true] w fun e w' => e = .returned (.tuple #[.int .i64 1, .int .i64 0]) ∧ Below w.heap.size w w' := by
  have V1 := fun W => rvald_yes h1 W
  have V2 := fun W => rvald_yes h2 W
  have L0 := fun W => lower_any (c := false) (d := true) (p := p) (q := q) (vd_len h1) (vd_len h2) (vd_dg h1) (vd_dg h2) W
  have H1 : Hid (VD s p false) := h1
  have H2 : Hid (VD t q true) := h2
  have NB := fun W => next_any (c := true) (vd_cut h2).pos (vd_cut h2).len (vd_cut h2).dg (vd_cut h2).lo (vd_cut h2).hi W
  have LB := fun u p' (h : NX t q u p') W => lower_any (s := u) (p := p') (c := false) (t := s) (d := false) (q := p) h.len (vd_len h1) h.dg (vd_dg h1) W
  have HBb : Hid (BB t q s p) := hd
  clear h1 h2 hd
  unfold dcV at *
  go_enter Tryd.func8, Tryd.ntmps8
  go_wp2_with fail
  refine (V1 _).mono ?_
  rintro e w1 ⟨rfl, hb1⟩
  have T1 := (Two.start w s p false t q true).step hb1
  clear hb1
  have HT1 : Hid (Two w w1 s p false t q true) := T1
  obtain ⟨_, _, a01, a11, a21, b01, b11, b21⟩ := T1
  go_wp2_with fail
  refine (V2 _).mono ?_
  rintro e w2 ⟨rfl, hb2⟩
  clear a01 a11 a21 b01 b11 b21
  have T2 := HT1.out.step hb2
  clear hb2
  have HT2 : Hid (Two w w2 s p false t q true) := T2
  obtain ⟨_, _, a02, a12, a22, b02, b12, b22⟩ := T2
  go_wp2_with fail
  refine (L0 _).mono ?_
  rintro e w3 ⟨rfl, hb3⟩
  clear a02 a12 a22 b02 b12 b22
  have T3 := HT2.out.step hb3
  clear hb3
  have HT3 : Hid (Two w w3 s p false t q true) := T3
  obtain ⟨_, _, a03, a13, a23, b03, b13, b23⟩ := T3
  go_wp2
  go_quiet (fail)
  obtain ⟨W3, hW3⟩ : ∃ W, W = w3.drewN nq := ⟨_, rfl⟩
  have HT3d : Hid (Two w W3 s p false t q true) := by rw [hW3]; exact HT3.out.drewN _
  rw [← hW3]
  clear hW3
  clear a03 a13 a23 b03 b13 b23
  obtain ⟨_, _, y0, y1, y2, y3, y4, y5⟩ := HT3d.out
  go_wp2
  go_region_held3 (fun w' => w'.cell? ⟨w.heap.size, 0, none⟩ = some (.string s) ∧ w'.cell? ⟨w.heap.size, 1, none⟩ = some (.int .i64 p) ∧ w'.cell? ⟨w.heap.size, 2, none⟩ = some (.bool false) ∧ w'.cell? ⟨w.heap.size + 1, 0, none⟩ = some (.string t) ∧ w'.cell? ⟨w.heap.size + 1, 1, none⟩ = some (.int .i64 q) ∧ w'.cell? ⟨w.heap.size + 1, 2, none⟩ = some (.bool true)) (simp [*, go_sem])
    (first
      | (go_at_call 33; refine (NB _).mono ?_; rintro e w6 ⟨u6, p6, rfl, hx6, hb6⟩; have HNX6 : Hid (NX t q u6 p6) := hx6; clear hx6; have HT6 : Hid (Two w w6 s p false t q true) := HT3d.out.drew.step hb6; clear hb6; obtain ⟨_, _, x06, x16, x26, x36, x46, x56⟩ := HT6.out)
      | (go_at_call 32; refine (LB _ _ HNX6.out _).mono ?_; rintro e w7 ⟨rfl, hb7⟩; have HT7 : Hid (Two w w7 s p false t q true) := HT6.out.step hb7; clear hb7; obtain ⟨_, _, x07, x17, x27, x37, x47, x57⟩ := HT7.out; have hle6 : lowF u6 p6 s p ≤ 0 := (nx_bb HNX6.out H1.out).mpr HBb.out))
  go_wp2
  go_ret2
  exact ⟨rfl, HT7.out.bel⟩

set_option maxRecDepth 100000 in
set_option maxHeartbeats 1000000 in
theorem rcmp_ft2 {s : ByteArray} {p : Int} {t : ByteArray} {q : Int} (h1 : VD s p false) (h2 : VD t q true) (hd : ¬ BB t q s p) (hl : lowF s p t q ≤ 0) (w : World) :
    Calls Tryd.prog 8 #[dcV s p false, dcV t q true] w fun e w' => e = .returned (.tuple #[.int .i64 (-1), .int .i64 0]) ∧ Below w.heap.size w w' := by
  have V1 := fun W => rvald_yes h1 W
  have V2 := fun W => rvald_yes h2 W
  have L0 := fun W => lower_any (c := false) (d := true) (p := p) (q := q) (vd_len h1) (vd_len h2) (vd_dg h1) (vd_dg h2) W
  have H1 : Hid (VD s p false) := h1
  have H2 : Hid (VD t q true) := h2
  have NB := fun W => next_any (c := true) (vd_cut h2).pos (vd_cut h2).len (vd_cut h2).dg (vd_cut h2).lo (vd_cut h2).hi W
  have LB := fun u p' (h : NX t q u p') W => lower_any (s := u) (p := p') (c := false) (t := s) (d := false) (q := p) h.len (vd_len h1) h.dg (vd_dg h1) W
  have HBb : Hid (¬ BB t q s p) := hd
  clear h1 h2 hd
  unfold dcV at *
  go_enter Tryd.func8, Tryd.ntmps8
  go_wp2_with fail
  refine (V1 _).mono ?_
  rintro e w1 ⟨rfl, hb1⟩
  have T1 := (Two.start w s p false t q true).step hb1
  clear hb1
  have HT1 : Hid (Two w w1 s p false t q true) := T1
  obtain ⟨_, _, a01, a11, a21, b01, b11, b21⟩ := T1
  go_wp2_with fail
  refine (V2 _).mono ?_
  rintro e w2 ⟨rfl, hb2⟩
  clear a01 a11 a21 b01 b11 b21
  have T2 := HT1.out.step hb2
  clear hb2
  have HT2 : Hid (Two w w2 s p false t q true) := T2
  obtain ⟨_, _, a02, a12, a22, b02, b12, b22⟩ := T2
  go_wp2_with fail
  refine (L0 _).mono ?_
  rintro e w3 ⟨rfl, hb3⟩
  clear a02 a12 a22 b02 b12 b22
  have T3 := HT2.out.step hb3
  clear hb3
  have HT3 : Hid (Two w w3 s p false t q true) := T3
  obtain ⟨_, _, a03, a13, a23, b03, b13, b23⟩ := T3
  go_wp2
  go_quiet (fail)
  obtain ⟨W3, hW3⟩ : ∃ W, W = w3.drewN nq := ⟨_, rfl⟩
  have HT3d : Hid (Two w W3 s p false t q true) := by rw [hW3]; exact HT3.out.drewN _
  rw [← hW3]
  clear hW3
  clear a03 a13 a23 b03 b13 b23
  obtain ⟨_, _, y0, y1, y2, y3, y4, y5⟩ := HT3d.out
  go_wp2
  go_region_held3 (fun w' => w'.cell? ⟨w.heap.size, 0, none⟩ = some (.string s) ∧ w'.cell? ⟨w.heap.size, 1, none⟩ = some (.int .i64 p) ∧ w'.cell? ⟨w.heap.size, 2, none⟩ = some (.bool false) ∧ w'.cell? ⟨w.heap.size + 1, 0, none⟩ = some (.string t) ∧ w'.cell? ⟨w.heap.size + 1, 1, none⟩ = some (.int .i64 q) ∧ w'.cell? ⟨w.heap.size + 1, 2, none⟩ = some (.bool true)) (simp [*, go_sem])
    (first
      | (go_at_call 33; refine (NB _).mono ?_; rintro e w6 ⟨u6, p6, rfl, hx6, hb6⟩; have HNX6 : Hid (NX t q u6 p6) := hx6; clear hx6; have HT6 : Hid (Two w w6 s p false t q true) := HT3d.out.drew.step hb6; clear hb6; obtain ⟨_, _, x06, x16, x26, x36, x46, x56⟩ := HT6.out)
      | (go_at_call 32; refine (LB _ _ HNX6.out _).mono ?_; rintro e w7 ⟨rfl, hb7⟩; have HT7 : Hid (Two w w7 s p false t q true) := HT6.out.step hb7; clear hb7; obtain ⟨_, _, x07, x17, x27, x37, x47, x57⟩ := HT7.out; have hle6 : ¬ lowF u6 p6 s p ≤ 0 := fun g => HBb.out ((nx_bb HNX6.out H1.out).mp g)))
  go_wp2
  go_ret2
  exact ⟨rfl, HT7.out.bel⟩

set_option maxRecDepth 100000 in
set_option maxHeartbeats 1000000 in
theorem rcmp_ft3 {s : ByteArray} {p : Int} {t : ByteArray} {q : Int} (h1 : VD s p false) (h2 : VD t q true) (hd : ¬ BB t q s p) (hl : ¬ lowF s p t q ≤ 0) (w : World) :
    Calls Tryd.prog 8 #[dcV s p false, dcV t q true] w fun e w' => e = .returned (.tuple #[.int .i64 2, .int .i64 0]) ∧ Below w.heap.size w w' := by
  have V1 := fun W => rvald_yes h1 W
  have V2 := fun W => rvald_yes h2 W
  have L0 := fun W => lower_any (c := false) (d := true) (p := p) (q := q) (vd_len h1) (vd_len h2) (vd_dg h1) (vd_dg h2) W
  have H1 : Hid (VD s p false) := h1
  have H2 : Hid (VD t q true) := h2
  have NB := fun W => next_any (c := true) (vd_cut h2).pos (vd_cut h2).len (vd_cut h2).dg (vd_cut h2).lo (vd_cut h2).hi W
  have LB := fun u p' (h : NX t q u p') W => lower_any (s := u) (p := p') (c := false) (t := s) (d := false) (q := p) h.len (vd_len h1) h.dg (vd_dg h1) W
  have HBb : Hid (¬ BB t q s p) := hd
  clear h1 h2 hd
  unfold dcV at *
  go_enter Tryd.func8, Tryd.ntmps8
  go_wp2_with fail
  refine (V1 _).mono ?_
  rintro e w1 ⟨rfl, hb1⟩
  have T1 := (Two.start w s p false t q true).step hb1
  clear hb1
  have HT1 : Hid (Two w w1 s p false t q true) := T1
  obtain ⟨_, _, a01, a11, a21, b01, b11, b21⟩ := T1
  go_wp2_with fail
  refine (V2 _).mono ?_
  rintro e w2 ⟨rfl, hb2⟩
  clear a01 a11 a21 b01 b11 b21
  have T2 := HT1.out.step hb2
  clear hb2
  have HT2 : Hid (Two w w2 s p false t q true) := T2
  obtain ⟨_, _, a02, a12, a22, b02, b12, b22⟩ := T2
  go_wp2_with fail
  refine (L0 _).mono ?_
  rintro e w3 ⟨rfl, hb3⟩
  clear a02 a12 a22 b02 b12 b22
  have T3 := HT2.out.step hb3
  clear hb3
  have HT3 : Hid (Two w w3 s p false t q true) := T3
  obtain ⟨_, _, a03, a13, a23, b03, b13, b23⟩ := T3
  go_wp2
  go_quiet (fail)
  obtain ⟨W3, hW3⟩ : ∃ W, W = w3.drewN nq := ⟨_, rfl⟩
  have HT3d : Hid (Two w W3 s p false t q true) := by rw [hW3]; exact HT3.out.drewN _
  rw [← hW3]
  clear hW3
  clear a03 a13 a23 b03 b13 b23
  obtain ⟨_, _, y0, y1, y2, y3, y4, y5⟩ := HT3d.out
  go_wp2
  go_region_held3 (fun w' => w'.cell? ⟨w.heap.size, 0, none⟩ = some (.string s) ∧ w'.cell? ⟨w.heap.size, 1, none⟩ = some (.int .i64 p) ∧ w'.cell? ⟨w.heap.size, 2, none⟩ = some (.bool false) ∧ w'.cell? ⟨w.heap.size + 1, 0, none⟩ = some (.string t) ∧ w'.cell? ⟨w.heap.size + 1, 1, none⟩ = some (.int .i64 q) ∧ w'.cell? ⟨w.heap.size + 1, 2, none⟩ = some (.bool true)) (simp [*, go_sem])
    (first
      | (go_at_call 33; refine (NB _).mono ?_; rintro e w6 ⟨u6, p6, rfl, hx6, hb6⟩; have HNX6 : Hid (NX t q u6 p6) := hx6; clear hx6; have HT6 : Hid (Two w w6 s p false t q true) := HT3d.out.drew.step hb6; clear hb6; obtain ⟨_, _, x06, x16, x26, x36, x46, x56⟩ := HT6.out)
      | (go_at_call 32; refine (LB _ _ HNX6.out _).mono ?_; rintro e w7 ⟨rfl, hb7⟩; have HT7 : Hid (Two w w7 s p false t q true) := HT6.out.step hb7; clear hb7; obtain ⟨_, _, x07, x17, x27, x37, x47, x57⟩ := HT7.out; have hle6 : ¬ lowF u6 p6 s p ≤ 0 := fun g => HBb.out ((nx_bb HNX6.out H1.out).mp g)))
  go_wp2
  go_ret2
  exact ⟨rfl, HT7.out.bel⟩

end Go.Proofs.YtkkgancmodhghabDoor
