/-
  Comparing decimal numbers: the calls of dec's Compare, for each way in which two numbers may lie.
-/
import Derived.Test.YtladeppjccfbhaaDoorDecV
import Derived.Deep.RegionHeld3
import Derived.BigQuiet
namespace Go.Proofs.YtladeppjccfbhaaDoor
open Go.RowKit

/-- Two numbers in the call's own boxes. -/
structure Two (w W : World) (s : ByteArray) (p : Int) (c : Bool) (t : ByteArray) (q : Int) (d : Bool) : Prop where
  sz : w.heap.size + 2 ≤ W.heap.size
  bel : Below w.heap.size w W
  a0 : W.cell? ⟨w.heap.size, 0, none⟩ = some (.string s)
  a1 : W.cell? ⟨w.heap.size, 1, none⟩ = some (.int .i64 p)
  a2 : W.cell? ⟨w.heap.size, 2, none⟩ = some (.bool c)
  b0 : W.cell? ⟨w.heap.size + 1, 0, none⟩ = some (.string t)
  b1 : W.cell? ⟨w.heap.size + 1, 1, none⟩ = some (.int .i64 q)
  b2 : W.cell? ⟨w.heap.size + 1, 2, none⟩ = some (.bool d)

theorem Two.step {w W W' : World} {s : ByteArray} {p : Int} {c : Bool} {t : ByteArray} {q : Int} {d : Bool} (h : Two w W s p c t q d) (hb : Below W.heap.size W W') : Two w W' s p c t q d := by
  have z := h.sz
  have k : ∀ o, W'.cell? ⟨w.heap.size, o, none⟩ = W.cell? ⟨w.heap.size, o, none⟩ := fun o => hb.cell (p := ⟨w.heap.size, o, none⟩) (by show w.heap.size < W.heap.size; omega)
  have k' : ∀ o, W'.cell? ⟨w.heap.size + 1, o, none⟩ = W.cell? ⟨w.heap.size + 1, o, none⟩ := fun o => hb.cell (p := ⟨w.heap.size + 1, o, none⟩) (by show w.heap.size + 1 < W.heap.size; omega)
  exact ⟨Nat.le_trans z hb.size, h.bel.trans (hb.mono (by omega)), (k 0).trans h.a0, (k 1).trans h.a1, (k 2).trans h.a2, (k' 0).trans h.b0, (k' 1).trans h.b1, (k' 2).trans h.b2⟩

theorem Two.start (w : World) (s : ByteArray) (p : Int) (c : Bool) (t : ByteArray) (q : Int) (d : Bool) : Two w ((w.alloc (.cells #[.string s, .int .i64 p, .bool c] 23)).alloc (.cells #[.string t, .int .i64 q, .bool d] 23)) s p c t q d :=
  ⟨by simp, ((Below.refl _ _).alloc (Nat.le_refl _) _).alloc (by simp) _, by simp, by simp, by simp, by simp, by simp, by simp⟩

theorem Two.drew {w W : World} {s : ByteArray} {p : Int} {c : Bool} {t : ByteArray} {q : Int} {d : Bool} (h : Two w W s p c t q d) : Two w W.drew s p c t q d := h.step (Below.refl _ _).drew

set_option maxRecDepth 100000 in
set_option maxHeartbeats 1000000 in
theorem dcmp_bad1 {s : ByteArray} {p : Int} {c : Bool} {t : ByteArray} {q : Int} {d : Bool} (hs : s.size ≤ 9223372036854775807) (h : ¬ VD s p c) (w : World) :
    Calls Tryd.prog 8 #[dcV s p c, dcV t q d] w fun e w' => e = .returned (.tuple #[.int .i64 0, .iface 68 (.int .i64 1)]) ∧ Below w.heap.size w w' := by
  have V1 := fun W => dvalid_no hs h W
  unfold dcV at *
  go_enter Tryd.func8, Tryd.ntmps8
  go_wp2_with fail
  refine (V1 _).mono ?_
  rintro e w1 ⟨rfl, hb1⟩
  have T1 := (Two.start w s p c t q d).step hb1
  clear hb1
  have HT1 : Hid (Two w w1 s p c t q d) := T1
  obtain ⟨_, _, a01, a11, a21, b01, b11, b21⟩ := T1
  go_wp2
  go_ret2
  exact ⟨rfl, HT1.out.bel⟩

set_option maxRecDepth 100000 in
set_option maxHeartbeats 1000000 in
theorem dcmp_bad2 {s : ByteArray} {p : Int} {c : Bool} {t : ByteArray} {q : Int} {d : Bool} (ht : t.size ≤ 9223372036854775807) (h1 : VD s p c) (h2 : ¬ VD t q d) (w : World) :
    Calls Tryd.prog 8 #[dcV s p c, dcV t q d] w fun e w' => e = .returned (.tuple #[.int .i64 0, .iface 68 (.int .i64 1)]) ∧ Below w.heap.size w w' := by
  have V1 := fun W => dvalid_yes h1 W
  have V2 := fun W => dvalid_no ht h2 W
  unfold dcV at *
  go_enter Tryd.func8, Tryd.ntmps8
  go_wp2_with fail
  refine (V1 _).mono ?_
  rintro e w1 ⟨rfl, hb1⟩
  have T1 := (Two.start w s p c t q d).step hb1
  clear hb1
  have HT1 : Hid (Two w w1 s p c t q d) := T1
  obtain ⟨_, _, a01, a11, a21, b01, b11, b21⟩ := T1
  go_wp2_with fail
  refine (V2 _).mono ?_
  rintro e w2 ⟨rfl, hb2⟩
  clear a01 a11 a21 b01 b11 b21
  have T2 := HT1.out.step hb2
  clear hb2
  have HT2 : Hid (Two w w2 s p c t q d) := T2
  obtain ⟨_, _, a02, a12, a22, b02, b12, b22⟩ := T2
  go_wp2
  go_ret2
  exact ⟨rfl, HT2.out.bel⟩

set_option maxRecDepth 100000 in
set_option maxHeartbeats 1000000 in
theorem dcmp_empty {s : ByteArray} {p : Int} {c : Bool} {t : ByteArray} {q : Int} {d : Bool} (h1 : VD s p c) (h2 : VD t q d) (he : s.size = 0 ∨ t.size = 0) (w : World) :
    Calls Tryd.prog 8 #[dcV s p c, dcV t q d] w fun e w' => e = .returned (.tuple #[.int .i64 (cmpI (s.size : Int) (t.size : Int)), .nilIface]) ∧ Below w.heap.size w w' := by
  have V1 := fun W => dvalid_yes h1 W
  have V2 := fun W => dvalid_yes h2 W
  have CI := fun x y W => cmp_int x y W
  clear h1 h2
  by_cases z : s.size = 0
  · obtain rfl := size_zero z
    clear z he
    unfold dcV at *
    go_enter Tryd.func8, Tryd.ntmps8
    go_wp2_with fail
    refine (V1 _).mono ?_
    rintro e w1 ⟨rfl, hb1⟩
    have T1 := (Two.start w ⟨#[]⟩ p c t q d).step hb1
    clear hb1
    have HT1 : Hid (Two w w1 ⟨#[]⟩ p c t q d) := T1
    obtain ⟨_, _, a01, a11, a21, b01, b11, b21⟩ := T1
    go_wp2_with fail
    refine (V2 _).mono ?_
    rintro e w2 ⟨rfl, hb2⟩
    clear a01 a11 a21 b01 b11 b21
    have T2 := HT1.out.step hb2
    clear hb2
    have HT2 : Hid (Two w w2 ⟨#[]⟩ p c t q d) := T2
    obtain ⟨_, _, a02, a12, a22, b02, b12, b22⟩ := T2
    go_wp2_with fail
    refine (CI _ _ _).mono ?_
    rintro e w3 ⟨rfl, rfl⟩
    go_wp2
    go_ret2
    exact ⟨rfl, HT2.out.bel⟩
  · have z2 := he.resolve_left z
    obtain rfl := size_zero z2
    have hE := empty_false (s := s) (by omega)
    clear z z2 he
    unfold dcV at *
    go_enter Tryd.func8, Tryd.ntmps8
    go_wp2_with fail
    refine (V1 _).mono ?_
    rintro e w1 ⟨rfl, hb1⟩
    have T1 := (Two.start w s p c ⟨#[]⟩ q d).step hb1
    clear hb1
    have HT1 : Hid (Two w w1 s p c ⟨#[]⟩ q d) := T1
    obtain ⟨_, _, a01, a11, a21, b01, b11, b21⟩ := T1
    go_wp2_with fail
    refine (V2 _).mono ?_
    rintro e w2 ⟨rfl, hb2⟩
    clear a01 a11 a21 b01 b11 b21
    have T2 := HT1.out.step hb2
    clear hb2
    have HT2 : Hid (Two w w2 s p c ⟨#[]⟩ q d) := T2
    obtain ⟨_, _, a02, a12, a22, b02, b12, b22⟩ := T2
    go_wp2_with fail
    refine (CI _ _ _).mono ?_
    rintro e w3 ⟨rfl, rfl⟩
    go_wp2
    go_ret2
    exact ⟨rfl, HT2.out.bel⟩

set_option maxRecDepth 100000 in
set_option maxHeartbeats 1000000 in
theorem dcmp_point {s : ByteArray} {p : Int} {c : Bool} {t : ByteArray} {q : Int} {d : Bool} (h1 : VD s p c) (h2 : VD t q d) (hs : 0 < s.size) (ht : 0 < t.size) (hp : p ≠ q) (w : World) :
    Calls Tryd.prog 8 #[dcV s p c, dcV t q d] w fun e w' => e = .returned (.tuple #[.int .i64 (cmpI p q), .nilIface]) ∧ Below w.heap.size w w' := by
  have V1 := fun W => dvalid_yes h1 W
  have V2 := fun W => dvalid_yes h2 W
  have CI := fun x y W => cmp_int x y W
  have hE := empty_false hs
  have hE' := empty_false ht
  have hp' : (p == q) = false := beq_eq_false_iff_ne.mpr hp
  clear h1 h2 hp
  unfold dcV at *
  go_enter Tryd.func8, Tryd.ntmps8
  go_wp2_with fail
  refine (V1 _).mono ?_
  rintro e w1 ⟨rfl, hb1⟩
  have T1 := (Two.start w s p c t q d).step hb1
  clear hb1
  have HT1 : Hid (Two w w1 s p c t q d) := T1
  obtain ⟨_, _, a01, a11, a21, b01, b11, b21⟩ := T1
  go_wp2_with fail
  refine (V2 _).mono ?_
  rintro e w2 ⟨rfl, hb2⟩
  clear a01 a11 a21 b01 b11 b21
  have T2 := HT1.out.step hb2
  clear hb2
  have HT2 : Hid (Two w w2 s p c t q d) := T2
  obtain ⟨_, _, a02, a12, a22, b02, b12, b22⟩ := T2
  go_wp2_with fail
  refine (CI _ _ _).mono ?_
  rintro e w3 ⟨rfl, rfl⟩
  go_wp2
  go_ret2
  exact ⟨rfl, HT2.out.bel⟩

set_option maxRecDepth 100000 in
set_option maxHeartbeats 1000000 in
theorem dcmp_diff {s : ByteArray} {p : Int} {c : Bool} {t : ByteArray} {d : Bool} (h1 : VD s p c) (h2 : VD t p d) (i : Nat) (hs : i < s.size) (ht : i < t.size) (heq : ∀ j, j < i → ∀ (a : j < s.size) (b : j < t.size), (s[j]'a).toNat = (t[j]'b).toNat) (hne : (s[i]'hs).toNat ≠ (t[i]'ht).toNat) (w : World) :
    Calls Tryd.prog 8 #[dcV s p c, dcV t p d] w fun e w' => e = .returned (.tuple #[.int .i64 (cmpI (s[i]'hs).toNat (t[i]'ht).toNat), .nilIface]) ∧ Below w.heap.size w w' := by
  have V1 := fun W => dvalid_yes h1 W
  have V2 := fun W => dvalid_yes h2 W
  have CB := fun x y W => cmp_byte x y W
  have hE := empty_false (s := s) (by omega)
  have hE' := empty_false (s := t) (by omega)
  have HEQ : Hid (∀ j, j < i → ∀ (a : j < s.size) (b : j < t.size), (s[j]'a).toNat = (t[j]'b).toNat) := heq
  have hne' : ((((s[i]'hs).toNat : Nat) : Int) == (((t[i]'ht).toNat : Nat) : Int)) = false := beq_eq_false_iff_ne.mpr (by omega)
  have l1 : s.size ≤ 800 := by rcases h1 with ⟨z, _⟩ | z; exact (by omega); exact z.len
  have l2 : t.size ≤ 800 := by rcases h2 with ⟨z, _⟩ | z; exact (by omega); exact z.len
  clear h1 h2 heq hne
  by_cases hle : t.size < s.size
  · unfold dcV at *
    go_enter Tryd.func8, Tryd.ntmps8
    go_wp2_with fail
    refine (V1 _).mono ?_
    rintro e w1 ⟨rfl, hb1⟩
    have T1 := (Two.start w s p c t p d).step hb1
    clear hb1
    have HT1 : Hid (Two w w1 s p c t p d) := T1
    obtain ⟨_, _, a01, a11, a21, b01, b11, b21⟩ := T1
    go_wp2_with fail
    refine (V2 _).mono ?_
    rintro e w2 ⟨rfl, hb2⟩
    clear a01 a11 a21 b01 b11 b21
    have T2 := HT1.out.step hb2
    clear hb2
    have HT2 : Hid (Two w w2 s p c t p d) := T2
    obtain ⟨_, _, a02, a12, a22, b02, b12, b22⟩ := T2
    go_wp2
    go_loopw [50] (fun iv wr => ∃ k : Nat, iv = .int .i64 (k : Int) ∧ k ≤ i ∧ Hid (Two w wr s p c t p d)) (fun iv _ => i - (intOf iv).toNat)
    case atStart => exact ⟨0, rfl, Nat.zero_le _, HT2⟩
    case round =>
      obtain ⟨k, rfl, hk, HT⟩ := hrel
      obtain ⟨_, _, a0, a1, a2, b0, b1, b2⟩ := HT.out
      by_cases hki : k < i
      · have hks : k < s.size := by omega
        have hkt : k < t.size := by omega
        have hq : ((((s[k]'hks).toNat : Nat) : Int) == (((t[k]'hkt).toNat : Nat) : Int)) = true := beq_iff_eq.mpr (by have := HEQ.out k hki hks hkt; omega)
        go_wp2
        go_region
        all_goals
          go_wp2
          go_roundw
          case rel => exact ⟨k + 1, by go_num, by omega, HT.out.drew⟩
          case measure => simp [intOf]; omega
      · obtain rfl : k = i := by omega
        go_wp2
        go_region
        all_goals
          go_wp2
          go_region_held3 (fun w' => w'.cell? ⟨w.heap.size, 0, none⟩ = some (.string s) ∧ w'.cell? ⟨w.heap.size + 1, 0, none⟩ = some (.string t)) (go_keep)
            (first | (go_at_call 40; refine (CB _ _ _).mono ?_; rintro e w3 ⟨rfl, rfl⟩))
          all_goals
            go_wp2
            go_ret2
            exact ⟨rfl, HT.out.drew.drew.bel⟩
  · unfold dcV at *
    go_enter Tryd.func8, Tryd.ntmps8
    go_wp2_with fail
    refine (V1 _).mono ?_
    rintro e w1 ⟨rfl, hb1⟩
    have T1 := (Two.start w s p c t p d).step hb1
    clear hb1
    have HT1 : Hid (Two w w1 s p c t p d) := T1
    obtain ⟨_, _, a01, a11, a21, b01, b11, b21⟩ := T1
    go_wp2_with fail
    refine (V2 _).mono ?_
    rintro e w2 ⟨rfl, hb2⟩
    clear a01 a11 a21 b01 b11 b21
    have T2 := HT1.out.step hb2
    clear hb2
    have HT2 : Hid (Two w w2 s p c t p d) := T2
    obtain ⟨_, _, a02, a12, a22, b02, b12, b22⟩ := T2
    go_wp2
    go_loopw [50] (fun iv wr => ∃ k : Nat, iv = .int .i64 (k : Int) ∧ k ≤ i ∧ Hid (Two w wr s p c t p d)) (fun iv _ => i - (intOf iv).toNat)
    case atStart => exact ⟨0, rfl, Nat.zero_le _, HT2⟩
    case round =>
      obtain ⟨k, rfl, hk, HT⟩ := hrel
      obtain ⟨_, _, a0, a1, a2, b0, b1, b2⟩ := HT.out
      by_cases hki : k < i
      · have hks : k < s.size := by omega
        have hkt : k < t.size := by omega
        have hq : ((((s[k]'hks).toNat : Nat) : Int) == (((t[k]'hkt).toNat : Nat) : Int)) = true := beq_iff_eq.mpr (by have := HEQ.out k hki hks hkt; omega)
        go_wp2
        go_region
        all_goals
          go_wp2
          go_roundw
          case rel => exact ⟨k + 1, by go_num, by omega, HT.out.drew⟩
          case measure => simp [intOf]; omega
      · obtain rfl : k = i := by omega
        go_wp2
        go_region
        all_goals
          go_wp2
          go_region_held3 (fun w' => w'.cell? ⟨w.heap.size, 0, none⟩ = some (.string s) ∧ w'.cell? ⟨w.heap.size + 1, 0, none⟩ = some (.string t)) (go_keep)
            (first | (go_at_call 40; refine (CB _ _ _).mono ?_; rintro e w3 ⟨rfl, rfl⟩))
          all_goals
            go_wp2
            go_ret2
            exact ⟨rfl, HT.out.drew.drew.bel⟩

set_option maxRecDepth 100000 in
set_option maxHeartbeats 1000000 in
theorem dcmp_behind {s : ByteArray} {p : Int} {c : Bool} {t : ByteArray} {d : Bool} (h1 : VD s p c) (h2 : VD t p d) (hs : 0 < s.size) (ht : 0 < t.size) (heq : ∀ j, j < min s.size t.size → ∀ (a : j < s.size) (b : j < t.size), (s[j]'a).toNat = (t[j]'b).toNat) (w : World) :
    Calls Tryd.prog 8 #[dcV s p c, dcV t p d] w fun e w' => e = .returned (.tuple #[.int .i64 (bhd (onB s c (min s.size t.size : Nat)) (onB t d (min s.size t.size : Nat))), .nilIface]) ∧ Below w.heap.size w w' := by
  have V1 := fun W => dvalid_yes h1 W
  have V2 := fun W => dvalid_yes h2 W
  have BH := fun x y W => behind_any x y W
  have hE := empty_false hs
  have hE' := empty_false ht
  have l1 : s.size ≤ 800 := by rcases h1 with ⟨z, _⟩ | z; exact (by omega); exact z.len
  have l2 : t.size ≤ 800 := by rcases h2 with ⟨z, _⟩ | z; exact (by omega); exact z.len
  by_cases hle : t.size < s.size
  · have hmm : min s.size t.size = t.size := by omega
    rw [hmm] at heq ⊢
    have G1 := fun W => goesOn_any s p c (t.size : Int) W
    have G2 := fun W => goesOn_any t p d (t.size : Int) W
    have HEQ : Hid (∀ j, j < t.size → ∀ (a : j < s.size) (b : j < t.size), (s[j]'a).toNat = (t[j]'b).toNat) := heq
    clear h1 h2 heq hmm
    unfold dcV at *
    go_enter Tryd.func8, Tryd.ntmps8
    go_wp2_with fail
    refine (V1 _).mono ?_
    rintro e w1 ⟨rfl, hb1⟩
    have T1 := (Two.start w s p c t p d).step hb1
    clear hb1
    have HT1 : Hid (Two w w1 s p c t p d) := T1
    obtain ⟨_, _, a01, a11, a21, b01, b11, b21⟩ := T1
    go_wp2_with fail
    refine (V2 _).mono ?_
    rintro e w2 ⟨rfl, hb2⟩
    clear a01 a11 a21 b01 b11 b21
    have T2 := HT1.out.step hb2
    clear hb2
    have HT2 : Hid (Two w w2 s p c t p d) := T2
    obtain ⟨_, _, a02, a12, a22, b02, b12, b22⟩ := T2
    go_wp2
    go_loopw [50] (fun iv wr => ∃ k : Nat, iv = .int .i64 (k : Int) ∧ k ≤ t.size ∧ Hid (Two w wr s p c t p d)) (fun iv _ => t.size - (intOf iv).toNat)
    case atStart => exact ⟨0, rfl, Nat.zero_le _, HT2⟩
    case round =>
      obtain ⟨k, rfl, hk, HT⟩ := hrel
      obtain ⟨_, _, a0, a1, a2, b0, b1, b2⟩ := HT.out
      by_cases hki : k < t.size
      · have hks : k < s.size := by omega
        have hkt : k < t.size := by omega
        have hq : ((((s[k]'hks).toNat : Nat) : Int) == (((t[k]'hkt).toNat : Nat) : Int)) = true := beq_iff_eq.mpr (by have := HEQ.out k hki hks hkt; omega)
        go_wp2
        go_region
        all_goals
          go_wp2
          go_roundw
          case rel => exact ⟨k + 1, by go_num, by omega, HT.out.drew⟩
          case measure => simp [intOf]; omega
      · obtain rfl : k = t.size := by omega
        go_wp2
        go_region_held3 (fun w' => w'.cell? ⟨w.heap.size, 0, none⟩ = some (.string s) ∧ w'.cell? ⟨w.heap.size, 1, none⟩ = some (.int .i64 p) ∧ w'.cell? ⟨w.heap.size, 2, none⟩ = some (.bool c) ∧ w'.cell? ⟨w.heap.size + 1, 0, none⟩ = some (.string t) ∧ w'.cell? ⟨w.heap.size + 1, 1, none⟩ = some (.int .i64 p) ∧ w'.cell? ⟨w.heap.size + 1, 2, none⟩ = some (.bool d)) (simp [*, go_sem])
          (first
            | (go_at_call_of 42 (Value.agg #[.string s, .int .i64 p, .bool c]); refine (G1 _).mono ?_; rintro e w3 ⟨rfl, hb3⟩; have HT3 : Hid (Two w w3 s p c t p d) := HT.out.drew.step hb3; clear hb3; obtain ⟨_, _, x0, x1, x2, x3, x4, x5⟩ := HT3.out)
            | (go_at_call_of 42 (Value.agg #[.string t, .int .i64 p, .bool d]); refine (G2 _).mono ?_; rintro e w4 ⟨rfl, hb4⟩; have HT4 : Hid (Two w w4 s p c t p d) := HT3.out.step hb4; clear hb4; obtain ⟨_, _, y0, y1, y2, y3, y4, y5⟩ := HT4.out)
            | (go_at_call 41; refine (BH _ _ _).mono ?_; rintro e w5 ⟨rfl, rfl⟩))
        go_wp2
        go_ret2
        exact ⟨rfl, HT4.out.bel⟩
  · have hmm : min s.size t.size = s.size := by omega
    rw [hmm] at heq ⊢
    have G1 := fun W => goesOn_any s p c (s.size : Int) W
    have G2 := fun W => goesOn_any t p d (s.size : Int) W
    have HEQ : Hid (∀ j, j < s.size → ∀ (a : j < s.size) (b : j < t.size), (s[j]'a).toNat = (t[j]'b).toNat) := heq
    clear h1 h2 heq hmm
    unfold dcV at *
    go_enter Tryd.func8, Tryd.ntmps8
    go_wp2_with fail
    refine (V1 _).mono ?_
    rintro e w1 ⟨rfl, hb1⟩
    have T1 := (Two.start w s p c t p d).step hb1
    clear hb1
    have HT1 : Hid (Two w w1 s p c t p d) := T1
    obtain ⟨_, _, a01, a11, a21, b01, b11, b21⟩ := T1
    go_wp2_with fail
    refine (V2 _).mono ?_
    rintro e w2 ⟨rfl, hb2⟩
    clear a01 a11 a21 b01 b11 b21
    have T2 := HT1.out.step hb2
    clear hb2
    have HT2 : Hid (Two w w2 s p c t p d) := T2
    obtain ⟨_, _, a02, a12, a22, b02, b12, b22⟩ := T2
    go_wp2
    go_loopw [50] (fun iv wr => ∃ k : Nat, iv = .int .i64 (k : Int) ∧ k ≤ s.size ∧ Hid (Two w wr s p c t p d)) (fun iv _ => s.size - (intOf iv).toNat)
    case atStart => exact ⟨0, rfl, Nat.zero_le _, HT2⟩
    case round =>
      obtain ⟨k, rfl, hk, HT⟩ := hrel
      obtain ⟨_, _, a0, a1, a2, b0, b1, b2⟩ := HT.out
      by_cases hki : k < s.size
      · have hks : k < s.size := by omega
        have hkt : k < t.size := by omega
        have hq : ((((s[k]'hks).toNat : Nat) : Int) == (((t[k]'hkt).toNat : Nat) : Int)) = true := beq_iff_eq.mpr (by have := HEQ.out k hki hks hkt; omega)
        go_wp2
        go_region
        all_goals
          go_wp2
          go_roundw
          case rel => exact ⟨k + 1, by go_num, by omega, HT.out.drew⟩
          case measure => simp [intOf]; omega
      · obtain rfl : k = s.size := by omega
        go_wp2
        go_region_held3 (fun w' => w'.cell? ⟨w.heap.size, 0, none⟩ = some (.string s) ∧ w'.cell? ⟨w.heap.size, 1, none⟩ = some (.int .i64 p) ∧ w'.cell? ⟨w.heap.size, 2, none⟩ = some (.bool c) ∧ w'.cell? ⟨w.heap.size + 1, 0, none⟩ = some (.string t) ∧ w'.cell? ⟨w.heap.size + 1, 1, none⟩ = some (.int .i64 p) ∧ w'.cell? ⟨w.heap.size + 1, 2, none⟩ = some (.bool d)) (simp [*, go_sem])
          (first
            | (go_at_call_of 42 (Value.agg #[.string s, .int .i64 p, .bool c]); refine (G1 _).mono ?_; rintro e w3 ⟨rfl, hb3⟩; have HT3 : Hid (Two w w3 s p c t p d) := HT.out.drew.step hb3; clear hb3; obtain ⟨_, _, x0, x1, x2, x3, x4, x5⟩ := HT3.out)
            | (go_at_call_of 42 (Value.agg #[.string t, .int .i64 p, .bool d]); refine (G2 _).mono ?_; rintro e w4 ⟨rfl, hb4⟩; have HT4 : Hid (Two w w4 s p c t p d) := HT3.out.step hb4; clear hb4; obtain ⟨_, _, y0, y1, y2, y3, y4, y5⟩ := HT4.out)
            | (go_at_call 41; refine (BH _ _ _).mono ?_; rintro e w5 ⟨rfl, rfl⟩))
        go_wp2
        go_ret2
        exact ⟨rfl, HT4.out.bel⟩

end Go.Proofs.YtladeppjccfbhaaDoor
