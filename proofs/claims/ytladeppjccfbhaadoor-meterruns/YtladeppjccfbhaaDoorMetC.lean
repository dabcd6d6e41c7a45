/-
  What the calls of a meter's Reset and Text answer; works.
-/
import Derived.Test.YtladeppjccfbhaaDoorMetB
namespace Go.Proofs.YtladeppjccfbhaaDoor
open Go.RowKit

set_option maxRecDepth 100000 in
theorem reset_at {b : Nat} {l p e t s : Int} (w : World) (h : MS w b l p e t s) :
    Calls Tryd.prog 37 #[mV b] w fun x w' => x = .returned (tV l p e t s) ∧ But b w w' ∧ MS w' b 0 0 0 0 0 := by
  have M0 : Hid (MS w b l p e t s) := h
  unfold mV tV
  obtain ⟨lt, c0, c1, c2, c3, c4, fr⟩ := h
  have nb : ¬ b = w.heap.size := by omega
  have k : ∀ ob o, (w.alloc ob).cell? ⟨b, o, none⟩ = w.cell? ⟨b, o, none⟩ := fun ob o => World.cell?_alloc_lt w ob ⟨b, o, none⟩ lt
  have k2 : ∀ ob oc o, ((w.alloc ob).alloc oc).cell? ⟨b, o, none⟩ = w.cell? ⟨b, o, none⟩ := fun ob oc o => (World.cell?_alloc_lt (w.alloc ob) oc ⟨b, o, none⟩ (by simp; omega)).trans (k ob o)
  have f2 : ∀ ob oc o, ((w.alloc ob).alloc oc).frozen? ⟨b, o, none⟩ = false := fun ob oc o => (((Below.refl w.heap.size w).alloc (Nat.le_refl _) ob).alloc (by simp) oc |>.frozen (p := ⟨b, o, none⟩) lt).trans (fr o)
  go_enter Tryd.func37, Tryd.ntmps37
  go_wp2
  refine bodyPost_ret (v := .agg #[.int .i64 l, .int .i64 p, .int .i64 e, .int .i64 t, .int .i64 s]) (by simp [results, Tryd.results37, go_sem, *]) rfl ⟨rfl, ?_⟩
  have m5 := ((((M0.out.set0 0).set1 0).set2 0).set3 0).set4 0
  have b5 := (((((But.set b w 0 (.int .i64 0)).trans (But.set b _ 1 (.int .i64 0))).trans (But.set b _ 2 (.int .i64 0))).trans (But.set b _ 3 (.int .i64 0))).trans (But.set b _ 4 (.int .i64 0)))
  exact ⟨b5.trans (But.of (((Below.refl _ _).alloc (Nat.le_refl _) _).alloc (by simp) _)), m5.step (((Below.refl _ _).alloc (Nat.le_refl _) _).alloc (by simp) _)⟩

/-- A meter's text, by the numbers' texts. -/
def txt (S : Int → ByteArray) (l p e t s : Int) : ByteArray :=
  (((((((((⟨#[108, 105, 118, 101, 32]⟩ ++ S l) ++ ⟨#[32, 112, 101, 97, 107, 32]⟩) ++ S p) ++ ⟨#[32, 101, 120, 97, 99, 116, 32]⟩) ++ S e) ++ ⟨#[32, 116, 97, 98, 108, 101, 32]⟩) ++ S t) ++ ⟨#[32, 115, 108, 111, 119, 32]⟩) ++ S s)

set_option maxRecDepth 100000 in
set_option maxHeartbeats 1000000 in
theorem text_of {m : Value} {l p e t s : Int} (S : Int → ByteArray) (hSl : (S l).size ≤ 1000) (hSp : (S p).size ≤ 1000) (hSe : (S e).size ≤ 1000) (hSt : (S t).size ≤ 1000) (hSs : (S s).size ≤ 1000) (w : World)
    (T : Calls Tryd.prog 30 #[m] w fun x w' => x = .returned (tV l p e t s) ∧ Below w.heap.size w w')
    (I0 : ∀ W, Below w.heap.size w W → Calls Tryd.prog 62 #[.int .i64 l] W fun x w' => x = .returned (.string (S l)) ∧ Below W.heap.size W w')
    (I1 : ∀ W, Below w.heap.size w W → Calls Tryd.prog 62 #[.int .i64 p] W fun x w' => x = .returned (.string (S p)) ∧ Below W.heap.size W w')
    (I2 : ∀ W, Below w.heap.size w W → Calls Tryd.prog 62 #[.int .i64 e] W fun x w' => x = .returned (.string (S e)) ∧ Below W.heap.size W w')
    (I3 : ∀ W, Below w.heap.size w W → Calls Tryd.prog 62 #[.int .i64 t] W fun x w' => x = .returned (.string (S t)) ∧ Below W.heap.size W w')
    (I4 : ∀ W, Below w.heap.size w W → Calls Tryd.prog 62 #[.int .i64 s] W fun x w' => x = .returned (.string (S s)) ∧ Below W.heap.size W w') :
    Calls Tryd.prog 35 #[m] w fun x w' => x = .returned (.string (txt S l p e t s)) ∧ Below w.heap.size w w' := by
  unfold txt
  obtain ⟨a1, e1⟩ : ∃ a, a = (⟨#[108, 105, 118, 101, 32]⟩ : ByteArray) ++ S l := ⟨_, rfl⟩
  have z1 : a1.size ≤ 1005 := by rw [e1, ByteArray.size_append, show (⟨#[108, 105, 118, 101, 32]⟩ : ByteArray).size = 5 from rfl]; omega
  have q1 : ∀ W, (Op.stringOp .add ⟨#[108, 105, 118, 101, 32]⟩ (S l)).run Tryd.prog W = .ok (.string a1) W := fun W => by rw [e1]; exact run_string_add_sum W _ _ (by rw [show (⟨#[108, 105, 118, 101, 32]⟩ : ByteArray).size = 5 from rfl]; omega)
  obtain ⟨a2, e2⟩ : ∃ a, a = a1 ++ (⟨#[32, 112, 101, 97, 107, 32]⟩ : ByteArray) := ⟨_, rfl⟩
  have z2 : a2.size ≤ 1015 := by rw [e2, ByteArray.size_append, show (⟨#[32, 112, 101, 97, 107, 32]⟩ : ByteArray).size = 6 from rfl]; omega
  have q2 : ∀ W, (Op.stringOp .add a1 ⟨#[32, 112, 101, 97, 107, 32]⟩).run Tryd.prog W = .ok (.string a2) W := fun W => by rw [e2]; exact run_string_add_sum W _ _ (by rw [show (⟨#[32, 112, 101, 97, 107, 32]⟩ : ByteArray).size = 6 from rfl]; omega)
  obtain ⟨a3, e3⟩ : ∃ a, a = a2 ++ S p := ⟨_, rfl⟩
  have z3 : a3.size ≤ 2015 := by rw [e3, ByteArray.size_append]; omega
  have q3 : ∀ W, (Op.stringOp .add a2 (S p)).run Tryd.prog W = .ok (.string a3) W := fun W => by rw [e3]; exact run_string_add_sum W _ _ (by omega)
  obtain ⟨a4, e4⟩ : ∃ a, a = a3 ++ (⟨#[32, 101, 120, 97, 99, 116, 32]⟩ : ByteArray) := ⟨_, rfl⟩
  have z4 : a4.size ≤ 2025 := by rw [e4, ByteArray.size_append, show (⟨#[32, 101, 120, 97, 99, 116, 32]⟩ : ByteArray).size = 7 from rfl]; omega
  have q4 : ∀ W, (Op.stringOp .add a3 ⟨#[32, 101, 120, 97, 99, 116, 32]⟩).run Tryd.prog W = .ok (.string a4) W := fun W => by rw [e4]; exact run_string_add_sum W _ _ (by rw [show (⟨#[32, 101, 120, 97, 99, 116, 32]⟩ : ByteArray).size = 7 from rfl]; omega)
  obtain ⟨a5, e5⟩ : ∃ a, a = a4 ++ S e := ⟨_, rfl⟩
  have z5 : a5.size ≤ 3025 := by rw [e5, ByteArray.size_append]; omega
  have q5 : ∀ W, (Op.stringOp .add a4 (S e)).run Tryd.prog W = .ok (.string a5) W := fun W => by rw [e5]; exact run_string_add_sum W _ _ (by omega)
  obtain ⟨a6, e6⟩ : ∃ a, a = a5 ++ (⟨#[32, 116, 97, 98, 108, 101, 32]⟩ : ByteArray) := ⟨_, rfl⟩
  have z6 : a6.size ≤ 3035 := by rw [e6, ByteArray.size_append, show (⟨#[32, 116, 97, 98, 108, 101, 32]⟩ : ByteArray).size = 7 from rfl]; omega
  have q6 : ∀ W, (Op.stringOp .add a5 ⟨#[32, 116, 97, 98, 108, 101, 32]⟩).run Tryd.prog W = .ok (.string a6) W := fun W => by rw [e6]; exact run_string_add_sum W _ _ (by rw [show (⟨#[32, 116, 97, 98, 108, 101, 32]⟩ : ByteArray).size = 7 from rfl]; omega)
  obtain ⟨a7, e7⟩ : ∃ a, a = a6 ++ S t := ⟨_, rfl⟩
  have z7 : a7.size ≤ 4035 := by rw [e7, ByteArray.size_append]; omega
  have q7 : ∀ W, (Op.stringOp .add a6 (S t)).run Tryd.prog W = .ok (.string a7) W := fun W => by rw [e7]; exact run_string_add_sum W _ _ (by omega)
  obtain ⟨a8, e8⟩ : ∃ a, a = a7 ++ (⟨#[32, 115, 108, 111, 119, 32]⟩ : ByteArray) := ⟨_, rfl⟩
  have z8 : a8.size ≤ 4045 := by rw [e8, ByteArray.size_append, show (⟨#[32, 115, 108, 111, 119, 32]⟩ : ByteArray).size = 6 from rfl]; omega
  have q8 : ∀ W, (Op.stringOp .add a7 ⟨#[32, 115, 108, 111, 119, 32]⟩).run Tryd.prog W = .ok (.string a8) W := fun W => by rw [e8]; exact run_string_add_sum W _ _ (by rw [show (⟨#[32, 115, 108, 111, 119, 32]⟩ : ByteArray).size = 6 from rfl]; omega)
  obtain ⟨a9, e9⟩ : ∃ a, a = a8 ++ S s := ⟨_, rfl⟩
  have z9 : a9.size ≤ 5045 := by rw [e9, ByteArray.size_append]; omega
  have q9 : ∀ W, (Op.stringOp .add a8 (S s)).run Tryd.prog W = .ok (.string a9) W := fun W => by rw [e9]; exact run_string_add_sum W _ _ (by omega)
  rw [← e1, ← e2, ← e3, ← e4, ← e5, ← e6, ← e7, ← e8, ← e9]
  clear e1 z1 e2 z2 e3 z3 e4 z4 e5 z5 e6 z6 e7 z7 e8 z8 e9 z9 hSl hSp hSe hSt hSs
  unfold tV at T
  go_enter Tryd.func35, Tryd.ntmps35
  go_wp2_with fail
  refine T.mono ?_
  rintro x w1 ⟨rfl, hb1⟩
  go_wp2
  have M1 : Hid (MS (w1.alloc (.cells #[.int .i64 l, .int .i64 p, .int .i64 e, .int .i64 t, .int .i64 s] 60)) w1.heap.size l p e t s) := ⟨by simp, by simp, by simp, by simp, by simp, by simp, fun o => by simp⟩
  have W1 : Hid (Below w.heap.size w (w1.alloc (.cells #[.int .i64 l, .int .i64 p, .int .i64 e, .int .i64 t, .int .i64 s] 60))) := hb1.alloc hb1.size _
  clear hb1 T
  go_region_held3 (fun w' => w'.cell? ⟨w1.heap.size, 0, none⟩ = some (.int .i64 l) ∧ w'.cell? ⟨w1.heap.size, 1, none⟩ = some (.int .i64 p) ∧ w'.cell? ⟨w1.heap.size, 2, none⟩ = some (.int .i64 e) ∧ w'.cell? ⟨w1.heap.size, 3, none⟩ = some (.int .i64 t) ∧ w'.cell? ⟨w1.heap.size, 4, none⟩ = some (.int .i64 s)) (simp [*, go_sem])
    (first
      | (go_at_call_of 62 (Value.int .i64 l); refine (I0 _ (W1.out.drew)).mono ?_; rintro x w2 ⟨rfl, hb2⟩; have M2 : Hid (MS w2 w1.heap.size l p e t s) := (M1.out.step (Below.refl _ _).drew).step hb2; have W2 : Hid (Below w.heap.size w w2) := (W1.out.drew).trans (hb2.mono (W1.out.drew).size); clear hb2; obtain ⟨_, y00, y01, y02, y03, y04, _⟩ := M2.out)
      | (go_at_call_of 62 (Value.int .i64 p); refine (I1 _ W2.out).mono ?_; rintro x w3 ⟨rfl, hb3⟩; have M3 : Hid (MS w3 w1.heap.size l p e t s) := M2.out.step hb3; have W3 : Hid (Below w.heap.size w w3) := W2.out.trans (hb3.mono W2.out.size); clear hb3; obtain ⟨_, y10, y11, y12, y13, y14, _⟩ := M3.out)
      | (go_at_call_of 62 (Value.int .i64 e); refine (I2 _ W3.out).mono ?_; rintro x w4 ⟨rfl, hb4⟩; have M4 : Hid (MS w4 w1.heap.size l p e t s) := M3.out.step hb4; have W4 : Hid (Below w.heap.size w w4) := W3.out.trans (hb4.mono W3.out.size); clear hb4; obtain ⟨_, y20, y21, y22, y23, y24, _⟩ := M4.out)
      | (go_at_call_of 62 (Value.int .i64 t); refine (I3 _ W4.out).mono ?_; rintro x w5 ⟨rfl, hb5⟩; have M5 : Hid (MS w5 w1.heap.size l p e t s) := M4.out.step hb5; have W5 : Hid (Below w.heap.size w w5) := W4.out.trans (hb5.mono W4.out.size); clear hb5; obtain ⟨_, y30, y31, y32, y33, y34, _⟩ := M5.out)
      | (go_at_call_of 62 (Value.int .i64 s); refine (I4 _ W5.out).mono ?_; rintro x w6 ⟨rfl, hb6⟩; have M6 : Hid (MS w6 w1.heap.size l p e t s) := M5.out.step hb6; have W6 : Hid (Below w.heap.size w w6) := W5.out.trans (hb6.mono W5.out.size); clear hb6; obtain ⟨_, y40, y41, y42, y43, y44, _⟩ := M6.out))
  go_wp2
  go_ret
  exact ⟨rfl, W6.out⟩

/-- A number's text. -/
def itB (n : Int) : ByteArray := ⟨(Lib.itoa n).toArray⟩
theorem itB_size {n : Int} (h0 : 0 ≤ n) (h1 : n ≤ 9223372036854775807) : (itB n).size ≤ 1000 := by
  have := Lib.itoa_length_le n (by omega) h1
  unfold itB ByteArray.size
  simp
  omega
theorem itoa_lit {n : Int} (h0 : 0 ≤ n) (h1 : n < 100) (W : World) : Calls Tryd.prog 62 #[.int .i64 n] W fun x w' => x = .returned (.string (itB n)) ∧ Below W.heap.size W w' := by
  obtain ⟨i, rfl⟩ : ∃ i : Nat, n = (i : Int) := ⟨n.toNat, by omega⟩
  refine (itoa_small i (by omega) W).mono ?_
  rintro e w1 ⟨rfl, rfl⟩
  exact ⟨by unfold itB; rw [Lib.itoa_nonneg], Below.refl _ _⟩

/-- Text of numbers below 100. -/
theorem text_lit {m : Value} {l p e t s : Int} (hl : 0 ≤ l ∧ l < 100) (hp : 0 ≤ p ∧ p < 100) (he : 0 ≤ e ∧ e < 100) (ht : 0 ≤ t ∧ t < 100) (hs : 0 ≤ s ∧ s < 100) (w : World)
    (T : Calls Tryd.prog 30 #[m] w fun x w' => x = .returned (tV l p e t s) ∧ Below w.heap.size w w') :
    Calls Tryd.prog 35 #[m] w fun x w' => x = .returned (.string (txt itB l p e t s)) ∧ Below w.heap.size w w' :=
  text_of itB (itB_size hl.1 (by omega)) (itB_size hp.1 (by omega)) (itB_size he.1 (by omega)) (itB_size ht.1 (by omega)) (itB_size hs.1 (by omega)) w T
    (fun W _ => itoa_lit hl.1 hl.2 W) (fun W _ => itoa_lit hp.1 hp.2 W) (fun W _ => itoa_lit he.1 he.2 W) (fun W _ => itoa_lit ht.1 ht.2 W) (fun W _ => itoa_lit hs.1 hs.2 W)

theorem itB_one {i : Nat} (h : i < 10) : itB (i : Int) = ⟨#[UInt8.ofNat (48 + i)]⟩ := by
  unfold itB
  rw [Lib.itoa_nonneg, Lib.decDigits_one h]
theorem txt_works : txt itB 2 8 0 0 1 = ⟨#[108, 105, 118, 101, 32, 50, 32, 112, 101, 97, 107, 32, 56, 32, 101, 120, 97, 99, 116, 32, 48, 32, 116, 97, 98, 108, 101, 32, 48, 32, 115, 108, 111, 119, 32, 49]⟩ := by
  unfold txt
  rw [show (2 : Int) = ((2 : Nat) : Int) from rfl, show (8 : Int) = ((8 : Nat) : Int) from rfl, show (0 : Int) = ((0 : Nat) : Int) from rfl, show (1 : Int) = ((1 : Nat) : Int) from rfl]
  rw [itB_one (by decide), itB_one (by decide), itB_one (by decide), itB_one (by decide)]
  rfl
theorem txt_noughts : txt itB 0 0 0 0 0 = ⟨#[108, 105, 118, 101, 32, 48, 32, 112, 101, 97, 107, 32, 48, 32, 101, 120, 97, 99, 116, 32, 48, 32, 116, 97, 98, 108, 101, 32, 48, 32, 115, 108, 111, 119, 32, 48]⟩ := by
  unfold txt
  rw [show (0 : Int) = ((0 : Nat) : Int) from rfl]
  rw [itB_one (by decide)]
  rfl

set_option maxRecDepth 100000 in
set_option maxHeartbeats 1000000 in
theorem works_any (w : World) :
    Calls Tryd.prog 38 #[] w fun x w' => x = .returned (.bool true) ∧ Below w.heap.size w w' := by
  go_enter Tryd.func38, Tryd.ntmps38
  go_wp2_with fail
  refine (new_any _).mono ?_
  rintro x w1 ⟨rfl, b1, m1⟩
  have M1 : Hid (MS w1 w.heap.size 0 0 0 0 0) := m1
  have B1 : Hid (Below w.heap.size w w1) := b1
  clear m1 b1
  unfold mV
  generalize hq : w.heap.size = q at *
  have HQ : Hid (w.heap.size = q) := hq
  clear hq
  go_wp2_with fail
  refine (take_at (b := q) (l := 0) (n := 5) (by decide) (by decide) _ M1.out).mono ?_
  rintro x w2 ⟨rfl, b2, m2⟩
  rw [show moreI 0 5 = 5 from rfl, show mx3 0 0 5 = 5 from rfl] at m2
  have M2 : Hid (MS w2 q 5 5 0 0 0) := m2
  have B2 : Hid (Below q w w2) := B1.out.trans (b2.bel (Nat.le_refl _) (Nat.le_of_lt M1.out.lt))
  clear m2 b2
  go_wp2_with fail
  refine (take_at (b := q) (l := 5) (n := 3) (by decide) (by decide) _ M2.out).mono ?_
  rintro x w3 ⟨rfl, b3, m3⟩
  rw [show moreI 5 3 = 8 from rfl, show mx3 5 0 8 = 8 from rfl] at m3
  have M3 : Hid (MS w3 q 8 8 0 0 0) := m3
  have B3 : Hid (Below q w w3) := B2.out.trans (b3.bel (Nat.le_refl _) (Nat.le_of_lt M2.out.lt))
  clear m3 b3
  go_wp2_with fail
  refine (give_at (b := q) (l := 8) (n := 6) (by decide) (by decide) (by decide) _ M3.out).mono ?_
  rintro x w4 ⟨rfl, b4, m4⟩
  rw [show lessI 8 6 = 2 from rfl] at m4
  have M4 : Hid (MS w4 q 2 8 0 0 0) := m4
  have B4 : Hid (Below q w w4) := B3.out.trans (b4.bel (Nat.le_refl _) (Nat.le_of_lt M3.out.lt))
  clear m4 b4
  go_wp2_with fail
  refine (Road_at (b := q) (k := 3) (by decide) (by decide) (by decide) _ M4.out).mono ?_
  rintro x w5 ⟨rfl, b5, m5⟩
  rw [if_neg (by decide), if_neg (by decide), if_pos rfl, show moreI 0 1 = 1 from rfl] at m5
  have M5 : Hid (MS w5 q 2 8 0 0 1) := m5
  have B5 : Hid (Below q w w5) := B4.out.trans (b5.bel (Nat.le_refl _) (Nat.le_of_lt M4.out.lt))
  clear m5 b5
  go_wp2_with fail
  refine (live_at (b := q) _ M5.out).mono ?_
  rintro x w6 ⟨rfl, b6⟩
  have M6 : Hid (MS w6 q 2 8 0 0 1) := M5.out.step b6
  have B6 : Hid (Below q w w6) := B5.out.trans (b6.mono (Nat.le_of_lt M5.out.lt))
  clear b6
  go_wp2_with fail
  refine (peak_at (b := q) _ M6.out).mono ?_
  rintro x w7 ⟨rfl, b7⟩
  have M7 : Hid (MS w7 q 2 8 0 0 1) := M6.out.step b7
  have B7 : Hid (Below q w w7) := B6.out.trans (b7.mono (Nat.le_of_lt M6.out.lt))
  clear b7
  go_wp2_with fail
  refine (count_at (b := q) 3 _ M7.out).mono ?_
  rintro x w8 ⟨rfl, rfl⟩
  rw [show cntI 0 0 1 3 = 1 from rfl]
  go_wp2_with fail
  refine (text_lit (l := 2) (p := 8) (e := 0) (t := 0) (s := 1) (by decide) (by decide) (by decide) (by decide) (by decide) _ (tally_at _ M7.out)).mono ?_
  rintro x w9 ⟨rfl, b9⟩
  have B9 : Hid (Below q w w9) := B7.out.trans (b9.mono (Nat.le_of_lt M7.out.lt))
  clear b9
  rw [txt_works]
  go_wp2
  go_ret
  exact ⟨rfl, by rw [HQ.out]; exact B9.out⟩

end Go.Proofs.YtladeppjccfbhaaDoor
