/-
  Rounding: the calls of dec's mayRound, roundsUp and below, for every input that they are called at.
-/
import Derived.Test.YtladeppjccfbhaaDoorDecN
namespace Go.Proofs.YtladeppjccfbhaaDoor
open Go.RowKit

/-- A number in the call's own box. -/
structure OneB (w W : World) (s : ByteArray) (p : Int) (c : Bool) : Prop where
  sz : w.heap.size + 1 ≤ W.heap.size
  bel : Below w.heap.size w W
  a0 : W.cell? ⟨w.heap.size, 0, none⟩ = some (.string s)
  a1 : W.cell? ⟨w.heap.size, 1, none⟩ = some (.int .i64 p)
  a2 : W.cell? ⟨w.heap.size, 2, none⟩ = some (.bool c)
theorem OneB.step {w W W' : World} {s : ByteArray} {p : Int} {c : Bool} (h : OneB w W s p c) (hb : Below W.heap.size W W') : OneB w W' s p c := by
  have z := h.sz
  have k : ∀ o, W'.cell? ⟨w.heap.size, o, none⟩ = W.cell? ⟨w.heap.size, o, none⟩ := fun o => hb.cell (p := ⟨w.heap.size, o, none⟩) (by show w.heap.size < W.heap.size; omega)
  exact ⟨Nat.le_trans z hb.size, h.bel.trans (hb.mono (by omega)), (k 0).trans h.a0, (k 1).trans h.a1, (k 2).trans h.a2⟩
theorem OneB.start (w : World) (s : ByteArray) (p : Int) (c : Bool) : OneB w (w.alloc (.cells #[.string s, .int .i64 p, .bool c] 23)) s p c :=
  ⟨by simp, (Below.refl _ _).alloc (Nat.le_refl _) _, by simp, by simp, by simp⟩

/-- A number may be rounded to n digits. -/
def MR (s : ByteArray) (p : Int) (c : Bool) (n known : Int) : Prop := VD s p c ∧ 0 ≤ n ∧ n ≤ 800 ∧ (c = true → n ≤ known)

set_option maxRecDepth 100000 in
set_option maxHeartbeats 1000000 in
theorem mayRound_yes {s : ByteArray} {p : Int} {c : Bool} {n known : Int} (h : MR s p c n known) (w : World) :
    Calls Tryd.prog 47 #[dcV s p c, .int .i64 n, .int .i64 known] w fun e w' => e = .returned (.bool true) ∧ Below w.heap.size w w' := by
  obtain ⟨h1, h2, h3, h4⟩ := h
  have V := fun W => dvalid_yes h1 W
  clear h1
  unfold dcV at *
  cases c with
  | false =>
    clear h4
    go_enter Tryd.func47, Tryd.ntmps47
    go_wp2_with fail
    refine (V _).mono ?_
    rintro e w1 ⟨rfl, hb⟩
    have T : Hid (OneB w w1 s p false) := (OneB.start w s p false).step hb
    obtain ⟨_, _, a0, a1, a2⟩ := T.out
    clear hb
    go_wp2
    go_ret
    exact ⟨rfl, T.out.bel⟩
  | true =>
    have h5 := h4 rfl
    clear h4
    go_enter Tryd.func47, Tryd.ntmps47
    go_wp2_with fail
    refine (V _).mono ?_
    rintro e w1 ⟨rfl, hb⟩
    have T : Hid (OneB w w1 s p true) := (OneB.start w s p true).step hb
    obtain ⟨_, _, a0, a1, a2⟩ := T.out
    clear hb
    go_wp2
    go_ret
    exact ⟨rfl, T.out.bel⟩

set_option maxRecDepth 100000 in
set_option maxHeartbeats 1000000 in
theorem mayRound_no {s : ByteArray} {p : Int} {c : Bool} {n known : Int} (hs : s.size ≤ 9223372036854775807) (h : ¬ MR s p c n known) (w : World) :
    Calls Tryd.prog 47 #[dcV s p c, .int .i64 n, .int .i64 known] w fun e w' => e = .returned (.bool false) ∧ Below w.heap.size w w' := by
  by_cases h1 : VD s p c
  · have V := fun W => dvalid_yes h1 W
    have h' : n < 0 ∨ (0 ≤ n ∧ 800 < n) ∨ (0 ≤ n ∧ n ≤ 800 ∧ c = true ∧ known < n) := by
      by_cases a : n < 0
      · exact Or.inl a
      · by_cases b : 800 < n
        · exact Or.inr (Or.inl ⟨by omega, b⟩)
        · refine Or.inr (Or.inr ⟨by omega, by omega, ?_⟩)
          cases c with
          | false => exact absurd ⟨h1, by omega, by omega, fun q => by cases q⟩ h
          | true =>
            refine ⟨rfl, ?_⟩
            by_cases g : known < n
            · exact g
            · exact absurd ⟨h1, by omega, by omega, fun _ => by omega⟩ h
    clear h h1
    unfold dcV at *
    rcases h' with a | ⟨a, b⟩ | ⟨a, b, rfl, g⟩
    · have n0 : ¬ 0 ≤ n := by omega
      go_enter Tryd.func47, Tryd.ntmps47
      go_wp2_with fail
      refine (V _).mono ?_
      rintro e w1 ⟨rfl, hb⟩
      have T' : Hid (OneB w w1 s p c) := (OneB.start w s p c).step hb
      obtain ⟨_, _, a0, a1, a2⟩ := T'.out
      clear hb
      go_wp2
      go_ret
      exact ⟨rfl, T'.out.bel⟩
    · have n0 : ¬ n ≤ 800 := by omega
      go_enter Tryd.func47, Tryd.ntmps47
      go_wp2_with fail
      refine (V _).mono ?_
      rintro e w1 ⟨rfl, hb⟩
      have T' : Hid (OneB w w1 s p c) := (OneB.start w s p c).step hb
      obtain ⟨_, _, a0, a1, a2⟩ := T'.out
      clear hb
      go_wp2
      go_ret
      exact ⟨rfl, T'.out.bel⟩
    · have n0 : ¬ n ≤ known := by omega
      go_enter Tryd.func47, Tryd.ntmps47
      go_wp2_with fail
      refine (V _).mono ?_
      rintro e w1 ⟨rfl, hb⟩
      have T' : Hid (OneB w w1 s p true) := (OneB.start w s p true).step hb
      obtain ⟨_, _, a0, a1, a2⟩ := T'.out
      clear hb
      go_wp2
      go_ret
      refine ⟨?_, T'.out.bel⟩
      have q : decide (n ≤ known) = false := decide_eq_false (by omega)
      show Ending.returned (.bool (decide (n ≤ known))) = _
      rw [q]
  · have V := fun W => dvalid_no hs h1 W
    unfold dcV at *
    go_enter Tryd.func47, Tryd.ntmps47
    go_wp2_with fail
    refine (V _).mono ?_
    rintro e w1 ⟨rfl, hb⟩
    have T : Hid (OneB w w1 s p c) := (OneB.start w s p c).step hb
    clear hb
    go_wp2
    go_ret
    exact ⟨rfl, T.out.bel⟩

/-- Whether it is rounded up. -/
def upB (s : ByteArray) (c : Bool) (n : Nat) : Bool :=
  if dgt s n = 53 then (c || decide (n + 1 < s.size)) || (decide (0 < n) && decide ((dgt s (n - 1) - 48) % 2 = 1)) else decide (53 < dgt s n)

set_option maxRecDepth 100000 in
set_option maxHeartbeats 1000000 in
theorem roundsUp_any {s : ByteArray} {p : Int} {c : Bool} (hd : DG s) {n : Nat} (hn : n < s.size) (hl : s.size ≤ 800) (w : World) :
    Calls Tryd.prog 48 #[dcV s p c, .int .i64 n] w fun e w' => e = .returned (.bool (upB s c n)) ∧ Below w.heap.size w w' := by
  have G := fun W => goesOn_any s p c ((n : Int) + 1) W
  obtain ⟨x, hx⟩ : ∃ x, x = (s[n]'hn).toNat := ⟨_, rfl⟩
  have ex : dgt s n = x := by rw [dgt_lt hn, hx]
  have wn : IntKind.i64.wrap ((n : Int) + 1) = (n : Int) + 1 := by
    unfold IntKind.wrap
    simp [IntKind.bits, IntKind.signed]
    omega
  unfold upB
  rw [ex]
  unfold dcV at *
  by_cases c1 : x = 53
  · rw [if_pos c1]
    have e1 : ((((s[n]'hn).toNat : Nat) : Int) == 53) = true := beq_iff_eq.mpr (by omega)
    by_cases c2 : onB s c ((n : Int) + 1) = true
    · rw [c2] at G
      have HB : Hid (((c || decide (n + 1 < s.size)) || (decide (0 < n) && decide ((dgt s (n - 1) - 48) % 2 = 1))) = true) := by
        unfold onB at c2
        have : (c || decide (n + 1 < s.size)) = true := by
          rw [← c2]; congr 1; apply decide_eq_decide.mpr; omega
        show _ = true
        rw [this]; rfl
      clear c2 ex hx c1
      go_enter Tryd.func48, Tryd.ntmps48
      go_wp2_with fail
      refine (G _).mono ?_
      rintro e w1 ⟨rfl, hb⟩
      have T : Hid (OneB w w1 s p c) := (OneB.start w s p c).step hb
      clear hb
      go_wp2
      go_ret
      exact ⟨by rw [HB.out]; rfl, T.out.bel⟩
    · have c2' : onB s c ((n : Int) + 1) = false := by cases h : onB s c ((n : Int) + 1) <;> simp_all
      rw [c2'] at G
      have HB : Hid (((c || decide (n + 1 < s.size)) || (decide (0 < n) && decide ((dgt s (n - 1) - 48) % 2 = 1))) = (decide (0 < n) && decide ((dgt s (n - 1) - 48) % 2 = 1))) := by
        unfold onB at c2'
        have : (c || decide (n + 1 < s.size)) = false := by
          rw [← c2']; congr 1; apply decide_eq_decide.mpr; omega
        show _ = _
        rw [this]; rfl
      clear c2 c2' ex hx c1
      by_cases c3 : n = 0
      · subst c3
        go_enter Tryd.func48, Tryd.ntmps48
        go_wp2_with fail
        refine (G _).mono ?_
        rintro e w1 ⟨rfl, hb⟩
        have T : Hid (OneB w w1 s p c) := (OneB.start w s p c).step hb
        obtain ⟨_, _, a0, a1, a2⟩ := T.out
        clear hb
        go_wp2
        go_ret
        exact ⟨by rw [HB.out]; rfl, T.out.bel⟩
      · have hn1 : n - 1 < s.size := by omega
        have ix : ((n : Int) - 1).toNat = n - 1 := by omega
        have k0 : 0 < n := by omega
        obtain ⟨y, hy⟩ : ∃ y, y = (s[n - 1]'hn1).toNat := ⟨_, rfl⟩
        have ey : dgt s (n - 1) = y := by rw [dgt_lt hn1, hy]
        have yd := dgt_in hd (n - 1)
        rw [ey] at yd
        have wy : IntKind.u8.wrap ((((s[n - 1]'hn1).toNat : Nat) : Int) - 48) = ((y - 48 : Nat) : Int) := by
          rw [← hy]
          unfold IntKind.wrap
          simp [IntKind.bits, IntKind.signed]
          omega
        have HV : Hid ((((y - 48 : Nat) : Int) % 2 != 0) = (decide (0 < n) && decide ((dgt s (n - 1) - 48) % 2 = 1))) := by
          show _ = _
          rw [ey, decide_eq_true k0, Bool.true_and]
          by_cases g : (y - 48) % 2 = 1
          · rw [decide_eq_true g]; simp; omega
          · rw [decide_eq_false g]; simp; omega
        clear hy ey
        go_enter Tryd.func48, Tryd.ntmps48
        go_wp2_with fail
        refine (G _).mono ?_
        rintro e w1 ⟨rfl, hb⟩
        have T : Hid (OneB w w1 s p c) := (OneB.start w s p c).step hb
        obtain ⟨_, _, a0, a1, a2⟩ := T.out
        clear hb
        go_wp2
        go_ret
        exact ⟨by rw [HB.out, ← HV.out]; rfl, T.out.bel⟩
  · rw [if_neg c1]
    have e1 : ((((s[n]'hn).toNat : Nat) : Int) == 53) = false := beq_eq_false_iff_ne.mpr (by omega)
    have HV : Hid (decide ((53 : Int) < (((s[n]'hn).toNat : Nat) : Int)) = decide (53 < x)) := decide_eq_decide.mpr (by omega)
    go_enter Tryd.func48, Tryd.ntmps48
    go_wp2
    go_ret
    exact ⟨by rw [← HV.out]; rfl, (OneB.start w s p c).bel⟩

/-- A number in the call's own box, and the answer's box. -/
structure OneR (w W : World) (s : ByteArray) (p : Int) (c : Bool) : Prop where
  sz : w.heap.size + 2 ≤ W.heap.size
  bel : Below w.heap.size w W
  a0 : W.cell? ⟨w.heap.size, 0, none⟩ = some (.string s)
  a1 : W.cell? ⟨w.heap.size, 1, none⟩ = some (.int .i64 p)
  a2 : W.cell? ⟨w.heap.size, 2, none⟩ = some (.bool c)
  r0 : W.cell? ⟨w.heap.size + 1, 0, none⟩ = some (.string ⟨#[]⟩)
  r1 : W.cell? ⟨w.heap.size + 1, 1, none⟩ = some (.int .i64 0)
  r2 : W.cell? ⟨w.heap.size + 1, 2, none⟩ = some (.bool false)
  fr : ∀ o, W.frozen? ⟨w.heap.size + 1, o, none⟩ = false
theorem OneR.step {w W W' : World} {s : ByteArray} {p : Int} {c : Bool} (h : OneR w W s p c) (hb : Below W.heap.size W W') : OneR w W' s p c := by
  have z := h.sz
  have k : ∀ b o, b < w.heap.size + 2 → W'.cell? ⟨b, o, none⟩ = W.cell? ⟨b, o, none⟩ := fun b o hb' => hb.cell (p := ⟨b, o, none⟩) (by show b < W.heap.size; omega)
  exact ⟨Nat.le_trans z hb.size, h.bel.trans (hb.mono (by omega)), (k _ 0 (by omega)).trans h.a0, (k _ 1 (by omega)).trans h.a1, (k _ 2 (by omega)).trans h.a2, (k _ 0 (by omega)).trans h.r0, (k _ 1 (by omega)).trans h.r1, (k _ 2 (by omega)).trans h.r2, fun o => (hb.frozen (p := ⟨w.heap.size + 1, o, none⟩) (by show w.heap.size + 1 < W.heap.size; omega)).trans (h.fr o)⟩
theorem OneR.start (w : World) (s : ByteArray) (p : Int) (c : Bool) : OneR w ((w.alloc (.cells #[.string s, .int .i64 p, .bool c] 23)).alloc (.cells #[.string ⟨#[]⟩, .int .i64 0, .bool false] 23)) s p c :=
  ⟨by simp, ((Below.refl _ _).alloc (Nat.le_refl _) _).alloc (by simp) _, by simp, by simp, by simp, by simp, by simp, by simp, fun o => by simp⟩

theorem pre_pre {s : ByteArray} {k m : Nat} (h : m ≤ k) : (s.extract 0 k).extract 0 m = s.extract 0 m := by
  apply ByteArray.ext
  rw [ByteArray.data_extract, ByteArray.data_extract, ByteArray.data_extract, Array.extract_extract]
  congr 1
  omega
theorem pre_dgt {s : ByteArray} {k i : Nat} (hk : k ≤ s.size) (h : i < k) : dgt (s.extract 0 k) i = dgt s i := by
  rw [dgt_lt (by rw [pre_size hk]; exact h), dgt_lt (by omega), pre_get hk h]

/-- The first n digits without noughts behind. -/
def lowD (s : ByteArray) (p : Int) (m : Nat) : Value := if m = 0 then dcV ⟨#[]⟩ 0 false else dcV (s.extract 0 m) p false

set_option maxRecDepth 100000 in
set_option maxHeartbeats 1000000 in
theorem below_any {s : ByteArray} {p : Int} {c : Bool} (hl : s.size ≤ 800) {n k m : Nat} (hn : n ≤ 800) (hk : k = min n s.size) (hm : m ≤ k) (h1 : ∀ i, m ≤ i → i < k → dgt s i = 48) (h2 : 0 < m → dgt s (m - 1) ≠ 48) (w : World) :
    Calls Tryd.prog 50 #[dcV s p c, .int .i64 n] w fun e w' => e = .returned (lowD s p m) ∧ Below w.heap.size w w' := by
  have hks : k ≤ s.size := by omega
  have zs := pre_size hks
  have S := fun W => shorten_ok (s.extract 0 k) (by omega) m (by omega) (fun i a b => by rw [← dgt_lt b, pre_dgt hks (by omega)]; exact h1 i a (by omega)) (fun q => by rw [← dgt_lt (by omega), pre_dgt hks (by omega)]; exact h2 q) W
  rw [pre_pre hm] at S
  have mz := pre_size (s := s) (k := m) (by omega)
  clear h1 h2
  unfold lowD
  have HK : Hid (k = min n s.size) := hk
  clear hk
  have R0 := OneR.start w s p c
  obtain ⟨t, ht⟩ : ∃ t, t = s.extract 0 m := ⟨_, rfl⟩
  rw [← ht] at S mz ⊢
  clear ht
  by_cases c1 : s.size < n
  · have hk' : k = s.size := by have := HK.out; omega
    subst hk'
    rw [ext_zero] at S
    have c1' : s.size < n := c1
    by_cases c2 : m = 0
    · rw [if_pos c2]
      have e0 : t = ⟨#[]⟩ := size_zero (by omega)
      rw [e0] at S
      clear e0 mz c2
      unfold dcV at *
      go_enter Tryd.func50, Tryd.ntmps50
      go_wp2_with fail
      refine (S _).mono ?_
      rintro e w1 ⟨rfl, hb⟩
      have HT : Hid (OneR w w1 s p c) := R0.step hb
      clear hb R0
      obtain ⟨_, _, a0, a1, a2, r0, r1, r2, fr⟩ := HT.out
      go_wp2
      refine bodyPost_ret (v := .agg #[.string ⟨#[]⟩, .int .i64 0, .bool false]) (by simp [results, Tryd.results50, go_sem, *]) rfl ⟨rfl, ?_⟩
      exact (((HT.out.bel.setCell (by simp) _).setCell (by simp) _).setCell (by simp) _)
    · rw [if_neg c2]
      have hE := empty_false (s := t) (by omega)
      clear mz c2
      unfold dcV at *
      go_enter Tryd.func50, Tryd.ntmps50
      go_wp2_with fail
      refine (S _).mono ?_
      rintro e w1 ⟨rfl, hb⟩
      have HT : Hid (OneR w w1 s p c) := R0.step hb
      clear hb R0
      obtain ⟨_, _, a0, a1, a2, r0, r1, r2, fr⟩ := HT.out
      go_wp2
      refine bodyPost_ret (v := .agg #[.string t, .int .i64 p, .bool false]) (by simp [results, Tryd.results50, go_sem, *]) rfl ⟨rfl, ?_⟩
      exact (((HT.out.bel.setCell (by simp) _).setCell (by simp) _).setCell (by simp) _)
  · have hk' : k = n := by have := HK.out; omega
    subst hk'
    have c1' : ¬ s.size < k := c1
    by_cases c2 : m = 0
    · rw [if_pos c2]
      have e0 : t = ⟨#[]⟩ := size_zero (by omega)
      rw [e0] at S
      clear e0 mz c2
      unfold dcV at *
      go_enter Tryd.func50, Tryd.ntmps50
      go_wp2_with fail
      refine (S _).mono ?_
      rintro e w1 ⟨rfl, hb⟩
      have HT : Hid (OneR w w1 s p c) := R0.step hb
      clear hb R0
      obtain ⟨_, _, a0, a1, a2, r0, r1, r2, fr⟩ := HT.out
      go_wp2
      refine bodyPost_ret (v := .agg #[.string ⟨#[]⟩, .int .i64 0, .bool false]) (by simp [results, Tryd.results50, go_sem, *]) rfl ⟨rfl, ?_⟩
      exact (((HT.out.bel.setCell (by simp) _).setCell (by simp) _).setCell (by simp) _)
    · rw [if_neg c2]
      have hE := empty_false (s := t) (by omega)
      clear mz c2
      unfold dcV at *
      go_enter Tryd.func50, Tryd.ntmps50
      go_wp2_with fail
      refine (S _).mono ?_
      rintro e w1 ⟨rfl, hb⟩
      have HT : Hid (OneR w w1 s p c) := R0.step hb
      clear hb R0
      obtain ⟨_, _, a0, a1, a2, r0, r1, r2, fr⟩ := HT.out
      go_wp2
      refine bodyPost_ret (v := .agg #[.string t, .int .i64 p, .bool false]) (by simp [results, Tryd.results50, go_sem, *]) rfl ⟨rfl, ?_⟩
      exact (((HT.out.bel.setCell (by simp) _).setCell (by simp) _).setCell (by simp) _)

/-- One unit of the last place more than the first m digits. -/
def upS (s : ByteArray) (m : Nat) : ByteArray := s.extract 0 (m - 1) ++ strOfNums [((dgt s (m - 1) + 1 : Nat) : Int)]

set_option maxRecDepth 100000 in
set_option maxHeartbeats 1000000 in
theorem above_some {s : ByteArray} {p : Int} {c : Bool} (hd : DG s) (hl : s.size ≤ 800) {n m : Nat} (hn : n ≤ s.size) (hm : m ≤ n) (h0 : 0 < m) (h1 : ∀ i, m ≤ i → i < n → dgt s i = 57) (h2 : dgt s (m - 1) ≠ 57) (w : World) :
    Calls Tryd.prog 49 #[dcV s p c, .int .i64 n] w fun e w' => e = .returned (.tuple #[dcV (upS s m) p false, .nilIface]) ∧ Below w.heap.size w w' := by
  have zs := pre_size hn
  have T := fun W => trimRight57 (s.extract 0 n) (by omega) m (by omega) (fun i a b => by rw [← dgt_lt b, pre_dgt hn (by omega)]; exact h1 i a (by omega)) (fun q => by rw [← dgt_lt (by omega), pre_dgt hn (by omega)]; exact h2) W
  rw [pre_pre hm] at T
  have mz := pre_size (s := s) (k := m) (by omega)
  have dx : dgt (s.extract 0 m) (m - 1) = dgt s (m - 1) := pre_dgt (by omega) (by omega)
  have cutE : (s.extract 0 m).extract 0 (m - 1) = s.extract 0 (m - 1) := pre_pre (by omega)
  unfold upS
  have xd := dgt_in hd (m - 1)
  obtain ⟨x, hx⟩ : ∃ x, x = dgt s (m - 1) := ⟨_, rfl⟩
  obtain ⟨t, ht⟩ : ∃ t, t = s.extract 0 m := ⟨_, rfl⟩
  obtain ⟨r, hr⟩ : ∃ r, r = s.extract 0 (m - 1) := ⟨_, rfl⟩
  rw [← hx] at dx xd h2 ⊢
  rw [← hr] at cutE ⊢
  rw [← ht] at T mz dx cutE
  have hm1 : m - 1 < t.size := by omega
  have x1 : (t[m - 1]'hm1).toNat = x := by rw [← dgt_lt hm1]; exact dx
  have ix : ((m : Int) - 1).toNat = m - 1 := by omega
  have hE := empty_false (s := t) (by omega)
  have tz : (t.size : Int) = (m : Int) := by omega
  have wx : IntKind.u8.wrap ((((t[m - 1]'hm1).toNat : Nat) : Int) + 1) = ((x + 1 : Nat) : Int) := by
    rw [x1]
    unfold IntKind.wrap
    simp [IntKind.bits, IntKind.signed]
    omega
  have hcv : ∀ W : World, W.cell? ⟨w.heap.size + 1 + 1, 0, none⟩ = some (.int .u8 ((x + 1 : Nat) : Int)) → (Go.convert 48 9 (.slice (some ⟨w.heap.size + 1 + 1, 0, none⟩) 1 1)).run Tryd.prog W = .ok (.string (strOfNums [((x + 1 : Nat) : Int)])) W := by
    intro W hW
    refine run_convert_bytes_arg W 48 5 und_bytes48 und_u8b (w.heap.size + 1 + 1) 0 1 1 [((x + 1 : Nat) : Int)] rfl ?_ 9 und_str9b
    intro i hi
    obtain rfl : i = 0 := by omega
    exact hW
  obtain ⟨y, hy⟩ : ∃ y, y = strOfNums [((x + 1 : Nat) : Int)] := ⟨_, rfl⟩
  rw [← hy] at hcv ⊢
  have rz : r.size = m - 1 := by rw [hr]; exact pre_size (by omega)
  have yz : y.size = 1 := by rw [hy, strOfNums_size]; rfl
  have ryL : (r ++ y).size ≤ maxLen := by rw [ByteArray.size_append]; unfold maxLen; omega
  have ryZ : r.size + y.size ≤ maxLen := by unfold maxLen; omega
  clear h1 h2 hd dx hx hr ht hy
  unfold dcV at *
  go_enter Tryd.func49, Tryd.ntmps49
  go_wp2_with fail
  refine (T _).mono ?_
  rintro e w0 ⟨rfl, rfl⟩
  go_wp2
  go_region
  all_goals
    go_wp2
    refine bodyPost_ret (v := .tuple #[.agg #[.string (r ++ y), .int .i64 p, .bool false], .nilIface]) (by simp [results, Tryd.results49, go_sem]) rfl ⟨rfl, ?_⟩
    exact ((((Below.refl _ _).alloc (Nat.le_refl _) _).alloc (by simp) _).alloc (by simp; omega) _).drew

set_option maxRecDepth 100000 in
set_option maxHeartbeats 1000000 in
theorem above_none {s : ByteArray} {p : Int} {c : Bool} (hl : s.size ≤ 800) {n : Nat} (hn : n ≤ s.size) (h1 : ∀ i, i < n → dgt s i = 57) (hp : -1099511627776 ≤ p) (hp' : p ≤ 1099511627776) (w : World) :
    Calls Tryd.prog 49 #[dcV s p c, .int .i64 n] w fun e w' => e = .returned (.tuple (if p = 1099511627776 then #[dcV ⟨#[]⟩ 0 false, .iface 68 (.int .i64 4)] else #[dcV ⟨#[49]⟩ (p + 1) false, .nilIface])) ∧ Below w.heap.size w w' := by
  have zs := pre_size hn
  have T := fun W => trimRight57 (s.extract 0 n) (by omega) 0 (by omega) (fun i a b => by rw [← dgt_lt b, pre_dgt hn (by omega)]; exact h1 i (by omega)) (fun q => absurd q (by omega)) W
  rw [pre_pre (Nat.zero_le n)] at T
  have e0 : s.extract 0 0 = ⟨#[]⟩ := size_zero (pre_size (Nat.zero_le _))
  rw [e0] at T
  have R0 := OneR.start w s p c
  have HT : Hid (OneR w ((w.alloc (.cells #[.string s, .int .i64 p, .bool c] 23)).alloc (.cells #[.string ⟨#[]⟩, .int .i64 0, .bool false] 23)) s p c) := R0
  clear h1 e0 R0
  unfold dcV at *
  by_cases c1 : p = 1099511627776
  · rw [if_pos c1]
    subst c1
    go_enter Tryd.func49, Tryd.ntmps49
    go_wp2_with fail
    refine (T _).mono ?_
    rintro e w0 ⟨rfl, rfl⟩
    go_wp2
    refine bodyPost_ret (v := .tuple #[.agg #[.string ⟨#[]⟩, .int .i64 0, .bool false], .iface 68 (.int .i64 4)]) (by simp [results, Tryd.results49, go_sem]) rfl ⟨rfl, ?_⟩
    first | exact HT.out.bel | exact (((HT.out.bel.setCell (by simp) _).setCell (by simp) _).setCell (by simp) _)
  · rw [if_neg c1]
    have c1' : (p == 1099511627776) = false := beq_eq_false_iff_ne.mpr c1
    have wp : IntKind.i64.wrap (p + 1) = p + 1 := by
      unfold IntKind.wrap
      simp [IntKind.bits, IntKind.signed]
      omega
    clear c1
    go_enter Tryd.func49, Tryd.ntmps49
    go_wp2_with fail
    refine (T _).mono ?_
    rintro e w0 ⟨rfl, rfl⟩
    go_wp2
    refine bodyPost_ret (v := .tuple #[.agg #[.string ⟨#[49]⟩, .int .i64 (p + 1), .bool false], .nilIface]) (by simp [results, Tryd.results49, go_sem]) rfl ⟨rfl, ?_⟩
    first | exact HT.out.bel | exact ((Below.refl _ _).alloc (Nat.le_refl _) _).alloc (by simp) _

end Go.Proofs.YtladeppjccfbhaaDoor
