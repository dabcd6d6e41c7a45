/-
  Both Makes answer the same at texts of at most 801 digits; Halve and Double of both.
-/
import Derived.Test.YtladeppjccfbhaaDoorDecZ
import Derived.Test.YtladeppjccfbhaaDoorDecQ
import Derived.Test.YtladeppjccfbhaaDoorDecH
namespace Go.Proofs.YtladeppjccfbhaaDoor
open Go.RowKit

theorem leads_at (t : ByteArray) : ∀ n, n ≤ t.size → ∃ z, z ≤ n ∧ (∀ i, i < z → dgt t i = 48) ∧ (z < n → dgt t z ≠ 48)
  | 0, _ => ⟨0, Nat.le_refl _, fun _ h => absurd h (Nat.not_lt_zero _), fun h => absurd h (Nat.lt_irrefl _)⟩
  | n + 1, hn => by
    obtain ⟨z, h1, h2, h3⟩ := leads_at t n (by omega)
    by_cases c : z < n
    · exact ⟨z, by omega, h2, fun _ => h3 c⟩
    · have zn : z = n := by omega
      subst zn
      by_cases d : dgt t z = 48
      · refine ⟨z + 1, Nat.le_refl _, fun i hi => ?_, fun h => absurd h (Nat.lt_irrefl _)⟩
        by_cases e : i = z
        · rw [e]; exact d
        · exact h2 i (by omega)
      · exact ⟨z, by omega, h2, fun _ => d⟩

/-- Both Makes answer the same number, and an error of the same number. -/
def BothM (t : ByteArray) (p : Int) : Prop := ∃ (s2 : ByteArray) (p2 : Int) (c2 : Bool) (kk : Int) (E : Value),
    (∀ W, Calls Tryd.prog 25 #[.string t, .int .i64 p, .bool false] W fun e w' => e = .returned (.tuple #[dcV s2 p2 c2, E]) ∧ Below W.heap.size W w') ∧
    (∀ W, Calls Tryd.prog 53 #[.string t, .int .i64 p, .bool false] W fun e w' => e = .returned (.tuple #[dcV s2 p2 c2, .int .i64 kk]) ∧ Below W.heap.size W w') ∧
    (∀ W, ErrT W → Calls Tryd.prog 10 #[E] W fun e w' => e = .returned (.int .i64 kk) ∧ Below W.heap.size W w')

theorem make_pair {t : ByteArray} (h0 : 0 < t.size) (hl : t.size ≤ 801) (hd : DG t) {p : Int} (hp0 : -1099511627776 ≤ p) (hp9 : p ≤ 2199023255552) : BothM t p := by
  obtain ⟨z, h1, h2, h3⟩ := leads_at t t.size (Nat.le_refl _)
  by_cases c : z = t.size
  · exact ⟨⟨#[]⟩, 0, false, 0, _, fun W => dmake_zero h0 hl hd (fun i hi => h2 i (by omega)) W, fun W => rmake_zero hl hd c h2 W, fun W _ => num_nil W⟩
  · have hz : z < t.size := by omega
    have hz2 := h3 hz
    obtain ⟨u, hu⟩ : ∃ u, t.extract z t.size = u := ⟨_, rfl⟩
    have uz : u.size = t.size - z := by rw [← hu]; exact ext_size (by omega)
    have u0 : dgt u 0 ≠ 48 := by rw [← hu, sub_dgt (by omega)]; exact hz2
    by_cases r : inR p z
    · by_cases k : u.size ≤ 800
      · obtain ⟨m, m1, m2, m3⟩ := zeros_at u u.size
        have m0 : 0 < m := by
          rcases Nat.eq_zero_or_pos m with e | e
          · exact absurd (m2 0 (by omega) (by omega)) u0
          · exact e
        exact ⟨u.extract 0 m, p - (z : Int), false, 0, _, fun W => dmake_in hl hd hz h2 hz2 hu (fun W => shorten_ok u k m m1 (fun i a b => by rw [← dgt_lt b]; exact m2 i a b) (fun q => by rw [← dgt_lt (by omega)]; exact m3 q) W) hp0 hp9 r W,
          fun W => rmake_in hl hd hz h2 hz2 hu k m1 m0 m2 (m3 m0) hp0 hp9 r W, fun W _ => num_nil W⟩
      · have z0 : z = 0 := by omega
        subst z0
        have t8 : t.size = 801 := by omega
        have hu' : t.extract 0 t.size = t := ext_zero t
        obtain ⟨v, hv⟩ : ∃ v, t.extract 0 800 = v := ⟨_, rfl⟩
        have pz : p - ((0 : Nat) : Int) = p := by omega
        have pr : p ≤ 1099511627776 := by unfold inR at r; omega
        by_cases x : dgt t 800 = 48
        · obtain ⟨m, m1, m2, m3⟩ := zeros_at v v.size
          have vz : v.size = 800 := by rw [← hv]; exact pre_size (by omega)
          have v0 : dgt v 0 ≠ 48 := by rw [← hv, pre_dgt (by omega) (by omega)]; exact hz2
          have m0 : 0 < m := by
            rcases Nat.eq_zero_or_pos m with e | e
            · exact absurd (m2 0 (by omega) (by omega)) v0
            · exact e
          refine ⟨v.extract 0 m, p, false, 0, _, fun W => ?_, fun W => rmake_last_in t8 hd hz2 x hv m1 m0 m2 (m3 m0) hp0 pr W, fun W _ => num_nil W⟩
          have q := dmake_in hl hd hz h2 hz2 hu' (fun W => shorten_last t8 x hv m1 m2 m3 W) hp0 hp9 r W
          rw [pz] at q
          exact q
        · refine ⟨v, p, true, 0, _, fun W => ?_, fun W => rmake_cut_in t8 hd hz2 x hv hp0 pr W, fun W _ => num_nil W⟩
          have q := dmake_in hl hd hz h2 hz2 hu' (fun W => shorten_cut t8 x hv W) hp0 hp9 r W
          rw [pz] at q
          exact q
    · have DM := fun W => dmake_out (p := p) hl hd hz h2 hz2 hu hp0 hp9 r W
      refine ⟨⟨#[]⟩, 0, false, 4, _, DM, fun W => ?_, fun W h => num_errno 4 W h⟩
      by_cases k : u.size ≤ 800
      · obtain ⟨m, m1, m2, m3⟩ := zeros_at u u.size
        have m0 : 0 < m := by
          rcases Nat.eq_zero_or_pos m with e | e
          · exact absurd (m2 0 (by omega) (by omega)) u0
          · exact e
        exact rmake_out hl hd hz h2 hz2 hu k m1 m0 m2 (m3 m0) hp0 hp9 r W
      · have z0 : z = 0 := by omega
        subst z0
        have t8 : t.size = 801 := by omega
        obtain ⟨v, hv⟩ : ∃ v, t.extract 0 800 = v := ⟨_, rfl⟩
        have pr : 1099511627776 < p := by unfold inR at r; omega
        by_cases x : dgt t 800 = 48
        · obtain ⟨m, m1, m2, m3⟩ := zeros_at v v.size
          have vz : v.size = 800 := by rw [← hv]; exact pre_size (by omega)
          have v0 : dgt v 0 ≠ 48 := by rw [← hv, pre_dgt (by omega) (by omega)]; exact hz2
          have m0 : 0 < m := by
            rcases Nat.eq_zero_or_pos m with e | e
            · exact absurd (m2 0 (by omega) (by omega)) v0
            · exact e
          exact rmake_last_out t8 hd hz2 x hv m1 m0 m2 (m3 m0) hp0 pr W
        · exact rmake_cut_out t8 hd hz2 x hv hp0 pr W

set_option maxRecDepth 100000 in
set_option maxHeartbeats 1000000 in
theorem dhalve_ok {s : ByteArray} {p : Int} (h : VD s p false) {s2 : ByteArray} {p2 : Int} {c2 : Bool} {E : Value} (Mk : ∀ W, Calls Tryd.prog 25 #[.string (tmS s 5), .int .i64 p, .bool false] W fun e w' => e = .returned (.tuple #[dcV s2 p2 c2, E]) ∧ Below W.heap.size W w') (w : World) :
    Calls Tryd.prog 18 #[dcV s p false] w fun e w' => e = .returned (.tuple #[dcV s2 p2 c2, E]) ∧ Below w.heap.size w w' := by
  have VV := fun W => dvalid_yes h W
  have hl : s.size ≤ 800 := by
    rcases h with g | g
    · have := g.1; omega
    · exact g.len
  have hd : DG s := by
    rcases h with g | g
    · intro i hi; have := g.1; omega
    · exact g.dg
  have TT := fun W => times_any hd hl (f := 5) (by decide) W
  generalize tmS s 5 = u at *
  clear h hd hl
  unfold dcV at *
  go_enter Tryd.func18, Tryd.ntmps18
  go_wp2_with fail
  refine (VV _).mono ?_
  rintro e w1 ⟨rfl, hb1⟩
  have O1 : Hid (OneR w w1 s p false) := (OneR.start w s p false).step hb1
  clear hb1
  obtain ⟨_, _, a0, a1, a2, r0, r1, r2, fr⟩ := O1.out
  go_wp2
  go_region_with (first
    | (go_at_call 52; refine (TT _).mono ?_; rintro e w2 ⟨rfl, hb2⟩; have O2 : Hid (OneR w w2 s p false) := (O1.out.step (Below.refl _ _).drew).step hb2; clear hb2 a0 a1 a2 r0 r1 r2 fr; obtain ⟨_, _, a0, a1, a2, r0, r1, r2, fr⟩ := O2.out)
    | (go_at_call 25; refine (Mk _).mono ?_; rintro e w3 ⟨rfl, hb3⟩; have O3 : Hid (OneR w w3 s p false) := O2.out.step hb3; clear hb3 a0 a1 a2 r0 r1 r2 fr; obtain ⟨_, _, a0, a1, a2, r0, r1, r2, fr⟩ := O3.out))
  all_goals
    go_wp2
    refine bodyPost_ret (v := .tuple #[.agg #[.string s2, .int .i64 p2, .bool c2], E]) (by simp [results, Tryd.results18, go_sem, *]) rfl ⟨rfl, ?_⟩
    exact (((O3.out.bel.setCell (by simp) _).setCell (by simp) _).setCell (by simp) _)

set_option maxRecDepth 100000 in
set_option maxHeartbeats 1000000 in
theorem dhalve_bad {s : ByteArray} {p : Int} {c : Bool} (hs : s.size ≤ 9223372036854775807) (h : ¬ VD s p c) (w : World) :
    Calls Tryd.prog 18 #[dcV s p c] w fun e w' => e = .returned (.tuple #[dcV ⟨#[]⟩ 0 false, .iface 68 (.int .i64 1)]) ∧ Below w.heap.size w w' := by
  have VV := fun W => dvalid_no hs h W
  unfold dcV at *
  go_enter Tryd.func18, Tryd.ntmps18
  go_wp2_with fail
  refine (VV _).mono ?_
  rintro e w1 ⟨rfl, hb1⟩
  have O1 : Hid (OneR w w1 s p c) := (OneR.start w s p c).step hb1
  clear hb1
  obtain ⟨_, _, a0, a1, a2, r0, r1, r2, fr⟩ := O1.out
  go_wp2
  refine bodyPost_ret (v := .tuple #[.agg #[.string ⟨#[]⟩, .int .i64 0, .bool false], .iface 68 (.int .i64 1)]) (by simp [results, Tryd.results18, go_sem, *]) rfl ⟨rfl, ?_⟩
  exact (((O1.out.bel.setCell (by simp) _).setCell (by simp) _).setCell (by simp) _)

set_option maxRecDepth 100000 in
set_option maxHeartbeats 1000000 in
theorem dhalve_cut {s : ByteArray} {p : Int} (h : VD s p true) (w : World) :
    Calls Tryd.prog 18 #[dcV s p true] w fun e w' => e = .returned (.tuple #[dcV ⟨#[]⟩ 0 false, .iface 68 (.int .i64 1)]) ∧ Below w.heap.size w w' := by
  have VV := fun W => dvalid_yes h W
  clear h
  unfold dcV at *
  go_enter Tryd.func18, Tryd.ntmps18
  go_wp2_with fail
  refine (VV _).mono ?_
  rintro e w1 ⟨rfl, hb1⟩
  have O1 : Hid (OneR w w1 s p true) := (OneR.start w s p true).step hb1
  clear hb1
  obtain ⟨_, _, a0, a1, a2, r0, r1, r2, fr⟩ := O1.out
  go_wp2
  refine bodyPost_ret (v := .tuple #[.agg #[.string ⟨#[]⟩, .int .i64 0, .bool false], .iface 68 (.int .i64 1)]) (by simp [results, Tryd.results18, go_sem, *]) rfl ⟨rfl, ?_⟩
  exact (((O1.out.bel.setCell (by simp) _).setCell (by simp) _).setCell (by simp) _)

set_option maxRecDepth 100000 in
set_option maxHeartbeats 1000000 in
theorem rhalve_bad {s : ByteArray} {p : Int} {c : Bool} (hs : s.size ≤ 9223372036854775807) (h : ¬ VD s p c) (w : World) :
    Calls Tryd.prog 19 #[dcV s p c] w fun e w' => e = .returned (.tuple #[dcV ⟨#[]⟩ 0 false, .int .i64 1]) ∧ Below w.heap.size w w' := by
  have VV := fun W => rvald_no hs h W
  unfold dcV at *
  go_enter Tryd.func19, Tryd.ntmps19
  go_wp2_with fail
  refine (VV _).mono ?_
  rintro e w1 ⟨rfl, hb1⟩
  have O1 : Hid (OneR w w1 s p c) := (OneR.start w s p c).step hb1
  clear hb1
  obtain ⟨_, _, a0, a1, a2, r0, r1, r2, fr⟩ := O1.out
  go_wp2
  refine bodyPost_ret (v := .tuple #[.agg #[.string ⟨#[]⟩, .int .i64 0, .bool false], .int .i64 1]) (by simp [results, Tryd.results19, go_sem, *]) rfl ⟨rfl, ?_⟩
  exact (((O1.out.bel.setCell (by simp) _).setCell (by simp) _).setCell (by simp) _)

set_option maxRecDepth 100000 in
set_option maxHeartbeats 1000000 in
theorem rhalve_cut {s : ByteArray} {p : Int} (h : VD s p true) (w : World) :
    Calls Tryd.prog 19 #[dcV s p true] w fun e w' => e = .returned (.tuple #[dcV ⟨#[]⟩ 0 false, .int .i64 1]) ∧ Below w.heap.size w w' := by
  have VV := fun W => rvald_yes h W
  clear h
  unfold dcV at *
  go_enter Tryd.func19, Tryd.ntmps19
  go_wp2_with fail
  refine (VV _).mono ?_
  rintro e w1 ⟨rfl, hb1⟩
  have O1 : Hid (OneR w w1 s p true) := (OneR.start w s p true).step hb1
  clear hb1
  obtain ⟨_, _, a0, a1, a2, r0, r1, r2, fr⟩ := O1.out
  go_wp2
  refine bodyPost_ret (v := .tuple #[.agg #[.string ⟨#[]⟩, .int .i64 0, .bool false], .int .i64 1]) (by simp [results, Tryd.results19, go_sem, *]) rfl ⟨rfl, ?_⟩
  exact (((O1.out.bel.setCell (by simp) _).setCell (by simp) _).setCell (by simp) _)

set_option maxRecDepth 100000 in
set_option maxHeartbeats 1000000 in
theorem ddouble_ok {s : ByteArray} {p : Int} (h : VD s p false) {s2 : ByteArray} {p2 : Int} {c2 : Bool} {E : Value} (Mk : ∀ W, Calls Tryd.prog 25 #[.string (tmS s 2), .int .i64 (p + 1), .bool false] W fun e w' => e = .returned (.tuple #[dcV s2 p2 c2, E]) ∧ Below W.heap.size W w') (w : World) :
    Calls Tryd.prog 20 #[dcV s p false] w fun e w' => e = .returned (.tuple #[dcV s2 p2 c2, E]) ∧ Below w.heap.size w w' := by
  have VV := fun W => dvalid_yes h W
  have hl : s.size ≤ 800 := by
    rcases h with g | g
    · have := g.1; omega
    · exact g.len
  have hd : DG s := by
    rcases h with g | g
    · intro i hi; have := g.1; omega
    · exact g.dg
  have TT := fun W => times_any hd hl (f := 2) (by decide) W
  have wp : IntKind.i64.wrap (p + 1) = p + 1 := by
    have hp : -1099511627776 ≤ p ∧ p ≤ 1099511627776 := by
      rcases h with g | g
      · have := g.2.1; omega
      · exact ⟨g.lo, g.hi⟩
    unfold IntKind.wrap
    simp [IntKind.bits, IntKind.signed]
    omega
  generalize tmS s 2 = u at *
  clear h hd hl
  unfold dcV at *
  go_enter Tryd.func20, Tryd.ntmps20
  go_wp2_with fail
  refine (VV _).mono ?_
  rintro e w1 ⟨rfl, hb1⟩
  have O1 : Hid (OneR w w1 s p false) := (OneR.start w s p false).step hb1
  clear hb1
  obtain ⟨_, _, a0, a1, a2, r0, r1, r2, fr⟩ := O1.out
  go_wp2
  go_region_with (first
    | (go_at_call 52; refine (TT _).mono ?_; rintro e w2 ⟨rfl, hb2⟩; have O2 : Hid (OneR w w2 s p false) := (O1.out.step (Below.refl _ _).drew).step hb2; clear hb2 a0 a1 a2 r0 r1 r2 fr; obtain ⟨_, _, a0, a1, a2, r0, r1, r2, fr⟩ := O2.out)
    | (go_at_call 25; refine (Mk _).mono ?_; rintro e w3 ⟨rfl, hb3⟩; have O3 : Hid (OneR w w3 s p false) := O2.out.step hb3; clear hb3 a0 a1 a2 r0 r1 r2 fr; obtain ⟨_, _, a0, a1, a2, r0, r1, r2, fr⟩ := O3.out))
  all_goals
    go_wp2
    refine bodyPost_ret (v := .tuple #[.agg #[.string s2, .int .i64 p2, .bool c2], E]) (by simp [results, Tryd.results20, go_sem, *]) rfl ⟨rfl, ?_⟩
    exact (((O3.out.bel.setCell (by simp) _).setCell (by simp) _).setCell (by simp) _)

set_option maxRecDepth 100000 in
set_option maxHeartbeats 1000000 in
theorem ddouble_bad {s : ByteArray} {p : Int} {c : Bool} (hs : s.size ≤ 9223372036854775807) (h : ¬ VD s p c) (w : World) :
    Calls Tryd.prog 20 #[dcV s p c] w fun e w' => e = .returned (.tuple #[dcV ⟨#[]⟩ 0 false, .iface 68 (.int .i64 1)]) ∧ Below w.heap.size w w' := by
  have VV := fun W => dvalid_no hs h W
  unfold dcV at *
  go_enter Tryd.func20, Tryd.ntmps20
  go_wp2_with fail
  refine (VV _).mono ?_
  rintro e w1 ⟨rfl, hb1⟩
  have O1 : Hid (OneR w w1 s p c) := (OneR.start w s p c).step hb1
  clear hb1
  obtain ⟨_, _, a0, a1, a2, r0, r1, r2, fr⟩ := O1.out
  go_wp2
  refine bodyPost_ret (v := .tuple #[.agg #[.string ⟨#[]⟩, .int .i64 0, .bool false], .iface 68 (.int .i64 1)]) (by simp [results, Tryd.results20, go_sem, *]) rfl ⟨rfl, ?_⟩
  exact (((O1.out.bel.setCell (by simp) _).setCell (by simp) _).setCell (by simp) _)

set_option maxRecDepth 100000 in
set_option maxHeartbeats 1000000 in
theorem ddouble_cut {s : ByteArray} {p : Int} (h : VD s p true) (w : World) :
    Calls Tryd.prog 20 #[dcV s p true] w fun e w' => e = .returned (.tuple #[dcV ⟨#[]⟩ 0 false, .iface 68 (.int .i64 1)]) ∧ Below w.heap.size w w' := by
  have VV := fun W => dvalid_yes h W
  clear h
  unfold dcV at *
  go_enter Tryd.func20, Tryd.ntmps20
  go_wp2_with fail
  refine (VV _).mono ?_
  rintro e w1 ⟨rfl, hb1⟩
  have O1 : Hid (OneR w w1 s p true) := (OneR.start w s p true).step hb1
  clear hb1
  obtain ⟨_, _, a0, a1, a2, r0, r1, r2, fr⟩ := O1.out
  go_wp2
  refine bodyPost_ret (v := .tuple #[.agg #[.string ⟨#[]⟩, .int .i64 0, .bool false], .iface 68 (.int .i64 1)]) (by simp [results, Tryd.results20, go_sem, *]) rfl ⟨rfl, ?_⟩
  exact (((O1.out.bel.setCell (by simp) _).setCell (by simp) _).setCell (by simp) _)

set_option maxRecDepth 100000 in
set_option maxHeartbeats 1000000 in
theorem rdouble_bad {s : ByteArray} {p : Int} {c : Bool} (hs : s.size ≤ 9223372036854775807) (h : ¬ VD s p c) (w : World) :
    Calls Tryd.prog 21 #[dcV s p c] w fun e w' => e = .returned (.tuple #[dcV ⟨#[]⟩ 0 false, .int .i64 1]) ∧ Below w.heap.size w w' := by
  have VV := fun W => rvald_no hs h W
  unfold dcV at *
  go_enter Tryd.func21, Tryd.ntmps21
  go_wp2_with fail
  refine (VV _).mono ?_
  rintro e w1 ⟨rfl, hb1⟩
  have O1 : Hid (OneR w w1 s p c) := (OneR.start w s p c).step hb1
  clear hb1
  obtain ⟨_, _, a0, a1, a2, r0, r1, r2, fr⟩ := O1.out
  go_wp2
  refine bodyPost_ret (v := .tuple #[.agg #[.string ⟨#[]⟩, .int .i64 0, .bool false], .int .i64 1]) (by simp [results, Tryd.results21, go_sem, *]) rfl ⟨rfl, ?_⟩
  exact (((O1.out.bel.setCell (by simp) _).setCell (by simp) _).setCell (by simp) _)

set_option maxRecDepth 100000 in
set_option maxHeartbeats 1000000 in
theorem rdouble_cut {s : ByteArray} {p : Int} (h : VD s p true) (w : World) :
    Calls Tryd.prog 21 #[dcV s p true] w fun e w' => e = .returned (.tuple #[dcV ⟨#[]⟩ 0 false, .int .i64 1]) ∧ Below w.heap.size w w' := by
  have VV := fun W => rvald_yes h W
  clear h
  unfold dcV at *
  go_enter Tryd.func21, Tryd.ntmps21
  go_wp2_with fail
  refine (VV _).mono ?_
  rintro e w1 ⟨rfl, hb1⟩
  have O1 : Hid (OneR w w1 s p true) := (OneR.start w s p true).step hb1
  clear hb1
  obtain ⟨_, _, a0, a1, a2, r0, r1, r2, fr⟩ := O1.out
  go_wp2
  refine bodyPost_ret (v := .tuple #[.agg #[.string ⟨#[]⟩, .int .i64 0, .bool false], .int .i64 1]) (by simp [results, Tryd.results21, go_sem, *]) rfl ⟨rfl, ?_⟩
  exact (((O1.out.bel.setCell (by simp) _).setCell (by simp) _).setCell (by simp) _)

/-- Both answer the same number, and an error of the same number. -/
def BothH (F G : Nat) (s : ByteArray) (p : Int) (c : Bool) : Prop := ∃ (s2 : ByteArray) (p2 : Int) (c2 : Bool) (kk : Int) (E : Value),
    (∀ W, Calls Tryd.prog F #[dcV s p c] W fun e w' => e = .returned (.tuple #[dcV s2 p2 c2, E]) ∧ Below W.heap.size W w') ∧
    (∀ W, Calls Tryd.prog G #[dcV s p c] W fun e w' => e = .returned (.tuple #[dcV s2 p2 c2, .int .i64 kk]) ∧ Below W.heap.size W w') ∧
    (∀ W, ErrT W → Calls Tryd.prog 10 #[E] W fun e w' => e = .returned (.int .i64 kk) ∧ Below W.heap.size W w')
theorem vd_pt {s : ByteArray} {p : Int} {c : Bool} (h : VD s p c) : s.size ≤ 800 ∧ DG s ∧ -1099511627776 ≤ p ∧ p ≤ 1099511627776 := by
  rcases h with g | g
  · exact ⟨by have := g.1; omega, fun i hi => by have := g.1; omega, by have := g.2.1; omega, by have := g.2.1; omega⟩
  · exact ⟨g.len, g.dg, g.lo, g.hi⟩
theorem tmS_DG {s : ByteArray} (hd : DG s) {f : Nat} (hf : f ≤ 9) : DG (tmS s f) := fun i hi => by
  rw [← dgt_lt hi, (tmS_dgt hd hf).2 i (by have := (tmS_dgt hd hf).1; omega)]
  exact tm_in hd hf i

theorem halve_both {s : ByteArray} {p : Int} {c : Bool} (hs : s.size ≤ 9223372036854775807) : BothH 18 19 s p c := by
  by_cases h : VD s p c
  · cases c with
    | true => exact ⟨⟨#[]⟩, 0, false, 1, _, fun W => dhalve_cut h W, fun W => rhalve_cut h W, fun W h => num_errno 1 W h⟩
    | false =>
      obtain ⟨a1, a2, a3, a4⟩ := vd_pt h
      have z := (tmS_dgt a2 (show 5 ≤ 9 by decide)).1
      obtain ⟨s2, p2, c2, kk, E, m1, m2, m3⟩ := make_pair (t := tmS s 5) (by omega) (by omega) (tmS_DG a2 (by decide)) (p := p) (by omega) (by omega)
      exact ⟨s2, p2, c2, kk, E, fun W => dhalve_ok h m1 W, fun W => rhalve_ok h m2 W, m3⟩
  · exact ⟨⟨#[]⟩, 0, false, 1, _, fun W => dhalve_bad hs h W, fun W => rhalve_bad hs h W, fun W h => num_errno 1 W h⟩

theorem double_both {s : ByteArray} {p : Int} {c : Bool} (hs : s.size ≤ 9223372036854775807) : BothH 20 21 s p c := by
  by_cases h : VD s p c
  · cases c with
    | true => exact ⟨⟨#[]⟩, 0, false, 1, _, fun W => ddouble_cut h W, fun W => rdouble_cut h W, fun W h => num_errno 1 W h⟩
    | false =>
      obtain ⟨a1, a2, a3, a4⟩ := vd_pt h
      have z := (tmS_dgt a2 (show 2 ≤ 9 by decide)).1
      obtain ⟨s2, p2, c2, kk, E, m1, m2, m3⟩ := make_pair (t := tmS s 2) (by omega) (by omega) (tmS_DG a2 (by decide)) (p := (p + 1)) (by omega) (by omega)
      exact ⟨s2, p2, c2, kk, E, fun W => ddouble_ok h m1 W, fun W => rdouble_ok h m2 W, m3⟩
  · exact ⟨⟨#[]⟩, 0, false, 1, _, fun W => ddouble_bad hs h W, fun W => rdouble_bad hs h W, fun W h => num_errno 1 W h⟩

end Go.Proofs.YtladeppjccfbhaaDoor
