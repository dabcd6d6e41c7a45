/-
  The document's made of some digits.
-/
import Derived.Test.YtladeppjccfbhaaDoorDecD
namespace Go.Proofs.YtladeppjccfbhaaDoor
open Go.RowKit

theorem pre_dg {s : ByteArray} (hd : DG s) {k : Nat} (hk : k ≤ s.size) : DG (s.extract 0 k) := by
  intro i h
  have z := pre_size hk
  rw [← dgt_lt h, pre_dgt hk (by omega)]
  exact dgt_in hd i
theorem upS_pre {s : ByteArray} {k m : Nat} (hk : k ≤ s.size) (h0 : 0 < m) (hm : m ≤ k) : upS (s.extract 0 k) m = upS s m := by
  unfold upS
  rw [pre_pre (by omega), pre_dgt hk (by omega)]

theorem OneR.set {w W : World} {s : ByteArray} {p : Int} {c : Bool} (h : OneR w W s p c) (i : Nat) (v : Value) : OneR w (W.setCell ⟨w.heap.size + 1 + 1, i, none⟩ v) s p c := by
  have k : ∀ b o, b < w.heap.size + 1 + 1 → (W.setCell ⟨w.heap.size + 1 + 1, i, none⟩ v).cell? ⟨b, o, none⟩ = W.cell? ⟨b, o, none⟩ := fun b o hb => World.cell?_setCell_other W ⟨w.heap.size + 1 + 1, i, none⟩ ⟨b, o, none⟩ v (by intro q; injection q with q _ _; omega)
  exact ⟨by rw [World.size_setCell]; exact h.sz, h.bel.setCell (by show w.heap.size ≤ w.heap.size + 1 + 1; omega) v, (k _ _ (by omega)).trans h.a0, (k _ _ (by omega)).trans h.a1, (k _ _ (by omega)).trans h.a2, (k _ _ (by omega)).trans h.r0, (k _ _ (by omega)).trans h.r1, (k _ _ (by omega)).trans h.r2, fun o => by rw [World.frozen?_setCell]; exact h.fr o⟩

set_option maxRecDepth 100000 in
set_option maxHeartbeats 1000000 in
theorem made_dn {s : ByteArray} {p : Int} {c : Bool} (hl : s.size ≤ 800) (hd : DG s) (hf : dgt s 0 ≠ 48) {k m : Nat} (k0 : 0 < k) (hk : k ≤ s.size) (hm : m ≤ k) (m0 : 0 < m) (h1 : ∀ i, m ≤ i → i < k → dgt s i = 48) (h2 : dgt s (m - 1) ≠ 48) (hp : -1099511627776 ≤ p) (hp' : p ≤ 1099511627776) (w : World) :
    Calls Tryd.prog 51 #[dcV s p c, .int .i64 k, .bool false] w fun e w' => e = .returned (.tuple #[dcV (s.extract 0 m) p false, .int .i64 0]) ∧ Below w.heap.size w w' := by
  have zk := pre_size hk
  have R := fun W => rmake_ok (s := s.extract 0 k) (p := p) (m := m) (by omega) (by omega) (pre_dg hd hk) (by rw [pre_dgt hk k0]; exact hf) (by omega) m0 (fun i a b => by rw [pre_dgt hk (by omega)]; exact h1 i a (by omega)) (by rw [pre_dgt hk (by omega)]; exact h2) hp hp' W
  rw [pre_pre hm] at R
  obtain ⟨t, ht⟩ : ∃ t, t = s.extract 0 m := ⟨_, rfl⟩
  rw [← ht] at R ⊢
  have R0 := OneR.start w s p c
  have kz : ((k : Int) == 0) = false := beq_eq_false_iff_ne.mpr (by omega)
  clear h1 h2 hd hf ht
  unfold dcV at *
  go_enter Tryd.func51, Tryd.ntmps51
  go_wp2
  go_region
  all_goals
    go_wp2_with fail
    refine (R _).mono ?_
    rintro e w1 ⟨rfl, hb⟩
    have HT : Hid (OneR w w1 s p c) := (R0.step (((Below.refl _ _).alloc (Nat.le_refl _) _).drew)).step hb
    clear hb R0
    obtain ⟨_, _, a0, a1, a2, r0, r1, r2, fr⟩ := HT.out
    go_wp2
    refine bodyPost_ret (v := .tuple #[.agg #[.string t, .int .i64 p, .bool false], .int .i64 0]) (by simp [results, Tryd.results51, go_sem, *]) rfl ⟨rfl, ?_⟩
    exact (((HT.out.bel.setCell (by simp) _).setCell (by simp) _).setCell (by simp) _)

set_option maxRecDepth 100000 in
set_option maxHeartbeats 1000000 in
theorem made_up {s : ByteArray} {p : Int} {c : Bool} (hl : s.size ≤ 800) (hd : DG s) (hf : dgt s 0 ≠ 48) {k m : Nat} (k0 : 0 < k) (hk : k ≤ s.size) (hm : m ≤ k) (m0 : 0 < m) (h1 : ∀ i, m ≤ i → i < k → dgt s i = 57) (h2 : dgt s (m - 1) ≠ 57) (hp : -1099511627776 ≤ p) (hp' : p ≤ 1099511627776) (w : World) :
    Calls Tryd.prog 51 #[dcV s p c, .int .i64 k, .bool true] w fun e w' => e = .returned (.tuple #[dcV (upS s m) p false, .int .i64 0]) ∧ Below w.heap.size w w' := by
  have zk := pre_size hk
  have N := fun W => next_dig (s := s.extract 0 k) (p := p) (c := false) (by omega) (by omega) (pre_dg hd hk) hp hp' (m := m) (by omega) (fun i a b => by rw [pre_dgt hk (by omega)]; exact h1 i a (by omega)) (fun _ => by rw [pre_dgt hk (by omega)]; exact h2) W
  rw [nxV_pos m0, upS_pre hk m0 hm] at N
  have us := upS_size (s := s) (m := m) m0 (by omega)
  obtain ⟨u1, u2⟩ := upS_dgt hd (m := m) m0 (by omega)
  have xd := dgt_in hd (m - 1)
  have R := fun W => rmake_ok (s := upS s m) (p := p) (m := m) (by omega) (by omega) (fun i h => by
    rw [← dgt_lt h]
    by_cases z : i = m - 1
    · rw [z, u2]; omega
    · rw [u1 i (by omega)]; exact dgt_in hd i) (by
      by_cases z : 0 = m - 1
      · have u3 := u2; rw [← z] at u3; have x0 := dgt_in hd 0; omega
      · rw [u1 0 (by omega)]; exact hf) (by omega) m0 (fun i a b => absurd a (by omega)) (by omega) hp hp' W
  have ee : (upS s m).extract 0 m = upS s m := by
    have := ext_zero (upS s m)
    rw [us] at this
    exact this
  rw [ee] at R
  obtain ⟨t, ht⟩ : ∃ t, t = upS s m := ⟨_, rfl⟩
  rw [← ht] at R N ⊢
  have R0 := OneR.start w s p c
  have kz : ((k : Int) == 0) = false := beq_eq_false_iff_ne.mpr (by omega)
  clear h1 h2 hd hf ht us u1 u2 ee
  unfold dcV at *
  go_enter Tryd.func51, Tryd.ntmps51
  go_wp2
  go_region
  all_goals
    go_wp2_with fail
    refine (N _).mono ?_
    rintro e w1 ⟨rfl, hb⟩
    have HT : Hid (OneR w w1 s p c) := (R0.step (((Below.refl _ _).alloc (Nat.le_refl _) _).drew)).step hb
    obtain ⟨_, _, a0, a1, a2, r0, r1, r2, fr⟩ := HT.out
    have sz1 : w.heap.size + 3 ≤ w1.heap.size := by have := hb.size; simp at this; omega
    have xc := fun o => hb.cell (p := ⟨w.heap.size + 1 + 1, o, none⟩) (by simp)
    have xf := fun o => hb.frozen (p := ⟨w.heap.size + 1 + 1, o, none⟩) (by simp)
    clear hb R0
    simp at xc xf
    go_wp2_with fail
    refine (R _).mono ?_
    rintro e w2 ⟨rfl, hb2⟩
    have HT2 : Hid (OneR w w2 s p c) := (((HT.out.set _ _).set _ _).set _ _).step hb2
    clear hb2 a0 a1 a2 r0 r1 r2 fr
    obtain ⟨_, _, a0, a1, a2, r0, r1, r2, fr⟩ := HT2.out
    go_wp2
    refine bodyPost_ret (v := .tuple #[.agg #[.string t, .int .i64 p, .bool false], .int .i64 0]) (by simp [results, Tryd.results51, go_sem, *]) rfl ⟨rfl, ?_⟩
    exact (((HT2.out.bel.setCell (by simp) _).setCell (by simp) _).setCell (by simp) _)

set_option maxRecDepth 100000 in
set_option maxHeartbeats 1000000 in
theorem made_un {s : ByteArray} {p : Int} {c : Bool} (hl : s.size ≤ 800) (hd : DG s) {k : Nat} (k0 : 0 < k) (hk : k ≤ s.size) (h1 : ∀ i, i < k → dgt s i = 57) (hp : -1099511627776 ≤ p) (hp' : p < 1099511627776) (w : World) :
    Calls Tryd.prog 51 #[dcV s p c, .int .i64 k, .bool true] w fun e w' => e = .returned (.tuple #[dcV ⟨#[49]⟩ (p + 1) false, .int .i64 0]) ∧ Below w.heap.size w w' := by
  have zk := pre_size hk
  have N := fun W => next_dig (s := s.extract 0 k) (p := p) (c := false) (by omega) (by omega) (pre_dg hd hk) hp (by omega) (m := 0) (by omega) (fun i a b => by rw [pre_dgt hk (by omega)]; exact h1 i (by omega)) (fun q => absurd q (by omega)) W
  have nz : nxV (s.extract 0 k) p 0 = dcV ⟨#[49]⟩ (p + 1) false := rfl
  rw [nz] at N
  have R := fun W => rmake_ok (s := ⟨#[49]⟩) (p := p + 1) (m := 1) (by decide) (by decide) dg_one (by decide) (by decide) (by decide) (fun i a b => absurd a (by have : i < 1 := b; omega)) (by decide) (by omega) (by omega) W
  have e1 : (⟨#[49]⟩ : ByteArray).extract 0 1 = ⟨#[49]⟩ := by decide
  rw [e1] at R
  clear e1 nz
  have R0 := OneR.start w s p c
  have kz : ((k : Int) == 0) = false := beq_eq_false_iff_ne.mpr (by omega)
  clear h1 hd
  unfold dcV at *
  go_enter Tryd.func51, Tryd.ntmps51
  go_wp2
  go_region
  all_goals
    go_wp2_with fail
    refine (N _).mono ?_
    rintro e w1 ⟨rfl, hb⟩
    have HT : Hid (OneR w w1 s p c) := (R0.step (((Below.refl _ _).alloc (Nat.le_refl _) _).drew)).step hb
    obtain ⟨_, _, a0, a1, a2, r0, r1, r2, fr⟩ := HT.out
    have sz1 : w.heap.size + 3 ≤ w1.heap.size := by have := hb.size; simp at this; omega
    have xc := fun o => hb.cell (p := ⟨w.heap.size + 1 + 1, o, none⟩) (by simp)
    have xf := fun o => hb.frozen (p := ⟨w.heap.size + 1 + 1, o, none⟩) (by simp)
    clear hb R0
    simp at xc xf
    go_wp2_with fail
    refine (R _).mono ?_
    rintro e w2 ⟨rfl, hb2⟩
    have HT2 : Hid (OneR w w2 s p c) := (((HT.out.set _ _).set _ _).set _ _).step hb2
    clear hb2 a0 a1 a2 r0 r1 r2 fr
    obtain ⟨_, _, a0, a1, a2, r0, r1, r2, fr⟩ := HT2.out
    go_wp2
    refine bodyPost_ret (v := .tuple #[.agg #[.string ⟨#[49]⟩, .int .i64 (p + 1), .bool false], .int .i64 0]) (by simp [results, Tryd.results51, go_sem, *]) rfl ⟨rfl, ?_⟩
    exact (((HT2.out.bel.setCell (by simp) _).setCell (by simp) _).setCell (by simp) _)

set_option maxRecDepth 100000 in
set_option maxHeartbeats 1000000 in
theorem made_ub {s : ByteArray} {c : Bool} (hl : s.size ≤ 800) (hd : DG s) {k : Nat} (k0 : 0 < k) (hk : k ≤ s.size) (h1 : ∀ i, i < k → dgt s i = 57) (w : World) :
    Calls Tryd.prog 51 #[dcV s 1099511627776 c, .int .i64 k, .bool true] w fun e w' => e = .returned (.tuple #[dcV ⟨#[]⟩ 0 false, .int .i64 4]) ∧ Below w.heap.size w w' := by
  have zk := pre_size hk
  have N := fun W => next_dig (s := s.extract 0 k) (p := 1099511627776) (c := false) (by omega) (by omega) (pre_dg hd hk) (by omega) (by omega) (m := 0) (by omega) (fun i a b => by rw [pre_dgt hk (by omega)]; exact h1 i (by omega)) (fun q => absurd q (by omega)) W
  have nz : nxV (s.extract 0 k) 1099511627776 0 = dcV ⟨#[49]⟩ 1099511627777 false := rfl
  rw [nz] at N
  have R := fun W => rmake_big (s := ⟨#[49]⟩) (m := 1) (by decide) (by decide) dg_one (by decide) (by decide) (by decide) (fun i a b => absurd a (by have : i < 1 := b; omega)) (by decide) W
  clear nz
  have R0 := OneR.start w s 1099511627776 c
  have kz : ((k : Int) == 0) = false := beq_eq_false_iff_ne.mpr (by omega)
  clear h1 hd
  unfold dcV at *
  go_enter Tryd.func51, Tryd.ntmps51
  go_wp2
  go_region
  all_goals
    go_wp2_with fail
    refine (N _).mono ?_
    rintro e w1 ⟨rfl, hb⟩
    have HT : Hid (OneR w w1 s 1099511627776 c) := (R0.step (((Below.refl _ _).alloc (Nat.le_refl _) _).drew)).step hb
    obtain ⟨_, _, a0, a1, a2, r0, r1, r2, fr⟩ := HT.out
    have sz1 : w.heap.size + 3 ≤ w1.heap.size := by have := hb.size; simp at this; omega
    have xc := fun o => hb.cell (p := ⟨w.heap.size + 1 + 1, o, none⟩) (by simp)
    have xf := fun o => hb.frozen (p := ⟨w.heap.size + 1 + 1, o, none⟩) (by simp)
    clear hb R0
    simp at xc xf
    go_wp2_with fail
    refine (R _).mono ?_
    rintro e w2 ⟨rfl, hb2⟩
    have HT2 : Hid (OneR w w2 s 1099511627776 c) := (((HT.out.set _ _).set _ _).set _ _).step hb2
    clear hb2 a0 a1 a2 r0 r1 r2 fr
    obtain ⟨_, _, a0, a1, a2, r0, r1, r2, fr⟩ := HT2.out
    go_wp2
    refine bodyPost_ret (v := .tuple #[.agg #[.string ⟨#[]⟩, .int .i64 0, .bool false], .int .i64 4]) (by simp [results, Tryd.results51, go_sem, *]) rfl ⟨rfl, ?_⟩
    exact (((HT2.out.bel.setCell (by simp) _).setCell (by simp) _).setCell (by simp) _)

end Go.Proofs.YtladeppjccfbhaaDoor
