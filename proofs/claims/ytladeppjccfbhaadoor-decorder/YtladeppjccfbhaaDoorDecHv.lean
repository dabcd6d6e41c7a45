/-
  Half of twice a number is the number: what dec's Make answers at a product's text, as a number; a number's digits are told by its value.
-/
import Derived.Test.YtladeppjccfbhaaDoorDecB
namespace Go.Proofs.YtladeppjccfbhaaDoor
open Go.RowKit

theorem tmS_val {s : ByteArray} (hd : DG s) {f : Nat} (hf : f ≤ 9) : ∀ i, i ≤ s.size → pv (tmS s f) (i + 1) = f * pv s i + ct s f (s.size - i)
  | 0, _ => by
    have h := (tmS_dgt hd hf).2 0 (by omega)
    show 10 * pv (tmS s f) 0 + (dgt (tmS s f) 0 - 48) = f * pv s 0 + ct s f (s.size - 0)
    rw [h]
    show 10 * 0 + (tm s f 0 - 48) = f * 0 + ct s f (s.size - 0)
    unfold tm
    rw [if_pos rfl, Nat.sub_zero]
    omega
  | i + 1, hi => by
    have ih := tmS_val hd hf i (by omega)
    have h := (tmS_dgt hd hf).2 (i + 1) (by omega)
    obtain ⟨j, hj⟩ : ∃ j, s.size - (i + 1) = j := ⟨_, rfl⟩
    have hj1 : s.size - i = j + 1 := by omega
    have hc : ct s f (j + 1) = (ct s f j + (dgt s i - 48) * f) / 10 := by
      show (ct s f j + (dgt s (s.size - 1 - j) - 48) * f) / 10 = _
      rw [show s.size - 1 - j = i by omega]
    have ht : tm s f (i + 1) = 48 + (ct s f j + (dgt s i - 48) * f) % 10 := by
      unfold tm
      rw [if_neg (by omega), hj, show i + 1 - 1 = i by omega]
    rw [hj1, hc] at ih
    show 10 * pv (tmS s f) (i + 1) + (dgt (tmS s f) (i + 1) - 48) = f * (10 * pv s i + (dgt s i - 48)) + ct s f (s.size - (i + 1))
    rw [h, ht, ih, hj]
    have e : f * (10 * pv s i + (dgt s i - 48)) = 10 * (f * pv s i) + (dgt s i - 48) * f := by rw [Nat.mul_add, Nat.mul_left_comm, Nat.mul_comm f (dgt s i - 48)]
    rw [e]
    generalize f * pv s i = a
    generalize (dgt s i - 48) * f = b
    generalize ct s f j = c
    omega
theorem tmS_whole {s : ByteArray} (hd : DG s) {f : Nat} (hf : f ≤ 9) : pv (tmS s f) (s.size + 1) = f * pv s s.size := by
  have h := tmS_val hd hf s.size (Nat.le_refl _)
  rw [Nat.sub_self] at h
  exact h

theorem pv_inj {s t : ByteArray} (hs : DG s) (ht : DG t) {n : Nat} (h : pv s n = pv t n) : ∀ j, j < n → dgt s j = dgt t j := by
  intro j
  induction j using Nat.strongRecOn with
  | _ j ih =>
    intro hj
    rcases Nat.lt_trichotomy (dgt s j) (dgt t j) with c | c | c
    · have := pv_diff hs ht (i := j) (fun k hk => ih k hk (by omega)) c hj
      omega
    · exact c
    · have := pv_diff ht hs (i := j) (fun k hk => (ih k hk (by omega)).symm) c hj
      omega
theorem pv_low {s : ByteArray} (hs : DG s) (hf : dgt s 0 ≠ 48) : ∀ n, 10 ^ n ≤ pv s (n + 1)
  | 0 => by
    have := dgt_in hs 0
    show 1 ≤ 10 * pv s 0 + (dgt s 0 - 48)
    omega
  | n + 1 => by
    have ih := pv_low hs hf n
    show 10 ^ (n + 1) ≤ 10 * pv s (n + 1) + (dgt s (n + 1) - 48)
    rw [Nat.pow_succ]
    omega
theorem pv_noughts {s : ByteArray} {m : Nat} : ∀ k, (∀ i, m ≤ i → i < m + k → dgt s i = 48) → pv s (m + k) = pv s m * 10 ^ k
  | 0, _ => by simp
  | k + 1, h => by
    have ih := pv_noughts k (fun i a b => h i a (by omega))
    have e := h (m + k) (by omega) (by omega)
    show 10 * pv s (m + k) + (dgt s (m + k) - 48) = _
    have q : pv s m * 10 ^ (k + 1) = 10 * (pv s m * 10 ^ k) := by rw [Nat.pow_succ, ← Nat.mul_assoc, Nat.mul_comm]
    rw [ih, e, q]
    rfl
theorem pv_leads {t u : ByteArray} {z : Nat} (hz : ∀ i, i < z → dgt t i = 48) : ∀ k, (∀ i, i < k → dgt u i = dgt t (z + i)) → pv t (z + k) = pv u k
  | 0, _ => by
    have h0 : ∀ n, n ≤ z → pv t n = 0 := by
      intro n
      induction n with
      | zero => intro _; rfl
      | succ n ih =>
        intro hn
        show 10 * pv t n + (dgt t n - 48) = 0
        rw [ih (by omega), hz n (by omega)]
    exact h0 z (Nat.le_refl _)
  | k + 1, h => by
    have ih := pv_leads hz k (fun i a => h i (by omega))
    show 10 * pv t (z + k) + (dgt t (z + k) - 48) = 10 * pv u k + (dgt u k - 48)
    rw [ih, h k (by omega)]
theorem pv_last {s : ByteArray} (hs : DG s) {n : Nat} (h0 : 0 < n) (h : dgt s (n - 1) ≠ 48) : pv s n % 10 ≠ 0 := by
  obtain ⟨k, rfl⟩ : ∃ k, n = k + 1 := ⟨n - 1, by omega⟩
  have d := dgt_in hs k
  have h' : dgt s k ≠ 48 := h
  show (10 * pv s k + (dgt s k - 48)) % 10 ≠ 0
  omega

/-- A row of digits, no nought ahead, none behind. -/
structure NF (s : ByteArray) : Prop where
  pos : 0 < s.size
  dg : DG s
  first : dgt s 0 ≠ 48
  last : dgt s (s.size - 1) ≠ 48

theorem pow_split {a b : Nat} (h : a + 1 ≤ b) : 10 ^ b % 10 = 0 := by
  obtain ⟨k, rfl⟩ : ∃ k, b = k + 1 := ⟨b - 1, by omega⟩
  rw [Nat.pow_succ]
  omega

/-- Two such rows of one value, but for places: the same row. -/
theorem nf_same {s t : ByteArray} (hs : NF s) (ht : NF t) {k : Nat} (h : 10 * pv s s.size = pv t t.size * 10 ^ k) : k = 1 ∧ s = t := by
  have a := pv_last hs.dg hs.pos hs.last
  have b := pv_last ht.dg ht.pos ht.last
  have k1 : k = 1 := by
    rcases Nat.lt_trichotomy k 1 with c | c | c
    · exfalso
      obtain rfl : k = 0 := by omega
      simp at h
      omega
    · exact c
    · exfalso
      obtain ⟨j, rfl⟩ : ∃ j, k = j + 2 := ⟨k - 2, by omega⟩
      have e : pv t t.size * 10 ^ (j + 2) = 10 * (10 * (pv t t.size * 10 ^ j)) := by
        rw [Nat.pow_succ, Nat.pow_succ, ← Nat.mul_assoc, ← Nat.mul_assoc]; omega
      rw [e] at h
      omega
  refine ⟨k1, ?_⟩
  rw [k1, Nat.pow_one] at h
  have hv : pv s s.size = pv t t.size := by omega
  have sz : s.size = t.size := by
    have p1 := hs.pos
    have p2 := ht.pos
    have l1 := pv_low hs.dg hs.first (s.size - 1)
    have l2 := pv_low ht.dg ht.first (t.size - 1)
    rw [show s.size - 1 + 1 = s.size by omega] at l1
    rw [show t.size - 1 + 1 = t.size by omega] at l2
    have u1 := pv_bound hs.dg s.size
    have u2 := pv_bound ht.dg t.size
    rcases Nat.lt_trichotomy s.size t.size with c | c | c
    · have := Nat.pow_le_pow_right (n := 10) (by omega) (show s.size ≤ t.size - 1 by omega)
      omega
    · exact c
    · have := Nat.pow_le_pow_right (n := 10) (by omega) (show t.size ≤ s.size - 1 by omega)
      omega
  rw [← sz] at hv
  exact ba_ext sz (fun i hi => pv_inj hs.dg ht.dg hv i hi)

/-- dec's Make of digits that are not all noughts: the row without the noughts ahead and behind. -/
theorem dmake_nf {t : ByteArray} (hl : t.size ≤ 800) (hd : DG t) (hv : pv t t.size ≠ 0) {p : Int} (hp0 : -1000000 ≤ p) (hp9 : p ≤ 1000000) :
    ∃ (z : Nat) (s2 : ByteArray), NF s2 ∧ z + s2.size ≤ t.size ∧ pv t t.size = pv s2 s2.size * 10 ^ (t.size - z - s2.size) ∧
      ∀ W, Calls Tryd.prog 25 #[.string t, .int .i64 p, .bool false] W fun e w' => e = .returned (.tuple #[dcV s2 (p - (z : Int)) false, .nilIface]) ∧ Below W.heap.size W w' := by
  obtain ⟨z, hz, hz1, hz2⟩ := leads_at t t.size (Nat.le_refl _)
  have zlt : z < t.size := by
    rcases Nat.lt_or_ge z t.size with c | c
    · exact c
    · exfalso
      apply hv
      have := pv_leads (t := t) (u := t) (z := z) hz1 0 (fun i a => by omega)
      rw [Nat.add_zero] at this
      rw [show t.size = z by omega, this]
      rfl
  have hz2' := hz2 zlt
  obtain ⟨u, hu⟩ : ∃ u, t.extract z t.size = u := ⟨_, rfl⟩
  have us : u.size = t.size - z := by rw [← hu]; exact ext_size hz
  have ud : ∀ i, dgt u i = dgt t (z + i) := fun i => by rw [← hu]; exact sub_dgt hz
  have udg : DG u := fun i hi => by rw [← dgt_lt hi, ud i]; exact dgt_in hd _
  obtain ⟨m, hm, h1, h2⟩ := zeros_at u u.size
  have m0 : 0 < m := by
    rcases Nat.eq_zero_or_pos m with c | c
    · exfalso
      have := h1 0 (by omega) (by omega)
      rw [ud 0] at this
      exact hz2' this
    · exact c
  have es : (u.extract 0 m).size = m := pre_size hm
  refine ⟨z, u.extract 0 m, ⟨by omega, pre_dg udg hm, by rw [pre_dgt hm m0, ud 0]; exact hz2', by rw [es, pre_dgt hm (by omega)]; exact h2 m0⟩, by omega, ?_, fun W => ?_⟩
  · rw [es]
    have a := pv_leads (t := t) (u := u) (z := z) hz1 (t.size - z) (fun i _ => ud i)
    rw [show z + (t.size - z) = t.size by omega] at a
    have b := pv_noughts (s := u) (m := m) (t.size - z - m) (fun i x y => h1 i x (by omega))
    rw [show m + (t.size - z - m) = t.size - z by omega] at b
    rw [a, b, pv_ext (s := u) (t := u.extract 0 m) m (fun j hj => (pre_dgt hm hj).symm)]
  · exact dmake_in (by omega) hd zlt hz1 hz2' hu (fun W => shorten_ok u (by omega) m hm (fun i a b => by rw [← dgt_lt b]; exact h1 i a b) (fun c => by rw [← dgt_lt (by omega)]; exact h2 c) W) (by omega) (by omega) ⟨by omega, by omega⟩ W

theorem vn_nf {s : ByteArray} {p : Int} (h : VN s p false) : NF s :=
  ⟨h.pos, h.dg, by rw [dgt_lt h.pos]; exact h.first, by rw [dgt_lt (by have := h.pos; omega)]; exact h.last.resolve_right (by simp)⟩
theorem nf_vn {s : ByteArray} (h : NF s) (hl : s.size ≤ 800) {p : Int} (h0 : -1099511627776 ≤ p) (h1 : p ≤ 1099511627776) : VN s p false :=
  ⟨h.pos, hl, h.dg, by rw [← dgt_lt h.pos]; exact h.first, Or.inl (by rw [← dgt_lt (by have := h.pos; omega)]; exact h.last), h0, h1⟩
theorem nf_ne {s : ByteArray} (h : NF s) : pv s s.size ≠ 0 := by
  have := pv_last h.dg h.pos h.last
  omega

/-- Twice a number, and half of that: the number. -/
theorem half_twice {s : ByteArray} {p : Int} (h : VD s p false) (hl : s.size ≤ 700) (hp0 : -1000 ≤ p) (hp1 : p ≤ 1000) : ∃ (s2 : ByteArray) (p2 : Int),
    (∀ W, Calls Tryd.prog 20 #[dcV s p false] W fun e w' => e = .returned (.tuple #[dcV s2 p2 false, .nilIface]) ∧ Below W.heap.size W w') ∧
    (∀ W, Calls Tryd.prog 18 #[dcV s2 p2 false] W fun e w' => e = .returned (.tuple #[dcV s p false, .nilIface]) ∧ Below W.heap.size W w') := by
  rcases h with ⟨z, rfl, _⟩ | g
  · obtain rfl := size_zero z
    have dg0 : DG ⟨#[]⟩ := fun k hk => absurd hk (by have : (⟨#[]⟩ : ByteArray).size = 0 := rfl; omega)
    have vd : VD ⟨#[]⟩ 0 false := Or.inl ⟨rfl, rfl, rfl⟩
    have mk : ∀ f, f ≤ 9 → ∀ (q : Int), ∀ W, Calls Tryd.prog 25 #[.string (tmS ⟨#[]⟩ f), .int .i64 q, .bool false] W fun e w' => e = .returned (.tuple #[dcV ⟨#[]⟩ 0 false, .nilIface]) ∧ Below W.heap.size W w' := by
      intro f hf q W
      obtain ⟨sz, dd⟩ := tmS_dgt dg0 hf
      have sz' : (tmS ⟨#[]⟩ f).size = 1 := sz
      refine dmake_zero (by omega) (by omega) (tmS_DG dg0 hf) (fun i hi => ?_) W
      obtain rfl : i = 0 := by omega
      rw [dd 0 (by omega)]
      rfl
    exact ⟨⟨#[]⟩, 0, fun W => ddouble_ok vd (mk 2 (by omega) _) W, fun W => dhalve_ok vd (mk 5 (by omega) _) W⟩
  · have nf := vn_nf g
    have v0 := nf_ne nf
    obtain ⟨z1, _⟩ := tmS_dgt g.dg (show 2 ≤ 9 by omega)
    have w1 := tmS_whole g.dg (show 2 ≤ 9 by omega)
    rw [← z1] at w1
    obtain ⟨a, s2, nf2, l2, e2, D⟩ := dmake_nf (t := tmS s 2) (by omega) (tmS_DG g.dg (by omega)) (by omega) (p := p + 1) (by omega) (by omega)
    obtain ⟨z2, _⟩ := tmS_dgt nf2.dg (show 5 ≤ 9 by omega)
    have w2 := tmS_whole nf2.dg (show 5 ≤ 9 by omega)
    rw [← z2] at w2
    have v2 := nf_ne nf2
    obtain ⟨b, s3, nf3, l3, e3, E⟩ := dmake_nf (t := tmS s2 5) (by omega) (tmS_DG nf2.dg (by omega)) (by omega) (p := p + 1 - (a : Int)) (by omega) (by omega)
    rw [w1] at e2
    rw [w2] at e3
    have key : 10 * pv s s.size = pv s3 s3.size * 10 ^ ((tmS s2 5).size - b - s3.size + ((tmS s 2).size - a - s2.size)) := by
      rw [Nat.pow_add, ← Nat.mul_assoc, ← e3, Nat.mul_assoc, ← e2]
      omega
    obtain ⟨k1, rfl⟩ := nf_same nf nf3 key
    have ep : p + 1 - (a : Int) - (b : Int) = p := by omega
    rw [ep] at E
    refine ⟨s2, p + 1 - (a : Int), fun W => ddouble_ok (Or.inr g) D W, fun W => dhalve_ok (Or.inr (nf_vn nf2 (by omega) (by omega) (by omega))) E W⟩

end Go.Proofs.YtladeppjccfbhaaDoor
