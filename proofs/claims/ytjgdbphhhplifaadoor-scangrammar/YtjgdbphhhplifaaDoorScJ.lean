/-
  The longest begin that is a float's: it is one itself, none longer is.
-/
import Derived.Test.YtjgdbphhhplifaaDoorScQ
import Derived.Test.YtjgdbphhhplifaaDoorScY
namespace Go.Proofs.YtjgdbphhhplifaaDoor

theorem letter_stop {b : Nat} (hb : b = 10 ∨ b = 16) {c : UInt8} {L : Nat} (hL : (b = 10 ∧ L = 101) ∨ L = 112) (h : (sml c).toNat = L) : isD b c = false ∧ c ≠ 95 ∧ c ≠ 46 := by
  have hs := sml_nat c
  have hc : c.toNat = L ∨ c.toNat + 32 = L := by
    by_cases a : 65 ≤ (c.toNat : Int) ∧ (c.toNat : Int) ≤ 90
    · rw [if_pos a] at hs; right; omega
    · rw [if_neg a] at hs; left; omega
  refine ⟨?_, fun z => ?_, fun z => ?_⟩
  · rcases hb with hb | hb
    · subst hb; rw [isD_ten rfl]; exact decide_eq_false (by omega)
    · subst hb; rw [isD_hex rfl]; exact decide_eq_false (by omega)
  · rw [z] at hc
    have : (95 : UInt8).toNat = 95 := rfl
    omega
  · rw [z] at hc
    have : (46 : UInt8).toNat = 46 := rfl
    omega
theorem exn_head {L : Nat} {u : List UInt8} {e : Int} {m : Nat} (h : exn L u = some (e, m)) : ∃ hu : 0 < u.length, (sml (u[0]'hu)).toNat = L := by
  cases u with
  | nil => cases h
  | cons c r =>
    rw [exn_cons] at h
    by_cases a : (sml c).toNat = L
    · exact ⟨by simp, a⟩
    · rw [if_neg a] at h; cases h
theorem isX_take {r : List UInt8} {k : Nat} (h : 2 ≤ k) : isX (r.take k) = isX r := by
  obtain ⟨j, rfl⟩ : ∃ j, k = j + 2 := ⟨k - 2, by omega⟩
  cases r with
  | nil => rfl
  | cons c t => cases t <;> rfl
theorem isX_take_true {r : List UInt8} {k : Nat} (h : isX (r.take k) = true) : isX r = true ∧ 2 ≤ k := by
  have h2 := isX_len h
  rw [List.length_take] at h2
  have k2 : 2 ≤ k := by omega
  rw [isX_take k2] at h
  exact ⟨h, k2⟩
theorem kInf_take_none {r : List UInt8} (h : kInf r = none) (k : Nat) : kInf (r.take k) = none := by
  unfold kInf at h ⊢
  by_cases a : wdB wInfinity r = true
  · rw [if_pos a] at h; cases h
  · rw [if_neg a] at h
    by_cases c : wdB wInf r = true
    · rw [if_pos c] at h; cases h
    · have a' : wdB wInfinity r = false := by simpa using a
      have c' : wdB wInf r = false := by simpa using c
      rw [wdB_take, wdB_take, a', c', if_neg (by simp), if_neg (by simp)]
theorem kNan_take_none {sg : Bool} {r : List UInt8} (h : kNan sg r = none) (k : Nat) : kNan sg (r.take k) = none := by
  unfold kNan at h ⊢
  by_cases a : sg = false ∧ wdB wNan r = true
  · rw [if_pos a] at h; cases h
  · rw [if_neg (fun z => a ⟨z.1, by have := z.2; rw [wdB_take, Bool.and_eq_true] at this; exact this.1⟩)]
/-- What kAny answers, by its kinds. -/
theorem kAny_cases {sg : Bool} {r : List UInt8} {x : Pt × Nat} (h : kAny sg r = some x) : kInf r = some x ∨ (kInf r = none ∧ kNan sg r = some x) ∨ (kInf r = none ∧ kNan sg r = none ∧ kHex r = some x) ∨ (kInf r = none ∧ kNan sg r = none ∧ kHex r = none ∧ kDec r = some x) := by
  unfold kAny at h
  cases q1 : kInf r with
  | some y => rw [q1] at h; left; exact h
  | none =>
    rw [q1] at h
    right
    cases q2 : kNan sg r with
    | some y => rw [q2] at h; left; exact ⟨rfl, h⟩
    | none =>
      rw [q2] at h
      right
      cases q3 : kHex r with
      | some y => rw [q3] at h; left; exact ⟨rfl, rfl, h⟩
      | none => rw [q3] at h; right; exact ⟨rfl, rfl, rfl, h⟩
theorem kHex_inv {r : List UInt8} {p : Pt} {N : Nat} (h : kHex r = some (p, N)) : isX r = true ∧ ∃ W P n e m, mnt 16 true (r.drop 2) = some (W, P, n) ∧ exn 112 (r.drop (2 + n)) = some (e, m) ∧ p = hxPt W P e ∧ N = 2 + n + m := by
  unfold kHex at h
  by_cases a : isX r = true
  · rw [if_pos a] at h
    split at h
    · cases h
    · next W P n em =>
      split at h
      · cases h
      · next e m ee =>
        injection h with h; injection h with h1 h2
        exact ⟨a, W, P, n, e, m, em, ee, h1.symm, h2.symm⟩
  · rw [if_neg a] at h; cases h
theorem kDec_inv {r : List UInt8} {p : Pt} {N : Nat} (h : kDec r = some (p, N)) : ∃ W P n, mnt 10 false r = some (W, P, n) ∧ ((exn 101 (r.drop n) = none ∧ p = dePt W P 0 ∧ N = n) ∨ ∃ e m, exn 101 (r.drop n) = some (e, m) ∧ p = dePt W P e ∧ N = n + m) := by
  unfold kDec at h
  split at h
  · cases h
  · next W P n em =>
    split at h
    · next ee =>
      injection h with h; injection h with h1 h2
      exact ⟨W, P, n, em, Or.inl ⟨ee, h1.symm, h2.symm⟩⟩
    · next e m ee =>
      injection h with h; injection h with h1 h2
      exact ⟨W, P, n, em, Or.inr ⟨e, m, ee, h1.symm, h2.symm⟩⟩
/-- The begin that is taken is taken whole. -/
theorem kAny_self {sg : Bool} {r : List UInt8} {p : Pt} {n : Nat} (h : kAny sg r = some (p, n)) : kAny sg (r.take n) = some (p, n) := by
  rcases kAny_cases h with q | ⟨q1, q⟩ | ⟨q1, q2, q⟩ | ⟨q1, q2, q3, q⟩
  · refine kAny_1 ?_
    unfold kInf at q ⊢
    by_cases a : wdB wInfinity r = true
    · rw [if_pos a] at q
      injection q with q; injection q with e1 e2
      rw [wdB_take, a, ← e2, if_pos (by decide), e1]
    · rw [if_neg a] at q
      by_cases c : wdB wInf r = true
      · rw [if_pos c] at q
        injection q with q; injection q with e1 e2
        have a' : wdB wInfinity r = false := by simpa using a
        rw [wdB_take, wdB_take, a', c, ← e2, if_neg (by decide), if_pos (by decide), e1]
      · rw [if_neg c] at q; cases q
  · refine kAny_2 (kInf_take_none q1 n) ?_
    unfold kNan at q ⊢
    by_cases a : sg = false ∧ wdB wNan r = true
    · rw [if_pos a] at q
      injection q with q; injection q with e1 e2
      rw [if_pos ⟨a.1, by rw [wdB_take, a.2, ← e2]; decide⟩, e1, e2]
    · rw [if_neg a] at q; cases q
  · refine kAny_3 (kInf_take_none q1 n) (kNan_take_none q2 n) ?_
    obtain ⟨hx, W, P, k, e, m, em, ee, rfl, rfl⟩ := kHex_inv q
    refine kHex_c (by rw [isX_take (by omega)]; exact hx) ?_ ?_
    · rw [take_drop]; exact mnt_take em (by omega)
    · rw [take_drop]; exact exn_take ee (by omega)
  · obtain ⟨W, P, k, em, q⟩ := kDec_inv q
    have hm := mnt_pos em
    have noX : kHex (r.take n) = none := by
      cases hk : kHex (r.take n) with
      | none => rfl
      | some x =>
        exfalso
        obtain ⟨p', N'⟩ := x
        obtain ⟨hx, W', P', k', e', m', em', ee', _, hN⟩ := kHex_inv hk
        have h2 := isX_take_true hx
        have xd := x_dec h2.1
        rw [xd.1] at em
        injection em with em; injection em with _ em; injection em with _ em
        rcases q with ⟨_, _, rfl⟩ | ⟨e, m, ee, _, rfl⟩
        · omega
        · rw [← em, exn_h0 (by omega), if_neg xd.2.1] at ee; cases ee
    rcases q with ⟨ee, rfl, rfl⟩ | ⟨e, m, ee, rfl, rfl⟩
    · refine kAny_4 (kInf_take_none q1 n) (kNan_take_none q2 n) noX ?_
      exact kDec_a (mnt_take em (Nat.le_refl _)) (by rw [take_drop, Nat.sub_self, List.take_zero]; rfl)
    · refine kAny_4 (kInf_take_none q1 _) (kNan_take_none q2 _) noX ?_
      refine kDec_b (mnt_take em (by omega)) ?_
      rw [take_drop]; exact exn_take ee (by omega)
theorem h48_not {sg : Bool} {r : List UInt8} (h : (sml (h0 r)).toNat ≠ 105 ∧ (sml (h0 r)).toNat ≠ 110) : kInf r = none ∧ kNan sg r = none := by
  have k : ∀ (d : UInt8) (t : List UInt8), (sml (h0 r)).toNat ≠ d.toNat → wdB (d :: t) r = false := fun d t hd => by
    cases r with
    | nil => rfl
    | cons c u =>
      show ((sml c == d) && _) = false
      rw [beq_eq_false_iff_ne.mpr (fun z => hd (by rw [show h0 (c :: u) = c from rfl, z]))]; rfl
  have k1 : wdB wInfinity r = false := k 105 _ h.1
  have k2 : wdB wInf r = false := k 105 _ h.1
  have k3 : wdB wNan r = false := k 110 _ h.2
  refine ⟨kInf_0 k1 k2, ?_⟩
  unfold kNan
  rw [if_neg (fun z => by rw [k3] at z; cases z.2)]
theorem mnt_h0 {b : Nat} {l W P : List UInt8} {n : Nat} (h : mnt b false l = some (W, P, n)) : isD b (h0 l) = true ∨ h0 l = 46 := by
  cases l with
  | nil => cases h
  | cons c r =>
    by_cases q : isD b c = true
    · exact Or.inl q
    · right
      have q' : isD b c = false := by simpa using q
      have e : rch b false (c :: r) = 0 := rch_bad q' (fun z => by cases z.2.1)
      unfold mnt at h
      rw [e] at h
      by_cases a : hdC ((c :: r).drop 0) = 46
      · exact UInt8.toNat_inj.1 a
      · rw [if_neg a, if_pos rfl] at h; cases h
theorem dig_not {c : UInt8} (h : isD 10 c = true ∨ c = 46) : (sml c).toNat ≠ 105 ∧ (sml c).toNat ≠ 110 := by
  have hs := sml_nat c
  have hc : c.toNat = 46 ∨ (48 ≤ c.toNat ∧ c.toNat ≤ 57) := by
    rcases h with h | h
    · rw [isD_ten rfl] at h; right; exact of_decide_eq_true h
    · left; rw [h]; rfl
  rw [if_neg (by omega)] at hs
  omega
/-- A begin that is a float's is at most as long as what is taken. -/
theorem kAny_ext {sg : Bool} {r : List UInt8} {p : Pt} {k : Nat} (h : kAny sg (r.take k) = some (p, k)) : ∃ p' n, kAny sg r = some (p', n) ∧ k ≤ n := by
  have hp := kAny_pos h
  rw [List.length_take] at hp
  rcases kAny_cases h with q | ⟨q1, q⟩ | ⟨q1, q2, q⟩ | ⟨q1, q2, q3, q⟩
  · unfold kInf at q
    rw [wdB_take, wdB_take] at q
    by_cases a : wdB wInfinity r = true
    · refine ⟨_, _, kAny_1 (kInf_1 a), ?_⟩
      split at q
      · injection q with q; injection q with _ q; omega
      · split at q
        · injection q with q; injection q with _ q; omega
        · cases q
    · have a' : wdB wInfinity r = false := by simpa using a
      rw [a', Bool.false_and, if_neg (by decide)] at q
      by_cases c : wdB wInf r = true
      · refine ⟨_, _, kAny_1 (kInf_2 a' c), ?_⟩
        split at q
        · injection q with q; injection q with _ q; omega
        · cases q
      · have c' : wdB wInf r = false := by simpa using c
        rw [c', Bool.false_and, if_neg (by decide)] at q; cases q
  · unfold kNan at q
    split at q
    · next a =>
      injection q with q; injection q with _ q
      have a2 := a.2
      rw [wdB_take, Bool.and_eq_true] at a2
      have k0 := nan_not r a2.1
      have k1 : kNan sg r = some ({ kind := 4 }, 3) := by unfold kNan; rw [if_pos ⟨a.1, a2.1⟩]
      exact ⟨_, _, kAny_2 (kInf_0 k0.1 k0.2) k1, by omega⟩
    · cases q
  · obtain ⟨hx, W, P, n, e, m, em, ee, _, hN⟩ := kHex_inv q
    have h2 := isX_take_true hx
    rw [take_drop] at em ee
    have hx' := of_decide_eq_true ((isX_h0 r).symm.trans h2.1)
    have nn := h48_not (sg := sg) (r := r) (by rw [hx'.1]; decide)
    have hm := mnt_pos em
    rw [List.length_take, List.length_drop] at hm
    obtain ⟨hu, hL⟩ := exn_head ee
    rw [List.length_take, List.length_drop] at hu
    have hn : n < (r.drop 2).length := by rw [List.length_drop]; omega
    have hget : (r.drop 2)[n]'hn = ((r.drop (2 + n)).take (k - (2 + n)))[0]'(by rw [List.length_take, List.length_drop]; omega) := by
      rw [List.getElem_take, List.getElem_drop, List.getElem_drop]
      congr 1
    rw [← hget] at hL
    have st := letter_stop (b := 16) (Or.inr rfl) (Or.inr rfl) hL
    have em2 := (mnt_ext (b := 16) (by decide) em).2 (by omega) hn st.1 st.2.1 st.2.2
    obtain ⟨e', m', ee', hmm⟩ := exn_ext ee
    exact ⟨_, _, kAny_3 nn.1 nn.2 (kHex_c h2.1 em2 ee'), by omega⟩
  · obtain ⟨W, P, n, em, q⟩ := kDec_inv q
    have hm := mnt_pos em
    rw [List.length_take] at hm
    have e0 := mnt_h0 em
    have h00 : h0 (r.take k) = h0 r := by
      obtain ⟨j, rfl⟩ : ∃ j, k = j + 1 := ⟨k - 1, by omega⟩
      cases r <;> rfl
    rw [h00] at e0
    have nn := h48_not (sg := sg) (dig_not e0)
    cases hk : kHex r with
    | some x =>
      obtain ⟨p', N'⟩ := x
      obtain ⟨hx, W', P', n', e', m', em', ee', _, hN⟩ := kHex_inv hk
      refine ⟨_, _, kAny_3 nn.1 nn.2 hk, ?_⟩
      rcases Nat.lt_or_ge k 2 with z | z
      · omega
      · exfalso
        have xd := x_dec (r := r.take k) (by rw [isX_take z]; exact hx)
        rw [xd.1] at em
        injection em with em; injection em with _ em; injection em with _ em
        rcases q with ⟨_, _, hN2⟩ | ⟨e, m, ee, _, hN2⟩
        · omega
        · rw [← em, exn_h0 (by omega), if_neg xd.2.1] at ee; cases ee
    | none =>
      have ext := mnt_ext (b := 10) (by decide) em
      rcases q with ⟨ee, _, hN⟩ | ⟨e, m, ee, _, hN⟩
      · obtain ⟨W', P', n', em', hle⟩ := ext.1
        have kd := kDec_some em'
        exact ⟨_, _, kAny_4 nn.1 nn.2 hk kd, by omega⟩
      · rw [take_drop] at ee
        obtain ⟨hu, hL⟩ := exn_head ee
        rw [List.length_take, List.length_drop] at hu
        have hn : n < r.length := by omega
        have hget : r[n]'hn = ((r.drop n).take (k - n))[0]'(by rw [List.length_take, List.length_drop]; omega) := by
          rw [List.getElem_take, List.getElem_drop]
          congr 1
        rw [← hget] at hL
        have st := letter_stop (b := 10) (Or.inl rfl) (Or.inl ⟨rfl, rfl⟩) hL
        have em2 := ext.2 (by omega) hn st.1 st.2.1 st.2.2
        obtain ⟨e', m', ee', hmm⟩ := exn_ext ee
        exact ⟨_, _, kAny_4 nn.1 nn.2 hk (kDec_b em2 ee'), by omega⟩
theorem pfx_inv {l : List UInt8} {p : Pt} {n : Nat} (h : pfx l = some (p, n)) : ∃ q m, kAny (decide (0 < sgA l)) (l.drop (sgA l)) = some (q, m) ∧ p = { q with neg := sgM l } ∧ n = sgA l + m := by
  unfold pfx at h
  split at h
  · cases h
  · next q m e =>
    injection h with h; injection h with h1 h2
    exact ⟨q, m, e, h1.symm, h2.symm⟩
/-- What is taken is a float's text. -/
theorem scn_begin {l : List UInt8} {p : Pt} {n : Nat} (h : pfx l = some (p, n)) : scn (l.take n) = some p := by
  have hn := pfx_pos h
  obtain ⟨q, m, hk, rfl, rfl⟩ := pfx_inv h
  have s := sgA_take (l := l) (k := sgA l + m) (by omega)
  have hk2 := kAny_self hk
  have e : pfx (l.take (sgA l + m)) = some ({ q with neg := sgM l }, sgA l + m) := by
    have := pfx_some (l := l.take (sgA l + m)) (p := q) (n := m) (by
      rw [s.1, take_drop, Nat.add_sub_cancel_left]; exact hk2)
    rw [s.1, s.2] at this
    exact this
  rw [scn_some e, if_pos (by rw [List.length_take]; omega)]
/-- A begin that is a float's is at most as long as what is taken. -/
theorem scn_ext {l : List UInt8} {p : Pt} {k : Nat} (hk : k ≤ l.length) (h : scn (l.take k) = some p) : ∃ p' n, pfx l = some (p', n) ∧ k ≤ n := by
  cases q : pfx (l.take k) with
  | none => rw [scn_none q] at h; cases h
  | some x =>
    obtain ⟨p', n'⟩ := x
    rw [scn_some q] at h
    have hp := pfx_pos q
    rw [List.length_take] at h hp
    by_cases z : n' = min k l.length
    · have hn : n' = k := by omega
      subst hn
      obtain ⟨r, m, hk2, _, e⟩ := pfx_inv q
      have s := sgA_take (l := l) (k := n') (by omega)
      rw [s.1, take_drop] at hk2
      rw [s.1] at e
      rw [show n' - sgA l = m by omega] at hk2
      obtain ⟨p2, n2, h2, h3⟩ := kAny_ext hk2
      exact ⟨_, _, pfx_some h2, by omega⟩
    · rw [if_neg z] at h; cases h
end Go.Proofs.YtjgdbphhhplifaaDoor
