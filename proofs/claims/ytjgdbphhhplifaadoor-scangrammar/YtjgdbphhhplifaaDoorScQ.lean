/-
  Begins of a text: the longest begin that is a float's is one, and none longer is: lists of bytes.
-/
import Derived.Test.YtjgdbphhhplifaaDoorScH
import Derived.Test.YtjgdbphhhplifaaDoorScS
namespace Go.Proofs.YtjgdbphhhplifaaDoor

theorem rch_take {b : Nat} : ∀ (l : List UInt8) (j : Bool) (K : Nat), rch b j l ≤ K → rch b j (l.take K) = rch b j l ∧ rdg b j (l.take K) = rdg b j l
  | [], j, K, _ => by rw [List.take_nil]; exact ⟨rfl, rfl⟩
  | c :: r, j, 0, h => by
    have e : rch b j (c :: r) = 0 := by omega
    rw [List.take_zero, e, rdg_nil.2 e]; exact ⟨rfl, rfl⟩
  | c :: r, j, K + 1, h => by
    rw [List.take_succ_cons]
    by_cases q : isD b c = true
    · rw [rch_digit q] at h
      have ih := rch_take (b := b) r true K (by omega)
      rw [rch_digit q, rch_digit q, rdg_digit q, rdg_digit q, ih.1, ih.2]
      exact ⟨rfl, rfl⟩
    · have q' : isD b c = false := by simpa using q
      by_cases z : c = 95 ∧ j = true ∧ hdD b r = true
      · rw [rch_bar q' z.1 z.2.1 z.2.2] at h
        have hp := rch_hd (j := false) z.2.2
        have z2 : hdD b (r.take K) = true := hdD_take' (by omega) z.2.2
        have ih := rch_take (b := b) r false K (by omega)
        rw [rch_bar q' z.1 z.2.1 z.2.2, rch_bar q' z.1 z.2.1 z2, rdg_bar q' z.1 z.2.1 z.2.2, rdg_bar q' z.1 z.2.1 z2, ih.1, ih.2]
        exact ⟨rfl, rfl⟩
      · have z2 : ¬ (c = 95 ∧ j = true ∧ hdD b (r.take K) = true) := fun y => z ⟨y.1, y.2.1, (hdD_take y.2.2).2⟩
        rw [rch_bad q' z, rch_bad q' z2, rdg_bad q' z, rdg_bad q' z2]
        exact ⟨rfl, rfl⟩
theorem rch_mono {b : Nat} (l : List UInt8) (j : Bool) (k : Nat) : rch b j (l.take k) ≤ rch b j l := by
  have h1 := rch_take_self (b := b) (l.take k) j
  have h2 := rch_le b (l.take k) j
  have e : (l.take k).take (rch b j (l.take k)) = l.take (rch b j (l.take k)) := by
    rw [List.take_take]
    congr 1
    rw [List.length_take] at h2
    omega
  rw [e] at h1
  rw [List.length_take] at h2
  exact rch_take_le l j _ (by omega) h1
/-- A run ends where a byte stands that is no digit and no underscore. -/
theorem rch_stop {b : Nat} : ∀ (l : List UInt8) (j : Bool) (k : Nat), rch b j (l.take k) < k → (h : rch b j (l.take k) < l.length) → isD b (l[rch b j (l.take k)]'h) = false → l[rch b j (l.take k)]'h ≠ 95 → rch b j l = rch b j (l.take k) ∧ rdg b j l = rdg b j (l.take k)
  | [], _, _, _, h, _, _ => absurd h (by simp)
  | c :: r, j, 0, h, _, _, _ => by omega
  | c :: r, j, k + 1, h, h2, h3, h4 => by
    by_cases q : isD b c = true
    · have e : rch b j ((c :: r).take (k + 1)) = rch b true (r.take k) + 1 := by rw [List.take_succ_cons, rch_digit q]
      have gen : ∀ (i i' : Nat) (hi : i = i') (a : i < (c :: r).length) (b' : i' < (c :: r).length), (c :: r)[i]'a = (c :: r)[i']'b' := fun i i' hi a b' => by subst hi; rfl
      have hl : rch b true (r.take k) < r.length := by rw [e] at h2; simpa using h2
      rw [gen _ _ e h2 (by rw [← e]; exact h2)] at h3 h4
      have ih := rch_stop (b := b) r true k (by omega) hl h3 h4
      rw [e, List.take_succ_cons, rch_digit q, rdg_digit q, rdg_digit q, ih.1, ih.2]
      exact ⟨rfl, rfl⟩
    · have q' : isD b c = false := by simpa using q
      by_cases z : c = 95 ∧ j = true ∧ hdD b (r.take k) = true
      · have e : rch b j ((c :: r).take (k + 1)) = rch b false (r.take k) + 1 := by rw [List.take_succ_cons, rch_bar q' z.1 z.2.1 z.2.2]
        have gen : ∀ (i i' : Nat) (hi : i = i') (a : i < (c :: r).length) (b' : i' < (c :: r).length), (c :: r)[i]'a = (c :: r)[i']'b' := fun i i' hi a b' => by subst hi; rfl
        have hl : rch b false (r.take k) < r.length := by rw [e] at h2; simpa using h2
        rw [gen _ _ e h2 (by rw [← e]; exact h2)] at h3 h4
        have ih := rch_stop (b := b) r false k (by omega) hl h3 h4
        have zr := (hdD_take z.2.2).2
        rw [e, List.take_succ_cons, rch_bar q' z.1 z.2.1 zr, rdg_bar q' z.1 z.2.1 zr, rdg_bar q' z.1 z.2.1 z.2.2, ih.1, ih.2]
        exact ⟨rfl, rfl⟩
      · have e : rch b j ((c :: r).take (k + 1)) = 0 := by rw [List.take_succ_cons, rch_bad q' z]
        have gen : ∀ (i i' : Nat) (hi : i = i') (a : i < (c :: r).length) (b' : i' < (c :: r).length), (c :: r)[i]'a = (c :: r)[i']'b' := fun i i' hi a b' => by subst hi; rfl
        rw [gen _ _ e h2 (by simp)] at h4
        have n95 : c ≠ 95 := h4
        rw [e, rch_bad q' (fun y => n95 y.1), rdg_bad q' (fun y => n95 y.1), List.take_succ_cons, rdg_bad q' z]
        exact ⟨rfl, rfl⟩
theorem hdC_take {l : List UInt8} {k : Nat} (h : 0 < k) : hdC (l.take k) = hdC l := by
  cases k with
  | zero => omega
  | succ k => cases l <;> rfl
theorem take_drop (l : List UInt8) (k n : Nat) : (l.take k).drop n = (l.drop n).take (k - n) := List.drop_take
theorem mnt_take {b : Nat} {j : Bool} {l W P : List UInt8} {n K : Nat} (h : mnt b j l = some (W, P, n)) (hK : n ≤ K) : mnt b j (l.take K) = some (W, P, n) := by
  unfold mnt at h ⊢
  by_cases a : hdC (l.drop (rch b j l)) = 46
  · rw [if_pos a] at h
    by_cases d : rch b j l + rch b false (l.drop (rch b j l + 1)) = 0
    · rw [if_pos d] at h; cases h
    · rw [if_neg d] at h
      injection h with h; injection h with e1 h; injection h with e2 e3
      have r1 := rch_take (b := b) l j K (by omega)
      rw [r1.1, r1.2, take_drop, take_drop, hdC_take (by omega), if_pos a]
      have r2 := rch_take (b := b) (l.drop (rch b j l + 1)) false (K - (rch b j l + 1)) (by omega)
      rw [r2.1, r2.2, if_neg d, e1, e2, e3]
  · rw [if_neg a] at h
    by_cases d : rch b j l = 0
    · rw [if_pos d] at h; cases h
    · rw [if_neg d] at h
      injection h with h; injection h with e1 h; injection h with e2 e3
      have r1 := rch_take (b := b) l j K (by omega)
      rw [r1.1, r1.2, take_drop]
      have a2 : ¬ hdC ((l.drop (rch b j l)).take (K - rch b j l)) = 46 := by
        rcases Nat.eq_zero_or_pos (K - rch b j l) with z | z
        · rw [z, List.take_zero]; decide
        · rw [hdC_take z]; exact a
      rw [if_neg a2, if_neg d, e1, e3]
      exact congrArg some (Prod.ext rfl (Prod.ext e2 rfl))
theorem sgA_take {l : List UInt8} {k : Nat} (h : 0 < k) : sgA (l.take k) = sgA l ∧ sgM (l.take k) = sgM l := by
  cases k with
  | zero => omega
  | succ k => cases l <;> exact ⟨rfl, rfl⟩
theorem exn_cons (L : Nat) (c : UInt8) (r : List UInt8) : exn L (c :: r) = if (sml c).toNat = L then (if rch 10 false (r.drop (sgA r)) = 0 then none else some (exN r, 1 + sgA r + rch 10 false (r.drop (sgA r)))) else none := rfl
theorem exn_take {L : Nat} {u : List UInt8} {e : Int} {m K : Nat} (h : exn L u = some (e, m)) (hK : m ≤ K) : exn L (u.take K) = some (e, m) := by
  cases u with
  | nil => cases h
  | cons c r =>
    rw [exn_cons] at h
    by_cases a : (sml c).toNat = L
    · rw [if_pos a] at h
      by_cases d : rch 10 false (r.drop (sgA r)) = 0
      · rw [if_pos d] at h; cases h
      · rw [if_neg d] at h
        injection h with h; injection h with e1 e2
        obtain ⟨K', rfl⟩ : ∃ K', K = K' + 1 := ⟨K - 1, by omega⟩
        have s := sgA_take (l := r) (k := K') (by omega)
        have r2 := rch_take (b := 10) (r.drop (sgA r)) false (K' - sgA r) (by omega)
        rw [List.take_succ_cons, exn_cons, if_pos a]
        unfold exN at e1 ⊢
        rw [s.1, s.2, take_drop, r2.1, r2.2, if_neg d, e1, e2]
    · rw [if_neg a] at h; cases h
theorem exn_ext {L : Nat} {u : List UInt8} {e : Int} {m k : Nat} (h : exn L (u.take k) = some (e, m)) : ∃ e' m', exn L u = some (e', m') ∧ m ≤ m' := by
  cases k with
  | zero => rw [List.take_zero] at h; cases h
  | succ k =>
    cases u with
    | nil => cases h
    | cons c r =>
      rw [List.take_succ_cons, exn_cons] at h
      by_cases a : (sml c).toNat = L
      · rw [if_pos a] at h
        by_cases d : rch 10 false ((r.take k).drop (sgA (r.take k))) = 0
        · rw [if_pos d] at h; cases h
        · rw [if_neg d] at h
          injection h with h; injection h with e1 e2
          have k0 : 0 < k := by
            rcases Nat.eq_zero_or_pos k with z | z
            · rw [z, List.take_zero] at d; exact absurd rfl d
            · exact z
          have s := sgA_take (l := r) k0
          rw [s.1, take_drop] at d e2
          have := rch_mono (b := 10) (r.drop (sgA r)) false (k - sgA r)
          have q : exn L (c :: r) = some (exN r, 1 + sgA r + rch 10 false (r.drop (sgA r))) := by rw [exn_cons, if_pos a, if_neg (by omega)]
          exact ⟨_, _, q, by omega⟩
      · rw [if_neg a] at h; cases h
/-- The mantissa of a begin is at most as long as that of the text; it is that of the text if it ends at a letter. -/
theorem mnt_ext {b : Nat} (hb : isD b 46 = false) {j : Bool} {l W P : List UInt8} {n k : Nat} (h : mnt b j (l.take k) = some (W, P, n)) :
    (∃ W' P' n', mnt b j l = some (W', P', n') ∧ n ≤ n') ∧ (n < k → (hn : n < l.length) → isD b (l[n]'hn) = false → l[n]'hn ≠ 95 → l[n]'hn ≠ 46 → mnt b j l = some (W, P, n)) := by
  have gen : ∀ (i i' : Nat) (hi : i = i') (a : i < l.length) (b' : i' < l.length), l[i]'a = l[i']'b' := fun i i' hi a b' => by subst hi; rfl
  have hd46 : ∀ i (hi : i < l.length), hdC (l.drop i) = (l[i]'hi).toNat := fun i hi => by rw [List.drop_eq_getElem_cons hi]; rfl
  have mono := rch_mono (b := b) l j k
  unfold mnt at h
  have pos' : 0 < rch b j l → ∃ W' P' n', mnt b j l = some (W', P', n') ∧ rch b j l ≤ n' := fun hp => by
    unfold mnt
    by_cases a : hdC (l.drop (rch b j l)) = 46
    · rw [if_pos a, if_neg (by omega)]; exact ⟨_, _, _, rfl, by omega⟩
    · rw [if_neg a, if_neg (by omega)]; exact ⟨_, _, _, rfl, by omega⟩
  by_cases a : hdC ((l.take k).drop (rch b j (l.take k))) = 46
  · rw [if_pos a] at h
    by_cases d : rch b j (l.take k) + rch b false ((l.take k).drop (rch b j (l.take k) + 1)) = 0
    · rw [if_pos d] at h; cases h
    · rw [if_neg d] at h
      injection h with h; injection h with e1 h; injection h with e2 e3
      have hlt : rch b j (l.take k) < (l.take k).length := by
        rcases Nat.lt_or_ge (rch b j (l.take k)) (l.take k).length with z | z
        · exact z
        · rw [List.drop_eq_nil_of_le z] at a; cases a
      rw [List.length_take] at hlt
      have hl : rch b j (l.take k) < l.length := by omega
      rw [take_drop, hdC_take (by omega), hd46 _ hl] at a
      have c46 : l[rch b j (l.take k)]'hl = 46 := UInt8.toNat_inj.1 a
      have st := rch_stop (b := b) l j k (by omega) hl (by rw [c46]; exact hb) (by rw [c46]; decide)
      have d46 : hdC (l.drop (rch b j l)) = 46 := by rw [st.1, hd46 _ hl, c46]; rfl
      rw [take_drop] at d e2 e3
      have m2 := rch_mono (b := b) (l.drop (rch b j (l.take k) + 1)) false (k - (rch b j (l.take k) + 1))
      constructor
      · have q : mnt b j l = some (rdg b j l, rdg b false (l.drop (rch b j l + 1)), rch b j l + 1 + rch b false (l.drop (rch b j l + 1))) := by
          unfold mnt
          rw [if_pos d46, if_neg (by rw [st.1]; omega)]
        refine ⟨_, _, _, q, ?_⟩
        rw [st.1]; omega
      · intro hnk hn c1 c2 c3
        have st2 := rch_stop (b := b) (l.drop (rch b j (l.take k) + 1)) false (k - (rch b j (l.take k) + 1)) (by omega) (by rw [List.length_drop]; omega)
          (by rw [List.getElem_drop, gen _ n (by omega) (by omega) hn]; exact c1) (by rw [List.getElem_drop, gen _ n (by omega) (by omega) hn]; exact c2)
        unfold mnt
        rw [if_pos d46, st.1, st.2, st2.1, st2.2, if_neg d, e1, e2, e3]
  · rw [if_neg a] at h
    by_cases d : rch b j (l.take k) = 0
    · rw [if_pos d] at h; cases h
    · rw [if_neg d] at h
      injection h with h; injection h with e1 h; injection h with e2 e3
      constructor
      · obtain ⟨W', P', n', q1, q2⟩ := pos' (by omega)
        exact ⟨W', P', n', q1, by omega⟩
      · intro hnk hn c1 c2 c3
        have hl : rch b j (l.take k) < l.length := by omega
        have st := rch_stop (b := b) l j k (by omega) hl (by rw [gen _ n (by omega) hl hn]; exact c1) (by rw [gen _ n (by omega) hl hn]; exact c2)
        have d46 : ¬ hdC (l.drop (rch b j l)) = 46 := by
          rw [st.1, hd46 _ hl, gen _ n (by omega) hl hn]
          intro z
          exact c3 (UInt8.toNat_inj.1 z)
        unfold mnt
        rw [if_neg d46, st.1, st.2, if_neg d, e1, e3]
        exact congrArg some (Prod.ext rfl (Prod.ext e2 rfl))
theorem wdB_take : ∀ (t r : List UInt8) (k : Nat), wdB t (r.take k) = (wdB t r && decide (t.length ≤ k))
  | [], r, k => by simp [wdB]
  | d :: t, [], k => by rw [List.take_nil]; rfl
  | d :: t, c :: r, 0 => by rw [List.take_zero]; simp [wdB]
  | d :: t, c :: r, k + 1 => by
    rw [List.take_succ_cons]
    show ((sml c == d) && wdB t (r.take k)) = (((sml c == d) && wdB t r) && _)
    rw [wdB_take t r k, Bool.and_assoc]
    congr 2
    simp
end Go.Proofs.YtjgdbphhhplifaaDoor
