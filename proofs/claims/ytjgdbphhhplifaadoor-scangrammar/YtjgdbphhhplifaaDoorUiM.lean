/-
  Numbers as digits in a base, and back; groups; how far a text is a number: lists of bytes, no program in sight.
-/
import Derived.Test.YtjgdbphhhplifaaDoorBsM
namespace Go.Proofs.YtjgdbphhhplifaaDoor

/-- The digit of a value, as a byte. -/
def dg8 (n : Nat) : UInt8 := UInt8.ofNat (dgc n)
theorem dg8_nat {n : Nat} (h : n < 36) : (dg8 n).toNat = dgc n := by
  unfold dg8
  rw [UInt8.toNat_ofNat']
  unfold dgc
  split <;> omega
theorem dv_dg8 {n : Nat} (h : n < 36) : dv (dg8 n).toNat = n := by
  rw [dg8_nat h]; unfold dgc dv
  split
  · rw [if_pos (by omega)]; omega
  · rw [if_neg (by omega), if_pos (by omega)]; omega
theorem isD_dg8 {b n : Nat} (hb : b ≤ 36) (h : n < b) : isD b (dg8 n) = true := by
  unfold isD
  rw [dv_dg8 (by omega)]
  exact decide_eq_true h
/-- The digits of a number, the highest first (k: at most so many more than one). -/
def flf (b : Nat) : Nat → Nat → List UInt8
  | 0, v => [dg8 v]
  | k + 1, v => if b ≤ v then flf b k (v / b) ++ [dg8 (v % b)] else [dg8 v]
def fl (b v : Nat) : List UInt8 := flf b v v
theorem flf_small {b v : Nat} (h : v < b) (k : Nat) : flf b k v = [dg8 v] := by
  cases k with
  | zero => rfl
  | succ k => show (if _ then _ else _) = _; rw [if_neg (by omega)]
theorem flf_big {b v : Nat} (h : b ≤ v) (k : Nat) : flf b (k + 1) v = flf b k (v / b) ++ [dg8 (v % b)] := by
  show (if _ then _ else _) = _; rw [if_pos h]
theorem flf_fuel {b : Nat} (hb : 2 ≤ b) : ∀ (k m u : Nat), u ≤ k → u ≤ m → flf b k u = flf b m u
  | 0, m, u, h, _ => by rw [flf_small (by omega), flf_small (by omega)]
  | k + 1, 0, u, _, h => by rw [flf_small (by omega), flf_small (by omega)]
  | k + 1, m + 1, u, h1, h2 => by
    rcases Nat.lt_or_ge u b with q | q
    · rw [flf_small q, flf_small q]
    · have : u / b < u := Nat.div_lt_self (by omega) (by omega)
      rw [flf_big q, flf_big q, flf_fuel hb k m (u / b) (by omega) (by omega)]
theorem fl_small {b v : Nat} (h : v < b) : fl b v = [dg8 v] := flf_small h v
theorem fl_big {b v : Nat} (hb : 2 ≤ b) (h : b ≤ v) : fl b v = fl b (v / b) ++ [dg8 (v % b)] := by
  have hd : v / b < v := Nat.div_lt_self (by omega) (by omega)
  obtain ⟨k, hk⟩ : ∃ k, v = k + 1 := ⟨v - 1, by omega⟩
  have e : fl b v = flf b (k + 1) v := by unfold fl; rw [← hk]
  rw [e, flf_big h, flf_fuel hb k (v / b) (v / b) (by omega) (Nat.le_refl _)]
  rfl
theorem fl_ind {b : Nat} (hb : 2 ≤ b) {p : Nat → Prop} (h1 : ∀ v, v < b → p v) (h2 : ∀ v, b ≤ v → p (v / b) → p v) : ∀ v, p v := by
  intro v
  induction v using Nat.strongRecOn with
  | ind v ih =>
    rcases Nat.lt_or_ge v b with a | a
    · exact h1 v a
    · exact h2 v a (ih _ (Nat.div_lt_self (by omega) (by omega)))
theorem fl_digit {b : Nat} (hb : 2 ≤ b) (h36 : b ≤ 36) (v : Nat) : ∀ c ∈ fl b v, isD b c = true := by
  refine fl_ind (p := fun v => ∀ c ∈ fl b v, isD b c = true) hb ?_ ?_ v
  · intro v h c hc
    rw [fl_small h] at hc
    rw [List.mem_singleton.1 hc]
    exact isD_dg8 h36 h
  · intro v h ih c hc
    rw [fl_big hb h] at hc
    rcases List.mem_append.1 hc with q | q
    · exact ih c q
    · rw [List.mem_singleton.1 q]
      exact isD_dg8 h36 (Nat.mod_lt _ (by omega))
theorem flf_pos (b : Nat) : ∀ k v : Nat, 0 < (flf b k v).length
  | 0, _ => by show 0 < 1; omega
  | k + 1, v => by
    rcases Nat.lt_or_ge v b with q | q
    · rw [flf_small q]; show 0 < 1; omega
    · rw [flf_big q, List.length_append]; show 0 < _ + 1; omega
theorem fl_pos (b v : Nat) : 0 < (fl b v).length := flf_pos b v v
theorem fl_dlen {b : Nat} (hb : 2 ≤ b) (v : Nat) : DLen b v (fl b v).length := by
  refine fl_ind (p := fun v => DLen b v (fl b v).length) hb ?_ ?_ v
  · intro v h
    rw [fl_small h]
    refine ⟨Nat.le_refl _, fun _ => rfl, fun q => ?_, by simpa using h⟩
    show b ^ 0 ≤ v
    simp; omega
  · intro v h ih
    rw [fl_big hb h]
    obtain ⟨i1, i2, i3, i4⟩ := ih
    have e : (fl b (v / b) ++ [dg8 (v % b)]).length = (fl b (v / b)).length + 1 := by simp
    rw [e]
    obtain ⟨K, hK⟩ : ∃ K, (fl b (v / b)).length = K := ⟨_, rfl⟩
    rw [hK] at i1 i2 i3 i4 ⊢
    have hd : v / b ≠ 0 := by
      have := Nat.div_pos h (show 0 < b by omega)
      omega
    refine ⟨by omega, fun q => absurd q (by omega), fun _ => ?_, ?_⟩
    · have a := Nat.mul_le_mul_right b (i3 hd)
      have c := Nat.div_mul_le_self v b
      have e2 : b ^ (K - 1) * b = b ^ K := by rw [← Nat.pow_succ]; congr 1; omega
      show b ^ K ≤ v
      omega
    · rw [Nat.pow_succ]
      exact (Nat.div_lt_iff_lt_mul (by omega)).1 i4
theorem fl_le64 {b : Nat} (hb : 2 ≤ b) {v : Nat} (hv : v < 18446744073709551616) : (fl b v).length ≤ 64 := (fl_dlen hb v).le64 hb hv

/-- The number of a text's digits, from a on; what is no digit is passed by. -/
def avs (b a : Nat) (c : UInt8) : Nat := if dv c.toNat < 36 then a * b + dv c.toNat else a
def av (b a : Nat) : List UInt8 → Nat
  | [] => a
  | c :: r => av b (avs b a c) r
theorem av_cons (b a : Nat) (c : UInt8) (r : List UInt8) : av b a (c :: r) = av b (avs b a c) r := rfl
theorem av_append (b : Nat) : ∀ (l : List UInt8) (a : Nat) (m : List UInt8), av b a (l ++ m) = av b (av b a l) m
  | [], _, _ => rfl
  | c :: r, a, m => by rw [List.cons_append, av_cons, av_cons, av_append b r]
theorem avs_ge {b : Nat} (hb : 1 ≤ b) (a : Nat) (c : UInt8) : a ≤ avs b a c := by
  unfold avs
  split
  · have := Nat.mul_le_mul_left a hb
    omega
  · omega
theorem av_ge {b : Nat} (hb : 1 ≤ b) : ∀ (l : List UInt8) (a : Nat), a ≤ av b a l
  | [], _ => Nat.le_refl _
  | c :: r, a => Nat.le_trans (avs_ge hb a c) (av_ge hb r _)
theorem avs_yes {b a : Nat} {c : UInt8} (h : dv c.toNat < 36) : avs b a c = a * b + dv c.toNat := by unfold avs; rw [if_pos h]
theorem avs_no {b a : Nat} {c : UInt8} (h : ¬ dv c.toNat < 36) : avs b a c = a := by unfold avs; rw [if_neg h]
theorem av_fl {b : Nat} (hb : 2 ≤ b) (h36 : b ≤ 36) (v : Nat) : av b 0 (fl b v) = v := by
  refine fl_ind (p := fun v => av b 0 (fl b v) = v) hb ?_ ?_ v
  · intro v h
    rw [fl_small h, av_cons]
    show avs b 0 (dg8 v) = v
    rw [avs_yes (by rw [dv_dg8 (by omega)]; omega), dv_dg8 (by omega)]; omega
  · intro v h ih
    have hm := Nat.mod_lt v (show 0 < b by omega)
    rw [fl_big hb h, av_append, ih]
    show avs b (v / b) (dg8 (v % b)) = v
    rw [avs_yes (by rw [dv_dg8 (by omega)]; omega), dv_dg8 (by omega), Nat.mul_comm]
    exact Nat.div_add_mod v b
theorem av_noughts (b : Nat) : ∀ (k : Nat) (l : List UInt8), av b 0 (List.replicate k 48 ++ l) = av b 0 l
  | 0, _ => rfl
  | k + 1, l => by
    rw [List.replicate_succ, List.cons_append, av_cons]
    have : avs b 0 48 = 0 := by
      rw [avs_yes (by decide), show dv (48 : UInt8).toNat = 0 by decide]; omega
    rw [this]; exact av_noughts b k l
/-- Is a byte no capital letter? -/
def small (c : UInt8) : Prop := ¬ (65 ≤ c.toNat ∧ c.toNat ≤ 90)
theorem dg8_back {b : Nat} (hb : b ≤ 36) {c : UInt8} (h : isD b c = true) (hs : small c) : dg8 (dv c.toNat) = c := by
  have h' : dv c.toNat < b := of_decide_eq_true h
  apply UInt8.toNat_inj.1
  rw [dg8_nat (by omega)]
  rcases dgc_dv c.toNat (by omega) with q | q
  · exact q
  · exact absurd ⟨q.1, q.2.1⟩ hs
theorem fl_step {b : Nat} (hb : 2 ≤ b) {a d : Nat} (ha : 0 < a) (hd : d < b) : fl b (a * b + d) = fl b a ++ [dg8 d] := by
  have e1 : (a * b + d) / b = a := by
    rw [Nat.mul_comm, Nat.mul_add_div (by omega), Nat.div_eq_of_lt hd]; rfl
  have e2 : (a * b + d) % b = d := by
    rw [Nat.mul_comm, Nat.mul_add_mod, Nat.mod_eq_of_lt hd]
  have : b ≤ a * b := Nat.le_mul_of_pos_left b ha
  rw [fl_big hb (by omega), e1, e2]
theorem fl_av_from {b : Nat} (hb : 2 ≤ b) (h36 : b ≤ 36) : ∀ (l : List UInt8) (a : Nat), 0 < a → (∀ c ∈ l, isD b c = true ∧ small c) → fl b (av b a l) = fl b a ++ l
  | [], a, _, _ => by simp [av]
  | c :: r, a, ha, h => by
    obtain ⟨h1, h2⟩ := h c (by simp)
    have h3 : dv c.toNat < b := of_decide_eq_true h1
    rw [av_cons, avs_yes (by omega)]
    have : 0 < a * b := Nat.mul_pos ha (by omega)
    rw [fl_av_from hb h36 r _ (by omega) (fun x hx => h x (by simp [hx])), fl_step hb ha h3, dg8_back h36 h1 h2]
    simp
/-- The only text of its kind. -/
theorem fl_av {b : Nat} (hb : 2 ≤ b) (h36 : b ≤ 36) {l : List UInt8} (h0 : l ≠ []) (h : ∀ c ∈ l, isD b c = true ∧ small c) (h1 : 1 < l.length → l.head? ≠ some 48) : fl b (av b 0 l) = l := by
  cases l with
  | nil => exact absurd rfl h0
  | cons c r =>
    obtain ⟨h2, h3⟩ := h c (by simp)
    have h4 : dv c.toNat < b := of_decide_eq_true h2
    rw [av_cons, avs_yes (by omega), Nat.zero_mul, Nat.zero_add]
    cases r with
    | nil => show fl b (dv c.toNat) = _; rw [fl_small h4, dg8_back h36 h2 h3]
    | cons x t =>
      have h5 : c ≠ 48 := fun z => h1 (by simp) (by simp [z])
      have h6 : 0 < dv c.toNat := by
        rcases Nat.eq_zero_or_pos (dv c.toNat) with z | z
        · exfalso
          apply h5
          have := dg8_back h36 h2 h3
          rw [z] at this
          rw [← this]; decide
        · exact z
      rw [fl_av_from hb h36 (x :: t) _ h6 (fun y hy => h y (by simp only [List.mem_cons] at hy ⊢; exact Or.inr hy)), fl_small h4, dg8_back h36 h2 h3]
      rfl

/-- Digits in groups: an underscore behind each that has a multiple of e behind it. -/
def gr (e : Nat) : List UInt8 → List UInt8
  | [] => []
  | c :: r => if 0 < r.length ∧ r.length % e = 0 then c :: 95 :: gr e r else c :: gr e r
theorem gr_yes {e : Nat} {c : UInt8} {r : List UInt8} (h : 0 < r.length ∧ r.length % e = 0) : gr e (c :: r) = c :: 95 :: gr e r := by show (if _ then _ else _) = _; rw [if_pos h]
theorem gr_no {e : Nat} {c : UInt8} {r : List UInt8} (h : ¬ (0 < r.length ∧ r.length % e = 0)) : gr e (c :: r) = c :: gr e r := by show (if _ then _ else _) = _; rw [if_neg h]
theorem gr_len (e : Nat) : ∀ l, (gr e l).length ≤ 2 * l.length
  | [] => Nat.le_refl _
  | c :: r => by
    have := gr_len e r
    by_cases h : 0 < r.length ∧ r.length % e = 0
    · rw [gr_yes h]; simp; omega
    · rw [gr_no h]; simp; omega
theorem gr_hd {b e : Nat} : ∀ {l : List UInt8}, 0 < l.length → (∀ c ∈ l, isD b c = true) → hdD b (gr e l) = true
  | [], h, _ => absurd h (by simp)
  | c :: r, _, h => by
    by_cases q : 0 < r.length ∧ r.length % e = 0
    · rw [gr_yes q]; exact h c (by simp)
    · rw [gr_no q]; exact h c (by simp)
theorem gr_cgo {b e : Nat} (hb : b ≤ 36) : ∀ (l : List UInt8) (j : Bool), (∀ c ∈ l, isD b c = true) → cgo b j (gr e l) = some l
  | [], _, _ => rfl
  | c :: r, j, h => by
    have hc := h c (by simp)
    have hr : ∀ x ∈ r, isD b x = true := fun x hx => h x (by simp [hx])
    by_cases q : 0 < r.length ∧ r.length % e = 0
    · rw [gr_yes q, cgo_digit hc, cgo_bar (isD_bar b hb) rfl (gr_hd q.1 hr), gr_cgo hb r false hr]; rfl
    · rw [gr_no q, cgo_digit hc, gr_cgo hb r true hr]; rfl
theorem av_gr (b e : Nat) : ∀ (l : List UInt8) (a : Nat), av b a (gr e l) = av b a l
  | [], _ => rfl
  | c :: r, a => by
    by_cases q : 0 < r.length ∧ r.length % e = 0
    · rw [gr_yes q, av_cons, av_cons, avs_no (by decide), av_gr b e r]; rfl
    · rw [gr_no q, av_cons, av_gr b e r]; rfl

/-- How many bytes at the begin are digits with single underscores among them (j: one may stand at the begin). -/
def rch (b : Nat) : Bool → List UInt8 → Nat
  | _, [] => 0
  | j, c :: r => if isD b c = true then rch b true r + 1 else if c = 95 ∧ j = true ∧ hdD b r = true then rch b false r + 1 else 0
theorem rch_digit {b : Nat} {j : Bool} {c : UInt8} {r : List UInt8} (h : isD b c = true) : rch b j (c :: r) = rch b true r + 1 := by
  show (if _ then _ else _) = _; rw [if_pos h]
theorem rch_bar {b : Nat} {j : Bool} {c : UInt8} {r : List UInt8} (h : isD b c = false) (h1 : c = 95) (hj : j = true) (h2 : hdD b r = true) : rch b j (c :: r) = rch b false r + 1 := by
  show (if _ then _ else _) = _; rw [if_neg (by rw [h]; decide), if_pos ⟨h1, hj, h2⟩]
theorem rch_bad {b : Nat} {j : Bool} {c : UInt8} {r : List UInt8} (h : isD b c = false) (h1 : ¬ (c = 95 ∧ j = true ∧ hdD b r = true)) : rch b j (c :: r) = 0 := by
  show (if _ then _ else _) = _; rw [if_neg (by rw [h]; decide), if_neg h1]
theorem rch_hd {b : Nat} {j : Bool} {l : List UInt8} (h : hdD b l = true) : 0 < rch b j l := by
  cases l with
  | nil => cases h
  | cons c r => rw [rch_digit h]; omega
theorem rch_le (b : Nat) : ∀ (l : List UInt8) (j : Bool), rch b j l ≤ l.length
  | [], _ => Nat.le_refl _
  | c :: r, j => by
    by_cases q : isD b c = true
    · rw [rch_digit q]; have := rch_le b r true; simp; omega
    · have q' : isD b c = false := by simpa using q
      by_cases z : c = 95 ∧ j = true ∧ hdD b r = true
      · rw [rch_bar q' z.1 z.2.1 z.2.2]; have := rch_le b r false; simp; omega
      · rw [rch_bad q' z]; omega
theorem rch_cgo {b : Nat} : ∀ (l : List UInt8) (j : Bool), rch b j l = l.length ↔ ∃ o, cgo b j l = some o
  | [], _ => ⟨fun _ => ⟨_, rfl⟩, fun _ => rfl⟩
  | c :: r, j => by
    by_cases q : isD b c = true
    · rw [rch_digit q, cgo_digit q, List.length_cons, Nat.add_right_cancel_iff, rch_cgo r true]
      constructor
      · rintro ⟨o, h⟩; exact ⟨_, by rw [h]; rfl⟩
      · rintro ⟨o, h⟩
        obtain ⟨o', e, _⟩ := Option.map_eq_some_iff.1 h
        exact ⟨o', e⟩
    · have q' : isD b c = false := by simpa using q
      by_cases z : c = 95 ∧ j = true ∧ hdD b r = true
      · obtain ⟨z1, z2, z3⟩ := z
        subst z2
        rw [rch_bar q' z1 rfl z3, cgo_bar q' z1 z3, List.length_cons, Nat.add_right_cancel_iff, rch_cgo r false]
      · rw [rch_bad q' z, cgo_bad q' z]
        constructor
        · intro h; simp at h
        · rintro ⟨o, h⟩; cases h
theorem cgo_empty {b : Nat} : ∀ (l : List UInt8) (j : Bool), cgo b j l = some [] → l = []
  | [], _, _ => rfl
  | c :: r, j, h => by
    by_cases q : isD b c = true
    · rw [cgo_digit q] at h
      obtain ⟨o', _, e⟩ := Option.map_eq_some_iff.1 h
      cases e
    · have q' : isD b c = false := by simpa using q
      by_cases z : c = 95 ∧ j = true ∧ hdD b r = true
      · obtain ⟨z1, z2, z3⟩ := z
        subst z2
        rw [cgo_bar q' z1 z3] at h
        rw [cgo_empty r false h] at z3
        cases z3
      · rw [cgo_bad q' z] at h; cases h
/-- Is a whole text digits with underscores, one digit at least? -/
theorem clean_rch {b : Nat} {j : Bool} {l : List UInt8} : (clean b j l).isSome = decide (0 < l.length ∧ rch b j l = l.length) := by
  by_cases h : ∃ o, cgo b j l = some o
  · have h' := (rch_cgo l j).2 h
    obtain ⟨o, e⟩ := h
    by_cases z : l = []
    · subst z; rfl
    · have hz : 0 < l.length := List.length_pos_iff.2 z
      have ho : o ≠ [] := fun q => z (cgo_empty l j (by rw [e, q]))
      rw [clean_some e ho, decide_eq_true ⟨hz, h'⟩]; rfl
  · have e : cgo b j l = none := by
      cases q : cgo b j l with
      | none => rfl
      | some o => exact absurd ⟨o, q⟩ h
    rw [clean_none e, decide_eq_false (fun q => h ((rch_cgo l j).1 q.2))]; rfl
theorem hdD_take {b k : Nat} {r : List UInt8} : hdD b (r.take k) = true → 0 < k ∧ hdD b r = true := by
  intro h
  cases k with
  | zero => cases h
  | succ k => cases r with
    | nil => cases h
    | cons c t => exact ⟨by omega, h⟩
theorem hdD_take' {b k : Nat} {r : List UInt8} (hk : 0 < k) (h : hdD b r = true) : hdD b (r.take k) = true := by
  cases k with
  | zero => omega
  | succ k => cases r with
    | nil => cases h
    | cons c t => exact h
theorem rch_take_le {b : Nat} : ∀ (l : List UInt8) (j : Bool) (k : Nat), k ≤ l.length → rch b j (l.take k) = k → k ≤ rch b j l
  | [], _, k, h, _ => h
  | c :: r, j, 0, _, _ => Nat.zero_le _
  | c :: r, j, k + 1, h, e => by
    rw [List.take_succ_cons] at e
    have h' : k ≤ r.length := by simpa using h
    by_cases q : isD b c = true
    · rw [rch_digit q] at e ⊢
      have := rch_take_le (b := b) r true k h' (by omega)
      omega
    · have q' : isD b c = false := by simpa using q
      by_cases z : c = 95 ∧ j = true ∧ hdD b (r.take k) = true
      · rw [rch_bar q' z.1 z.2.1 z.2.2] at e
        rw [rch_bar q' z.1 z.2.1 (hdD_take z.2.2).2]
        have := rch_take_le (b := b) r false k h' (by omega)
        omega
      · rw [rch_bad q' z] at e; omega
theorem rch_take_self {b : Nat} : ∀ (l : List UInt8) (j : Bool), rch b j (l.take (rch b j l)) = rch b j l
  | [], _ => rfl
  | c :: r, j => by
    by_cases q : isD b c = true
    · rw [rch_digit q, List.take_succ_cons, rch_digit q, rch_take_self r true]
    · have q' : isD b c = false := by simpa using q
      by_cases z : c = 95 ∧ j = true ∧ hdD b r = true
      · rw [rch_bar q' z.1 z.2.1 z.2.2, List.take_succ_cons, rch_bar q' z.1 z.2.1 (hdD_take' (rch_hd z.2.2) z.2.2), rch_take_self r false]
      · rw [rch_bad q' z]; rfl
/-- The same of digits alone. -/
theorem hdn_le (b : Nat) : ∀ l, hdn b l ≤ l.length
  | [] => Nat.le_refl _
  | c :: r => by
    by_cases q : isD b c = true
    · rw [hdn_yes q]; have := hdn_le b r; simp; omega
    · rw [hdn_no (by simpa using q)]; omega
theorem hdn_take_le {b : Nat} : ∀ (l : List UInt8) (k : Nat), k ≤ l.length → hdn b (l.take k) = k → k ≤ hdn b l
  | [], k, h, _ => h
  | c :: r, 0, _, _ => Nat.zero_le _
  | c :: r, k + 1, h, e => by
    rw [List.take_succ_cons] at e
    have h' : k ≤ r.length := by simpa using h
    by_cases q : isD b c = true
    · rw [hdn_yes q] at e ⊢
      have := hdn_take_le (b := b) r k h' (by omega)
      omega
    · rw [hdn_no (by simpa using q)] at e; omega
theorem hdn_take_self {b : Nat} : ∀ (l : List UInt8), hdn b (l.take (hdn b l)) = hdn b l
  | [] => rfl
  | c :: r => by
    by_cases q : isD b c = true
    · rw [hdn_yes q, List.take_succ_cons, hdn_yes q, hdn_take_self r]
    · rw [hdn_no (by simpa using q)]; rfl
theorem hdn_mem {b : Nat} : ∀ (l : List UInt8), hdn b l = l.length → ∀ c ∈ l, isD b c = true
  | [], _, _, hc => by cases hc
  | x :: r, h, c, hc => by
    by_cases q : isD b x = true
    · rw [hdn_yes q] at h
      rcases List.mem_cons.1 hc with rfl | z
      · exact q
      · exact hdn_mem r (by simpa using h) c z
    · rw [hdn_no (by simpa using q)] at h; simp at h

/-- How many bytes at the begin can stand somewhere in a number. -/
def okc (c : UInt8) : Bool := decide (c = 95 ∨ dv c.toNat < 36)
def lead : List UInt8 → Nat
  | [] => 0
  | c :: r => if okc c = true then lead r + 1 else 0
theorem lead_yes {c : UInt8} {r : List UInt8} (h : okc c = true) : lead (c :: r) = lead r + 1 := by show (if _ then _ else _) = _; rw [if_pos h]
theorem lead_no {c : UInt8} {r : List UInt8} (h : okc c = false) : lead (c :: r) = 0 := by show (if _ then _ else _) = _; rw [if_neg (by rw [h]; decide)]
theorem okc_digit {b : Nat} (hb : b ≤ 36) {c : UInt8} (h : isD b c = true) : okc c = true := by
  have h' : dv c.toNat < b := of_decide_eq_true h
  exact decide_eq_true (Or.inr (by omega))
theorem lead_le : ∀ l, lead l ≤ l.length
  | [] => Nat.le_refl _
  | c :: r => by
    by_cases q : okc c = true
    · rw [lead_yes q]; have := lead_le r; simp; omega
    · rw [lead_no (by simpa using q)]; omega
theorem rch_lead {b : Nat} (hb : b ≤ 36) : ∀ (l : List UInt8) (j : Bool), rch b j l ≤ lead l
  | [], _ => Nat.le_refl _
  | c :: r, j => by
    by_cases q : isD b c = true
    · rw [rch_digit q, lead_yes (okc_digit hb q)]; have := rch_lead hb r true; omega
    · have q' : isD b c = false := by simpa using q
      by_cases z : c = 95 ∧ j = true ∧ hdD b r = true
      · rw [rch_bar q' z.1 z.2.1 z.2.2, lead_yes (decide_eq_true (Or.inl z.1))]; have := rch_lead hb r false; omega
      · rw [rch_bad q' z]; omega
theorem hdn_lead {b : Nat} (hb : b ≤ 36) : ∀ (l : List UInt8), hdn b l ≤ lead l
  | [] => Nat.le_refl _
  | c :: r => by
    by_cases q : isD b c = true
    · rw [hdn_yes q, lead_yes (okc_digit hb q)]; have := hdn_lead hb r; omega
    · rw [hdn_no (by simpa using q)]; omega
end Go.Proofs.YtjgdbphhhplifaaDoor
