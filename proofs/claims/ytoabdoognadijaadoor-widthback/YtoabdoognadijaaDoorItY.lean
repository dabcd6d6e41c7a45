/-
  What is told of an integer is read as it: lists of bytes, no walk.
-/
import Derived.Test.YtoabdoognadijaaDoorItB
namespace Go.Proofs.YtoabdoognadijaaDoor
open Go.RowKit

/-- Digits alone are parsed as their number. -/
theorem ps_digits {b : Nat} (h1 : 2 ≤ b) {l : List UInt8} (h0 : l ≠ []) (h : ∀ c ∈ l, isD b c = true) (hv : av b 0 l < 18446744073709551616) : psX b l = av b 0 l ∧ psE b l = 0 := by
  have z : b ≠ 0 := by omega
  have e := hdn_all l h
  have eL : bgL b l = l.length := by unfold bgL; rw [if_pos z]; exact e
  have eN : psN b l = av b 0 l := by
    unfold psN bgO bgA
    rw [if_pos z, if_pos z, List.drop_zero]
  have hl : 0 < bgL b l ∧ bgL b l = l.length := ⟨by rw [eL]; exact List.length_pos_iff.2 h0, eL⟩
  unfold psX psE
  rw [if_pos hl, if_pos hl, eN, if_pos hv, if_pos hv]
  exact ⟨rfl, rfl⟩
/-- What is parsed without an error is digits alone. -/
theorem ps_back {b : Nat} (h1 : 2 ≤ b) {l : List UInt8} (h : psE b l = 0) : l ≠ [] ∧ (∀ c ∈ l, isD b c = true) ∧ psX b l = av b 0 l ∧ av b 0 l < 18446744073709551616 := by
  have z : b ≠ 0 := by omega
  have eN : psN b l = av b 0 l := by
    unfold psN bgO bgA
    rw [if_pos z, if_pos z, List.drop_zero]
  have eL : bgL b l = hdn b l := by unfold bgL; rw [if_pos z]
  unfold psE at h
  by_cases q : 0 < bgL b l ∧ bgL b l = l.length
  · rw [if_pos q] at h
    by_cases y : psN b l < 18446744073709551616
    · refine ⟨fun e => ?_, hdn_mem l (eL ▸ q.2), ?_, eN ▸ y⟩
      · rw [e] at q; exact absurd q.1 (by rw [q.2]; simp)
      · unfold psX; rw [if_pos q, if_pos y, eN]
    · rw [if_neg y] at h; exact absurd h (by decide)
  · rw [if_neg q] at h; exact absurd h (by decide)
theorem pad_digit {b : Nat} (h1 : 2 ≤ b) (h2 : b ≤ 36) (V k : Nat) : ∀ c ∈ List.replicate k 48 ++ fl b V, isD b c = true := by
  intro c hc
  rcases List.mem_append.1 hc with q | q
  · rw [(List.mem_replicate.1 q).2]
    exact decide_eq_true (by show dv 48 < b; rw [show dv 48 = 0 by decide]; omega)
  · exact fl_digit h1 h2 V c q
theorem app_ne {l m : List UInt8} (h : 0 < m.length) : l ++ m ≠ [] := fun e => by
  have := congrArg List.length e
  simp at this
  rw [this.2] at h; simp at h
theorem ErV.none {w : World} {c t : ByteArray} {n : Int} {v : Value} (h : ErV w n c t v) (hn : n = 0) : v = .nilIface := by
  rcases h with q | q
  · exact q.2
  · exact absurd hn q.1

theorem arr_list (o : List UInt8) : (⟨o.toArray⟩ : ByteArray).data.toList = o := rfl

theorem digit_sign {b : Nat} (hb : b ≤ 36) {c : UInt8} (h : isD b c = true) : c ≠ 45 ∧ c ≠ 43 := by
  have h' : dv c.toNat < b := of_decide_eq_true h
  constructor
  · intro e; rw [e, show dv (45 : UInt8).toNat = 36 by decide] at h'; omega
  · intro e; rw [e, show dv (43 : UInt8).toNat = 36 by decide] at h'; omega
/-- A sign that is told ahead of what begins with a digit is read as it. -/
theorem sg_of {b : Nat} (hb : b ≤ 36) (v : Int) (p : Bool) {D : List UInt8} (hd : hdD b D = true) :
    sgN (mrk v p ++ D) = decide (v < 0) ∧ (mrk v p ++ D).drop (sgL (mrk v p ++ D)) = D := by
  by_cases q : v < 0
  · rw [mrk_neg q, decide_eq_true q]
    refine ⟨(sg_minus D).1, ?_⟩
    rw [show [45] ++ D = 45 :: D from rfl, (sg_minus D).2]; rfl
  · rw [decide_eq_false q]
    cases p with
    | true =>
      rw [mrk_plus q]
      refine ⟨(sg_plus D).1, ?_⟩
      rw [show [43] ++ D = 43 :: D from rfl, (sg_plus D).2]; rfl
    | false =>
      rw [mrk_none q]
      cases D with
      | nil => cases hd
      | cons c r =>
        have hc := digit_sign hb (c := c) hd
        have hs := sg_none r hc.1 hc.2
        refine ⟨hs.1, ?_⟩
        rw [List.nil_append, hs.2]; rfl
theorem ip_of {b : Nat} {v : Int} (h1 : -9223372036854775808 ≤ v) (h2 : v ≤ 9223372036854775807) {l D : List UInt8} (hs : sgN l = decide (v < 0)) (hd : l.drop (sgL l) = D)
    (hx : psX b D = v.natAbs ∧ psE b D = 0) : ipX b l = v ∧ ipE b l = 0 := by
  have m := mk_abs h1 h2
  have n := nr_yes m.1
  unfold ipX ipE
  rw [hd, hx.1, hx.2, hs, if_neg (by decide), if_neg (by decide), n.1, n.2]
  exact ⟨m.2, rfl⟩
theorem fl_hdD {b : Nat} (h1 : 2 ≤ b) (h2 : b ≤ 36) (V : Nat) : hdD b (fl b V) = true := by
  have hp := fl_pos b V
  have hd := fl_digit h1 h2 V
  cases h : fl b V with
  | nil => rw [h] at hp; cases hp
  | cons c r => rw [h] at hd; exact hd c (by simp)
theorem pad_hdD {b : Nat} (h1 : 2 ≤ b) (h2 : b ≤ 36) (V k : Nat) : hdD b (List.replicate k 48 ++ fl b V) = true := by
  have hd := pad_digit h1 h2 V k
  cases h : List.replicate k 48 ++ fl b V with
  | nil => exact absurd h (app_ne (fl_pos b V))
  | cons c r => rw [h] at hd; exact hd c (by simp)
/-- Format's text is read as the integer. -/
theorem ip_format {b : Nat} (hb1 : 2 ≤ b) (hb2 : b ≤ 36) {v : Int} (h1 : -9223372036854775808 ≤ v) (h2 : v ≤ 9223372036854775807) (p : Bool) :
    ipX b (mrk v p ++ fl b v.natAbs) = v ∧ ipE b (mrk v p ++ fl b v.natAbs) = 0 := by
  have s := sg_of hb2 v p (fl_hdD hb1 hb2 v.natAbs)
  refine ip_of h1 h2 s.1 s.2 ?_
  have e := ps_digits hb1 (l := fl b v.natAbs) (fun z => by have := fl_pos b v.natAbs; rw [z] at this; simp at this) (fl_digit hb1 hb2 _) (by rw [av_fl hb1 hb2]; exact abs_lt h1 h2)
  rw [av_fl hb1 hb2] at e
  exact e
/-- Pad's text is read as the integer. -/
theorem ip_pad {b : Nat} (hb1 : 2 ≤ b) (hb2 : b ≤ 36) {v : Int} (h1 : -9223372036854775808 ≤ v) (h2 : v ≤ 9223372036854775807) (p : Bool) (k : Nat) :
    ipX b (mrk v p ++ (List.replicate k 48 ++ fl b v.natAbs)) = v ∧ ipE b (mrk v p ++ (List.replicate k 48 ++ fl b v.natAbs)) = 0 := by
  have s := sg_of hb2 v p (pad_hdD hb1 hb2 v.natAbs k)
  refine ip_of h1 h2 s.1 s.2 ?_
  have e := ps_digits hb1 (app_ne (l := List.replicate k 48) (fl_pos b v.natAbs)) (pad_digit hb1 hb2 v.natAbs k) (by rw [av_noughts, av_fl hb1 hb2]; exact abs_lt h1 h2)
  rw [av_noughts, av_fl hb1 hb2] at e
  exact e

/-! A number's first digit is no nought. -/
theorem fl_nought (b : Nat) (hb : 2 ≤ b) : fl b 0 = [48] := by rw [fl_small (by omega)]; rfl
theorem fl_head {b : Nat} (hb : 2 ≤ b) (h36 : b ≤ 36) : ∀ v, 0 < v → (fl b v).head? ≠ some 48 := by
  refine fl_ind hb (p := fun v => 0 < v → (fl b v).head? ≠ some 48) ?_ ?_
  · intro v hv h0 e
    rw [fl_small hv] at e
    have e' : dg8 v = 48 := by simpa using e
    have := dv_dg8 (n := v) (by omega)
    rw [e', show dv (48 : UInt8).toNat = 0 by decide] at this
    omega
  · intro v hv ih _ e
    rw [fl_big hb hv] at e
    have hq : 0 < v / b := Nat.div_pos hv (by omega)
    have hp := fl_pos b (v / b)
    cases h : fl b (v / b) with
    | nil => rw [h] at hp; cases hp
    | cons c r =>
      rw [h] at e
      exact ih hq (by rw [h]; simpa using e)
theorem gr_head (e : Nat) (l : List UInt8) : (gr e l).head? = l.head? := by
  cases l with
  | nil => rfl
  | cons c r =>
    by_cases q : 0 < r.length ∧ r.length % e = 0
    · rw [gr_yes q]; rfl
    · rw [gr_no q]; rfl
theorem btl_head {l : List UInt8} (h : btl l 0 = 48) : l.head? = some 48 := by
  cases l with
  | nil => cases h
  | cons c r =>
    rw [btl_zero] at h
    show some c = some 48
    rw [show c = 48 from UInt8.toNat_inj.1 h]
theorem aN_group (V : Nat) : aN (gr 3 (fl 10 V)) = 0 := by
  rcases Nat.eq_zero_or_pos V with h | h
  · rw [h, fl_nought 10 (by decide)]; decide
  · rcases Nat.eq_zero_or_pos (aN (gr 3 (fl 10 V))) with z | z
    · exact z
    · have := btl_head (aN_pos.1 z).1
      rw [gr_head] at this
      exact absurd this (fl_head (by decide) (by decide) V h)
/-- Groups of three in base ten are parsed as the number, in base 0. -/
theorem ps_group10 {V : Nat} (hV : V < 18446744073709551616) : psX 0 (gr 3 (fl 10 V)) = V ∧ psE 0 (gr 3 (fl 10 V)) = 0 := by
  have hN := aN_group V
  have hd : ∀ c ∈ fl 10 V, isD 10 c = true := fl_digit (by decide) (by decide) V
  have hg := gr_hd (b := 10) (e := 3) (l := fl 10 V) (fl_pos 10 V) hd
  have hv : av 10 0 (gr 3 (fl 10 V)) = V := by rw [av_gr, av_fl (by decide) (by decide)]
  have hr : rch 10 false (gr 3 (fl 10 V)) = (gr 3 (fl 10 V)).length := (rch_cgo _ false).2 ⟨_, gr_cgo (by decide) _ false hd⟩
  generalize gr 3 (fl 10 V) = l at *
  have hB := aB_ten hN
  have hp : 0 < l.length := by
    cases l with
    | nil => cases hg
    | cons c r => simp
  have eR : bgR l = l.length := by
    unfold bgR; rw [hB, hN, List.drop_zero]; exact hr
  have z : ¬ (0 : Nat) ≠ 0 := fun h => h rfl
  have q : ¬ (0 < aN l ∧ bgR l = 0) := by omega
  have eL : bgL 0 l = l.length := by unfold bgL; rw [if_neg z, if_neg q, hN, eR, Nat.zero_add]
  have eO : bgO 0 l = 10 := by unfold bgO; rw [if_neg z, if_neg q]; exact hB
  have eA : bgA 0 l = 0 := by unfold bgA; rw [if_neg z, if_neg q]; exact hN
  have eN : psN 0 l = V := by
    unfold psN
    rw [eO, eA, List.drop_zero]; exact hv
  have hh : 0 < bgL 0 l ∧ bgL 0 l = l.length := by rw [eL]; exact ⟨hp, rfl⟩
  unfold psX psE
  rw [if_pos hh, if_pos hh, eN, if_pos hV, if_pos hV]
  exact ⟨rfl, rfl⟩
theorem ip_group {v : Int} (h1 : -9223372036854775808 ≤ v) (h2 : v ≤ 9223372036854775807) : ipX 0 (mrk v false ++ gr 3 (fl 10 v.natAbs)) = v ∧ ipE 0 (mrk v false ++ gr 3 (fl 10 v.natAbs)) = 0 := by
  have s := sg_of (b := 10) (by decide) v false (gr_hd (b := 10) (e := 3) (l := fl 10 v.natAbs) (fl_pos 10 _) (fl_digit (by decide) (by decide) _))
  exact ip_of h1 h2 s.1 s.2 (ps_group10 (abs_lt h1 h2))

/-! Digits are small letters. -/
def low (c : UInt8) : Prop := (48 ≤ c.toNat ∧ c.toNat ≤ 57) ∨ (97 ≤ c.toNat ∧ c.toNat ≤ 122)
theorem dg8_low {n : Nat} (h : n < 36) : low (dg8 n) := by
  unfold low
  rw [dg8_nat h]
  unfold dgc
  split <;> omega
theorem fl_low {b : Nat} (hb : 2 ≤ b) (h36 : b ≤ 36) : ∀ v, ∀ c ∈ fl b v, low c := by
  refine fl_ind hb (p := fun v => ∀ c ∈ fl b v, low c) ?_ ?_
  · intro v hv c hc
    rw [fl_small hv] at hc
    rw [List.mem_singleton.1 hc]; exact dg8_low (by omega)
  · intro v hv ih c hc
    rw [fl_big hb hv] at hc
    rcases List.mem_append.1 hc with z | z
    · exact ih c z
    · rw [List.mem_singleton.1 z]; exact dg8_low (by have := Nat.mod_lt v (show 0 < b by omega); omega)
/-- The text of a number: its first byte is no nought, or it is the text of 0. -/
theorem fl_first {b : Nat} (hb : 2 ≤ b) (h36 : b ≤ 36) (V : Nat) : (fl b V).head? ≠ some 48 ∨ (V = 0 ∧ fl b V = [48]) := by
  rcases Nat.eq_zero_or_pos V with h | h
  · exact Or.inr ⟨h, by rw [h]; exact fl_nought b hb⟩
  · exact Or.inl (fl_head hb h36 V h)

/-! What is read without an error. -/
theorem av_lt {b : Nat} (hb : 1 ≤ b) : ∀ (l : List UInt8) (a : Nat), (∀ c ∈ l, isD b c = true) → b ≤ 36 → av b a l < (a + 1) * b ^ l.length
  | [], a, _, _ => by show a < (a + 1) * 1; omega
  | c :: r, a, h, h36 => by
    have hc : dv c.toNat < b := of_decide_eq_true (h c (by simp))
    rw [av_cons, avs_yes (by omega)]
    have ih := av_lt hb r (a * b + dv c.toNat) (fun x hx => h x (by simp [hx])) h36
    have e : (a * b + dv c.toNat + 1) * b ^ r.length ≤ ((a + 1) * b) * b ^ r.length := Nat.mul_le_mul_right _ (by rw [Nat.add_mul]; omega)
    have e2 : ((a + 1) * b) * b ^ r.length = (a + 1) * b ^ (c :: r).length := by
      rw [List.length_cons, Nat.pow_succ, Nat.mul_assoc, Nat.mul_comm b]
    omega
/-- No text of a number is shorter than the number's own. -/
theorem fl_short {b : Nat} (hb : 2 ≤ b) (h36 : b ≤ 36) {l : List UInt8} (h0 : l ≠ []) (h : ∀ c ∈ l, isD b c = true) : (fl b (av b 0 l)).length ≤ l.length := by
  have D := fl_dlen hb (av b 0 l)
  have lt := av_lt (by omega) l 0 h h36
  rw [Nat.zero_add, Nat.one_mul] at lt
  have hl : 0 < l.length := List.length_pos_iff.2 h0
  obtain ⟨d1, d2, d3, _⟩ := D
  rcases Nat.lt_or_ge l.length (fl b (av b 0 l)).length with z | z
  · by_cases y : av b 0 l = 0
    · have := d2 y; omega
    · have e := d3 y
      have m : b ^ l.length ≤ b ^ ((fl b (av b 0 l)).length - 1) := Nat.pow_le_pow_right (by omega) (by omega)
      omega
  · exact z
/-- What is read without an error in a base from 2 to 36: a sign or none, and digits alone. -/
theorem ip_back {b : Nat} (h1 : 2 ≤ b) {l : List UInt8} (h : ipE b l = 0) :
    l.drop (sgL l) ≠ [] ∧ (∀ c ∈ l.drop (sgL l), isD b c = true) ∧ mkB (sgN l) (av b 0 (l.drop (sgL l))) = true ∧ ipX b l = mkX (sgN l) (av b 0 (l.drop (sgL l))) := by
  unfold ipE at h
  unfold ipX
  rcases psE_cases b (l.drop (sgL l)) with z | z | z
  · obtain ⟨a1, a2, a3, a4⟩ := ps_back h1 z
    rw [z, if_neg (by decide), a3] at h
    rw [z, if_neg (by decide), a3]
    cases q : mkB (sgN l) (av b 0 (l.drop (sgL l))) with
    | true => exact ⟨a1, a2, rfl, (nr_yes q).1⟩
    | false => rw [(nr_no q).2] at h; exact absurd h (by decide)
  · rw [z, if_pos rfl] at h; exact absurd h (by decide)
  · rw [z, if_neg (by decide)] at h
    have e : psX b (l.drop (sgL l)) = 18446744073709551615 := by
      unfold psE at z
      unfold psX
      by_cases q : 0 < bgL b (l.drop (sgL l)) ∧ bgL b (l.drop (sgL l)) = (l.drop (sgL l)).length
      · rw [if_pos q] at z ⊢
        by_cases y : psN b (l.drop (sgL l)) < 18446744073709551616
        · rw [if_pos y] at z; exact absurd z (by decide)
        · rw [if_neg y]
      · rw [if_neg q] at z; exact absurd z (by decide)
    have f : mkB (sgN l) (psX b (l.drop (sgL l))) = false := by rw [e]; cases sgN l <;> decide
    rw [(nr_no f).2] at h; exact absurd h (by decide)
theorem mkX_abs {neg : Bool} {n : Nat} (h : mkB neg n = true) : (mkX neg n).natAbs = n ∧ -9223372036854775808 ≤ mkX neg n ∧ mkX neg n ≤ 9223372036854775807 := by
  cases neg with
  | true =>
    rw [mkB_neg] at h
    have q := of_decide_eq_true h
    rw [(mkX_neg q).2]; omega
  | false =>
    rw [mkB_pos] at h
    have q := of_decide_eq_true h
    rw [(mkX_pos q).2]; omega
/-- The sign that is told is not longer than the one that was read. -/
theorem mrk_short {l : List UInt8} {n : Nat} (h : mkB (sgN l) n = true) : (mrk (mkX (sgN l) n) false).length ≤ sgL l := by
  cases e : sgN l with
  | true =>
    have hh : l.head? = some 45 := of_decide_eq_true e
    have : sgL l = 1 := by unfold sgL; rw [if_pos (Or.inl hh)]
    rw [this]; exact mrk_len _ _
  | false =>
    rw [e, mkB_pos] at h
    rw [(mkX_pos (of_decide_eq_true h)).2, mrk_none (by omega)]
    exact Nat.zero_le _
/-- Plain: no plus, no nought ahead of digits, no great letters. -/
theorem one_same {b : Nat} (h1 : 2 ≤ b) (h2 : b ≤ 36) {l : List UInt8} (hE : ipE b l = 0) (hp : l.head? ≠ some 43) (hs : ∀ c ∈ l.drop (sgL l), small c)
    (hn : (l.drop (sgL l)).head? ≠ some 48 ∨ (l.drop (sgL l) = [48] ∧ l = l.drop (sgL l))) : mrk (ipX b l) false ++ fl b (ipX b l).natAbs = l := by
  obtain ⟨a1, a2, a3, a4⟩ := ip_back h1 hE
  have hv := (mkX_abs a3).1
  rw [a4, hv]
  have hf : fl b (av b 0 (l.drop (sgL l))) = l.drop (sgL l) := by
    refine fl_av h1 h2 a1 (fun c hc => ⟨a2 c hc, hs c hc⟩) (fun z => ?_)
    rcases hn with q | q
    · exact q
    · rw [q.1] at z; exact absurd z (by decide)
  rw [hf]
  cases e : sgN l with
  | true =>
    have hh : l.head? = some 45 := of_decide_eq_true e
    have hL : sgL l = 1 := by unfold sgL; rw [if_pos (Or.inl hh)]
    rw [e, mkB_neg] at a3
    rw [(mkX_neg (of_decide_eq_true a3)).2]
    have pos : 0 < av b 0 (l.drop (sgL l)) := by
      rcases Nat.eq_zero_or_pos (av b 0 (l.drop (sgL l))) with z | z
      · rw [z, fl_nought b h1] at hf
        rcases hn with q | q
        · rw [← hf] at q; exact absurd rfl q
        · rw [q.2, q.1] at hh; exact absurd hh (by decide)
      · exact z
    rw [mrk_neg (by omega), hL]
    cases l with
    | nil => cases hh
    | cons c r =>
      have : c = 45 := by simpa using hh
      rw [this]; rfl
  | false =>
    have hh : l.head? ≠ some 45 := of_decide_eq_false e
    have hL : sgL l = 0 := by unfold sgL; rw [if_neg (by simp [hh, hp])]
    rw [e, mkB_pos] at a3
    rw [(mkX_pos (of_decide_eq_true a3)).2, mrk_none (by omega), hL]
    rfl
end Go.Proofs.YtoabdoognadijaaDoor
