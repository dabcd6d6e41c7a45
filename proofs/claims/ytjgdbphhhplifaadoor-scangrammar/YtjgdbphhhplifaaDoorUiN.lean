/-
  The grammar of a base, and of the base 0: what the longest begin of a text in it is: lists of bytes, no program in sight.
-/
import Derived.Test.YtjgdbphhhplifaaDoorUiM
namespace Go.Proofs.YtjgdbphhhplifaaDoor

/-- The byte at a place of a list; 256: there is none. -/
def btl (l : List UInt8) (i : Nat) : Nat := match l[i]? with | some c => c.toNat | none => 256
theorem bt_btl (s : ByteArray) (i : Nat) : bt s i = btl s.data.toList i := by
  unfold btl
  by_cases h : i < s.size
  · rw [bt_in h]
    have e : s.data.toList[i]? = some (s[i]'h) := by
      rw [List.getElem?_eq_getElem (by simpa using h)]; rfl
    rw [e]
  · rw [bt_out h]
    have e : s.data.toList[i]? = none := List.getElem?_eq_none (by simpa using h)
    rw [e]
theorem btl_take {l : List UInt8} {m i : Nat} (h : i < m) : btl (l.take m) i = btl l i := by
  unfold btl; rw [List.getElem?_take_of_lt h]
theorem btl_out {l : List UInt8} {i : Nat} (h : l.length ≤ i) : btl l i = 256 := by
  unfold btl; rw [List.getElem?_eq_none h]
theorem btl_in {l : List UInt8} {i : Nat} (h : btl l i < 256) : i < l.length := by
  rcases Nat.lt_or_ge i l.length with q | q
  · exact q
  · rw [btl_out q] at h; omega
theorem btl_lt {l : List UInt8} {i : Nat} (h : i < l.length) : btl l i < 256 := by
  unfold btl; rw [List.getElem?_eq_getElem h]; exact UInt8.toNat_lt _
theorem btl_zero (c : UInt8) (r : List UInt8) : btl (c :: r) 0 = c.toNat := rfl
theorem btl_one (c d : UInt8) (r : List UInt8) : btl (c :: d :: r) 1 = d.toNat := rfl

/-- Of the base 0: the base that a text's begin says, and how many bytes say it. -/
def aB (l : List UInt8) : Nat := (pfB (btl l 0) (btl l 1)).toNat
def aN (l : List UInt8) : Nat := (pfN (btl l 0) (btl l 1)).toNat
theorem aB_int (l : List UInt8) : pfB (btl l 0) (btl l 1) = (aB l : Int) := by
  unfold aB pfB; split <;> (try split) <;> (try split) <;> rfl
theorem aN_int (l : List UInt8) : pfN (btl l 0) (btl l 1) = (aN l : Int) := by
  unfold aN pfN; split <;> (try split) <;> rfl
theorem aB_in (l : List UInt8) : 2 ≤ aB l ∧ aB l ≤ 36 := by
  unfold aB pfB; split <;> (try split) <;> (try split) <;> decide
theorem aN_le2 (l : List UInt8) : aN l ≤ 2 := by
  unfold aN pfN; split <;> (try split) <;> decide
theorem aN_pos {l : List UInt8} : 0 < aN l ↔ btl l 0 = 48 ∧ btl l 1 < 256 := by
  unfold aN pfN
  by_cases h : btl l 0 = 48 ∧ btl l 1 < 256
  · rw [if_pos h]
    constructor
    · intro _; exact h
    · intro _; split <;> decide
  · rw [if_neg h]
    constructor
    · intro q; exact absurd q (by decide)
    · intro q; exact absurd q h
theorem aB_ten {l : List UInt8} (h : aN l = 0) : aB l = 10 := by
  have : ¬ (btl l 0 = 48 ∧ btl l 1 < 256) := fun q => by have := aN_pos.2 q; omega
  unfold aB pfB; rw [if_neg this]; rfl
theorem aN_len (l : List UInt8) : aN l ≤ l.length := by
  rcases Nat.eq_zero_or_pos (aN l) with q | q
  · omega
  · have := btl_in (aN_pos.1 q).2
    have := aN_le2 l
    omega
theorem aN_two {l : List UInt8} (h : 0 < aN l) : 2 ≤ l.length := by
  have := btl_in (aN_pos.1 h).2
  omega
theorem a_take {l : List UInt8} {m : Nat} (h : 2 ≤ m) : aN (l.take m) = aN l ∧ aB (l.take m) = aB l := by
  unfold aN aB
  rw [btl_take (by omega), btl_take (by omega)]
  exact ⟨rfl, rfl⟩
theorem aN_short {l : List UInt8} (h : l.length ≤ 1) : aN l = 0 := by
  rcases Nat.eq_zero_or_pos (aN l) with q | q
  · exact q
  · have := aN_two q; omega
theorem aN_take {l : List UInt8} {m : Nat} (h : aN l = 0) : aN (l.take m) = 0 := by
  rcases Nat.lt_or_ge m 2 with q | q
  · exact aN_short (by rw [List.length_take]; omega)
  · rw [(a_take q).1]; exact h

/-- Is a text in the grammar? -/
def inB (base : Nat) (l : List UInt8) : Bool :=
  if base ≠ 0 then decide (0 < l.length ∧ hdn base l = l.length)
  else decide (l = [48]) || (decide (0 < aN l ∨ (0 < l.length ∧ btl l 0 ≠ 48)) && (clean (aB l) (decide (0 < aN l)) (l.drop (aN l))).isSome)
theorem inB_base {base : Nat} (h : base ≠ 0) (l : List UInt8) : inB base l = decide (0 < l.length ∧ hdn base l = l.length) := by unfold inB; rw [if_pos h]
theorem inB_zero (l : List UInt8) : inB 0 l = (decide (l = [48]) || (decide (0 < aN l ∨ (0 < l.length ∧ btl l 0 ≠ 48)) && (clean (aB l) (decide (0 < aN l)) (l.drop (aN l))).isSome)) := by unfold inB; rw [if_neg (by simp)]
theorem inB_none {t : List UInt8} (h : aN t = 0) : inB 0 t = true ↔ 0 < t.length ∧ rch 10 false t = t.length := by
  rw [inB_zero, clean_rch, h, aB_ten h, List.drop_zero, show decide (0 < 0) = false by decide]
  by_cases z : t = [48]
  · subst z
    refine ⟨fun _ => by decide, fun _ => by simp⟩
  · rw [decide_eq_false z, Bool.false_or, Bool.and_eq_true, decide_eq_true_iff, decide_eq_true_iff]
    constructor
    · exact fun q => q.2
    · intro q
      refine ⟨Or.inr ⟨q.1, fun e => z ?_⟩, q⟩
      have h1 : ¬ btl t 1 < 256 := fun e' => by have := aN_pos.2 ⟨e, e'⟩; omega
      cases t with
      | nil => simp at q
      | cons c r =>
        cases r with
        | cons d r => exact absurd (btl_lt (l := c :: d :: r) (i := 1) (by simp)) h1
        | nil =>
          rw [btl_zero] at e
          rw [show c = 48 from UInt8.toNat_inj.1 e]
theorem inB_some {t : List UInt8} (h : 0 < aN t) : inB 0 t = true ↔ 0 < (t.drop (aN t)).length ∧ rch (aB t) true (t.drop (aN t)) = (t.drop (aN t)).length := by
  have z : t ≠ [48] := fun e => by
    have := aN_two h
    rw [e] at this; simp at this
  rw [inB_zero, clean_rch, decide_eq_false z, Bool.false_or, Bool.and_eq_true, decide_eq_true_iff, decide_eq_true_iff, decide_eq_true h]
  exact ⟨fun q => q.2, fun q => ⟨Or.inl h, q⟩⟩

/-- How far the longest begin goes: the base of its digits, how many bytes stand ahead, how many bytes it has. -/
def bgR (l : List UInt8) : Nat := rch (aB l) (decide (0 < aN l)) (l.drop (aN l))
def bgO (base : Nat) (l : List UInt8) : Nat := if base ≠ 0 then base else if 0 < aN l ∧ bgR l = 0 then 10 else aB l
def bgA (base : Nat) (l : List UInt8) : Nat := if base ≠ 0 then 0 else if 0 < aN l ∧ bgR l = 0 then 0 else aN l
def bgL (base : Nat) (l : List UInt8) : Nat := if base ≠ 0 then hdn base l else if 0 < aN l ∧ bgR l = 0 then 1 else aN l + bgR l
/-- What is so of it. -/
structure Begin (base : Nat) (l : List UInt8) : Prop where
  ld : bgL base l ≤ lead l
  yes : 0 < bgL base l → inB base (l.take (bgL base l)) = true
  no : ∀ m, bgL base l < m → m ≤ l.length → inB base (l.take m) = false
  same : base = 0 → 0 < bgL base l → bgO base l = aB (l.take (bgL base l)) ∧ bgA base l = aN (l.take (bgL base l))
  ahead : 0 < bgL base l → bgA base l ≤ bgL base l
  base2 : 2 ≤ bgO base l ∧ bgO base l ≤ 36
theorem Bool.not_true_false {b : Bool} (h : ¬ b = true) : b = false := by cases b <;> simp_all
theorem drop_lead {l : List UInt8} (h : 0 < aN l) : lead l = aN l + lead (l.drop (aN l)) := by
  obtain ⟨h1, h2⟩ := aN_pos.1 h
  cases l with
  | nil => simp [btl] at h1
  | cons c r =>
    cases r with
    | nil => simp [btl] at h2
    | cons d r =>
      rw [btl_zero] at h1
      rw [btl_one] at h2
      have hc : c = 48 := UInt8.toNat_inj.1 h1
      subst hc
      have k0 : lead (48 :: d :: r) = lead (d :: r) + 1 := lead_yes (by decide)
      have e : aN (48 :: d :: r) = if d.toNat = 98 ∨ d.toNat = 66 ∨ d.toNat = 111 ∨ d.toNat = 79 ∨ d.toNat = 120 ∨ d.toNat = 88 then 2 else 1 := by
        unfold aN pfN
        rw [btl_zero, btl_one, if_pos ⟨rfl, h2⟩]
        split <;> rfl
      by_cases q : d.toNat = 98 ∨ d.toNat = 66 ∨ d.toNat = 111 ∨ d.toNat = 79 ∨ d.toNat = 120 ∨ d.toNat = 88
      · rw [if_pos q] at e
        have k1 : lead (d :: r) = lead r + 1 := by
          refine lead_yes (decide_eq_true (Or.inr ?_))
          rcases q with q | q | q | q | q | q <;> rw [q] <;> decide
        rw [e, k0, k1]
        show _ = 2 + lead r
        omega
      · rw [if_neg q] at e
        rw [e, k0]
        show _ = 1 + lead (d :: r)
        omega
theorem begin_base {base : Nat} (h1 : 2 ≤ base) (h2 : base ≤ 36) (l : List UInt8) : Begin base l := by
  have z : base ≠ 0 := by omega
  have eL : bgL base l = hdn base l := by unfold bgL; rw [if_pos z]
  have eO : bgO base l = base := by unfold bgO; rw [if_pos z]
  have eA : bgA base l = 0 := by unfold bgA; rw [if_pos z]
  have hl := hdn_le base l
  refine ⟨by rw [eL]; exact hdn_lead h2 l, ?_, ?_, fun q => absurd q z, fun _ => by rw [eA]; omega, by rw [eO]; exact ⟨h1, h2⟩⟩
  · intro q
    rw [eL] at q ⊢
    rw [inB_base z, hdn_take_self, List.length_take, Nat.min_eq_left hl]
    exact decide_eq_true ⟨q, rfl⟩
  · intro m q hm
    rw [eL] at q
    rw [inB_base z, List.length_take, Nat.min_eq_left hm]
    refine decide_eq_false fun y => ?_
    have := hdn_take_le l m hm y.2
    omega
theorem begin_zero (l : List UInt8) : Begin 0 l := by
  have hb := aB_in l
  rcases Nat.eq_zero_or_pos (aN l) with hn | hn
  · have q : ¬ (0 < aN l ∧ bgR l = 0) := by omega
    have eR : bgR l = rch 10 false l := by unfold bgR; rw [aB_ten hn, hn, List.drop_zero]; rfl
    have eL : bgL 0 l = rch 10 false l := by unfold bgL; rw [if_neg (by simp), if_neg q, hn, eR]; omega
    have eO : bgO 0 l = 10 := by unfold bgO; rw [if_neg (by simp), if_neg q]; exact aB_ten hn
    have eA : bgA 0 l = 0 := by unfold bgA; rw [if_neg (by simp), if_neg q]; exact hn
    have hl := rch_le 10 l false
    refine ⟨by rw [eL]; exact rch_lead (by decide) l false, ?_, ?_, ?_, fun _ => by rw [eA]; omega, by rw [eO]; decide⟩
    · intro p
      rw [eL] at p ⊢
      rw [inB_none (aN_take hn), rch_take_self, List.length_take, Nat.min_eq_left hl]
      exact ⟨p, rfl⟩
    · intro m p hm
      rw [eL] at p
      refine Bool.not_true_false fun y => ?_
      rw [inB_none (aN_take hn), List.length_take, Nat.min_eq_left hm] at y
      have := rch_take_le l false m hm y.2
      omega
    · intro _ _
      rw [eO, eA, aN_take hn, aB_ten (aN_take hn)]
      exact ⟨rfl, rfl⟩
  · have h2 := aN_two hn
    have hlen := aN_len l
    have hn2 := aN_le2 l
    have eR : bgR l = rch (aB l) true (l.drop (aN l)) := by unfold bgR; rw [decide_eq_true hn]
    have hR := rch_le (aB l) (l.drop (aN l)) true
    rw [← eR, List.length_drop] at hR
    have key : ∀ m, 2 ≤ m → m ≤ l.length → inB 0 (l.take m) = true → 0 < m - aN l ∧ m - aN l ≤ bgR l := by
      intro m a c y
      rw [inB_some (by rw [(a_take a).1]; exact hn), (a_take a).1, (a_take a).2, List.drop_take, List.length_take, List.length_drop, Nat.min_eq_left (by omega)] at y
      refine ⟨y.1, ?_⟩
      rw [eR]
      exact rch_take_le _ true _ (by rw [List.length_drop]; omega) y.2
    have dl := drop_lead hn
    by_cases z : bgR l = 0
    · have q : 0 < aN l ∧ bgR l = 0 := ⟨hn, z⟩
      have eL : bgL 0 l = 1 := by unfold bgL; rw [if_neg (by simp), if_pos q]
      have eO : bgO 0 l = 10 := by unfold bgO; rw [if_neg (by simp), if_pos q]
      have eA : bgA 0 l = 0 := by unfold bgA; rw [if_neg (by simp), if_pos q]
      have e1 : l.take 1 = [48] := by
        have := (aN_pos.1 hn).1
        cases l with
        | nil => simp at h2
        | cons c r => rw [btl_zero] at this; rw [show c = 48 from UInt8.toNat_inj.1 this]; rfl
      refine ⟨by rw [eL]; omega, fun _ => by rw [eL, e1]; decide, ?_, ?_, fun _ => by rw [eA]; omega, by rw [eO]; decide⟩
      · intro m p hm
        rw [eL] at p
        refine Bool.not_true_false fun y => ?_
        have := key m (by omega) hm y
        omega
      · intro _ _
        rw [eO, eA, eL, e1]
        decide
    · have q : ¬ (0 < aN l ∧ bgR l = 0) := fun y => z y.2
      have eL : bgL 0 l = aN l + bgR l := by unfold bgL; rw [if_neg (by simp), if_neg q]
      have eO : bgO 0 l = aB l := by unfold bgO; rw [if_neg (by simp), if_neg q]
      have eA : bgA 0 l = aN l := by unfold bgA; rw [if_neg (by simp), if_neg q]
      have hL : 2 ≤ aN l + bgR l := by omega
      refine ⟨?_, ?_, ?_, ?_, fun _ => by rw [eA, eL]; omega, by rw [eO]; exact hb⟩
      · rw [eL, dl, eR]
        have := rch_lead hb.2 (l.drop (aN l)) true
        omega
      · intro _
        rw [eL, inB_some (by rw [(a_take hL).1]; exact hn), (a_take hL).1, (a_take hL).2, List.drop_take, List.length_take, List.length_drop, Nat.min_eq_left (by omega), Nat.add_sub_cancel_left]
        refine ⟨by omega, ?_⟩
        rw [eR]
        exact rch_take_self _ _
      · intro m p hm
        rw [eL] at p
        refine Bool.not_true_false fun y => ?_
        have := key m (by omega) hm y
        omega
      · intro _ _
        rw [eO, eA, eL, (a_take hL).1, (a_take hL).2]
        exact ⟨rfl, rfl⟩
/-- May a base be read? -/
def readB (base : Nat) : Prop := base = 0 ∨ (2 ≤ base ∧ base ≤ 36)
theorem begin_any {base : Nat} (h : readB base) (l : List UInt8) : Begin base l := by
  rcases h with h | h
  · subst h; exact begin_zero l
  · exact begin_base h.1 h.2 l
theorem Begin.le {base : Nat} {l : List UInt8} (h : Begin base l) : bgL base l ≤ l.length := Nat.le_trans h.ld (lead_le l)
theorem inB_nil (base : Nat) : inB base [] = false := by
  by_cases h : base = 0
  · subst h; decide
  · rw [inB_base h]; rfl
theorem Begin.whole {base : Nat} {l : List UInt8} (h : Begin base l) : inB base l = decide (0 < bgL base l ∧ bgL base l = l.length) := by
  have hl := h.le
  rcases Nat.lt_or_ge (bgL base l) l.length with q | q
  · rw [decide_eq_false (by omega)]
    have := h.no l.length q (Nat.le_refl _)
    rw [List.take_length] at this
    exact this
  · have e : bgL base l = l.length := by omega
    rcases Nat.eq_zero_or_pos l.length with z | z
    · rw [decide_eq_false (by omega), List.length_eq_zero_iff.1 z]
      exact inB_nil base
    · rw [decide_eq_true ⟨by omega, e⟩]
      have := h.yes (by omega)
      rw [e, List.take_length] at this
      exact this
/-- The one that is the longest. -/
theorem Begin.uniq {base : Nat} {l : List UInt8} (h : Begin base l) {n : Nat} (h1 : ∀ m, n < m → m ≤ lead l → inB base (l.take m) = false) (h2 : n ≤ lead l) (h3 : n = 0 ∨ inB base (l.take n) = true) : n = bgL base l := by
  have hL := h.ld
  have hll := lead_le l
  rcases Nat.lt_trichotomy n (bgL base l) with q | q | q
  · have := h1 _ q hL
    rw [h.yes (by omega)] at this
    cases this
  · exact q
  · rcases h3 with z | z
    · omega
    · have := h.no n q (by omega)
      rw [z] at this
      cases this
theorem lead_ok : ∀ (l : List UInt8) (k : Nat), k ≤ lead l → ∀ c ∈ l.take k, okc c = true
  | [], k, h, c, hc => by simp at hc
  | x :: r, 0, _, c, hc => by simp at hc
  | x :: r, k + 1, h, c, hc => by
    by_cases q : okc x = true
    · rw [lead_yes q] at h
      rw [List.take_succ_cons] at hc
      rcases List.mem_cons.1 hc with rfl | z
      · exact q
      · exact lead_ok r k (by omega) c z
    · rw [lead_no (by simpa using q)] at h; omega
end Go.Proofs.YtjgdbphhhplifaaDoor
