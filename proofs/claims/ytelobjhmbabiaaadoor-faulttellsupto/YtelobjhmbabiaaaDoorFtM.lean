/-
  Texts told on one line, as lists of bytes: what each byte is told as; that what is told is undone in one way alone.
-/
namespace Go.Proofs.YtelobjhmbabiaaaDoor

def hx (d : UInt8) : UInt8 := if d < 10 then 48 + d else 87 + d
def plainB (c : UInt8) : Bool := decide (32 ≤ c) && decide (c ≤ 126)
def specB (c : UInt8) : Bool := decide (c = 34) || decide (c = 92)
/-- What a byte is told as. -/
def esc (c : UInt8) : List UInt8 := if plainB c then (if specB c then [92, c] else [c]) else [92, 120, hx (c >>> 4), hx (c &&& 15)]
/-- What a text is told as. -/
def qIn (l : List UInt8) : List UInt8 := l.flatMap esc
def qL (l : List UInt8) : List UInt8 := 34 :: (qIn l ++ [34])

/-- A digit's value. -/
def uh (c : UInt8) : UInt8 := if c < 58 then c - 48 else c - 87
theorem all8 {p : UInt8 → Prop} (h : ∀ n : Fin 256, p (UInt8.ofNat n.val)) (c : UInt8) : p c := by
  have := h ⟨c.toNat, c.toNat_lt⟩
  simpa using this
theorem hx_back (c : UInt8) : (uh (hx (c >>> 4)) <<< 4) ||| uh (hx (c &&& 15)) = c := by
  revert c; refine all8 ?_; decide +kernel
/-- The byte that is told first, and in how many bytes. -/
def fstT : List UInt8 → Option (UInt8 × Nat)
  | 92 :: 120 :: a :: b :: _ => some ((uh a <<< 4) ||| uh b, 4)
  | 92 :: d :: _ => some (d, 2)
  | c :: _ => some (c, 1)
  | [] => none
theorem esc_cases (c : UInt8) : (plainB c = true ∧ specB c = false ∧ esc c = [c] ∧ c ≠ 92) ∨ (plainB c = true ∧ specB c = true ∧ esc c = [92, c] ∧ c ≠ 120) ∨ (plainB c = false ∧ esc c = [92, 120, hx (c >>> 4), hx (c &&& 15)]) := by
  unfold esc
  cases p : plainB c
  · exact Or.inr (Or.inr ⟨rfl, by simp⟩)
  · cases q : specB c
    · refine Or.inl ⟨rfl, rfl, by simp, ?_⟩
      rintro rfl; revert q; decide
    · refine Or.inr (Or.inl ⟨rfl, rfl, by simp, ?_⟩)
      rintro rfl; revert q; decide
theorem fstT_esc (c : UInt8) (r : List UInt8) : fstT (esc c ++ r) = some (c, (esc c).length) := by
  rcases esc_cases c with ⟨_, _, e, n⟩ | ⟨_, _, e, n⟩ | ⟨_, e⟩
  · rw [e]
    simp only [List.cons_append, List.nil_append, List.length_cons, List.length_nil]
    unfold fstT
    split
    · rename_i h; exact absurd (List.cons.inj h).1 n
    · rename_i h; exact absurd (List.cons.inj h).1 n
    · rename_i h; rw [(List.cons.inj h).1]
    · rename_i h; cases h
  · rw [e]
    simp only [List.cons_append, List.nil_append, List.length_cons, List.length_nil]
    unfold fstT
    split
    · rename_i h; exact absurd (List.cons.inj (List.cons.inj h).2).1 n
    · rename_i h; rw [(List.cons.inj (List.cons.inj h).2).1]
    · rename_i h1 h2 h3 h4; exact (h3 c r (List.cons.inj h4).1.symm (List.cons.inj h4).2.symm).elim
    · rename_i h; cases h
  · rw [e]
    simp only [List.cons_append, List.nil_append, List.length_cons, List.length_nil]
    have : fstT (92 :: 120 :: hx (c >>> 4) :: hx (c &&& 15) :: r) = some ((uh (hx (c >>> 4)) <<< 4) ||| uh (hx (c &&& 15)), 4) := rfl
    rw [this, hx_back]
theorem esc_pos (c : UInt8) : 0 < (esc c).length := by
  rcases esc_cases c with ⟨_, _, e, _⟩ | ⟨_, _, e, _⟩ | ⟨_, e⟩ <;> rw [e] <;> simp
theorem esc_le (c : UInt8) : (esc c).length ≤ 4 := by
  rcases esc_cases c with ⟨_, _, e, _⟩ | ⟨_, _, e, _⟩ | ⟨_, e⟩ <;> rw [e] <;> simp
theorem esc_inj {a b : UInt8} {x y : List UInt8} (h : esc a ++ x = esc b ++ y) : a = b ∧ x = y := by
  have h1 := fstT_esc a x
  rw [h, fstT_esc b y] at h1
  have e : b = a := (Prod.mk.inj (Option.some.inj h1)).1
  subst e
  exact ⟨rfl, List.append_cancel_left h⟩
theorem qIn_nil : qIn [] = [] := rfl
theorem qIn_cons (c : UInt8) (l : List UInt8) : qIn (c :: l) = esc c ++ qIn l := by simp [qIn]
theorem qIn_append (a b : List UInt8) : qIn (a ++ b) = qIn a ++ qIn b := by simp [qIn]
theorem qIn_one (c : UInt8) : qIn [c] = esc c := by simp [qIn]
theorem qIn_length_ge (l : List UInt8) : l.length ≤ (qIn l).length := by
  induction l with
  | nil => simp [qIn]
  | cons c l ih => rw [qIn_cons]; have := esc_pos c; simp only [List.length_append, List.length_cons]; omega
theorem qIn_length_le (l : List UInt8) : (qIn l).length ≤ 4 * l.length := by
  induction l with
  | nil => simp [qIn]
  | cons c l ih => rw [qIn_cons]; have := esc_le c; simp only [List.length_append, List.length_cons]; omega
theorem qIn_split {b : List UInt8} {r t : List UInt8} (h : qIn b ++ r = qIn t) : ∃ t', t = b ++ t' ∧ r = qIn t' := by
  induction b generalizing t with
  | nil => exact ⟨t, rfl, by simpa [qIn] using h⟩
  | cons c b ih =>
    cases t with
    | nil =>
      rw [qIn_cons] at h
      have := esc_pos c
      have e := congrArg List.length h
      simp [qIn_nil] at e
      rw [e.1] at this; simp at this
    | cons d t =>
      rw [qIn_cons, qIn_cons, List.append_assoc] at h
      obtain ⟨rfl, h2⟩ := esc_inj h
      obtain ⟨t', rfl, e⟩ := ih h2
      exact ⟨t', rfl, e⟩
theorem qIn_inj {a b : List UInt8} (h : qIn a = qIn b) : a = b := by
  obtain ⟨t, e1, e2⟩ := qIn_split (b := a) (r := []) (t := b) (by simpa using h)
  cases t with
  | nil => simpa using e1.symm
  | cons c t => rw [qIn_cons] at e2; have := esc_pos c; have e := congrArg List.length e2; simp only [List.length_append, List.length_nil] at e; omega
theorem qL_inj {a b : List UInt8} (h : qL a = qL b) : a = b := by
  unfold qL at h
  exact qIn_inj (List.append_cancel_right (List.cons.inj h).2)
/-- The head of what is told. -/
theorem qIn_head {r : List UInt8} {t : List UInt8} (h : r = qIn t) (h0 : r ≠ []) : ∃ c t', t = c :: t' ∧ r = esc c ++ qIn t' := by
  cases t with
  | nil => exact absurd h h0
  | cons c t => exact ⟨c, t, rfl, by rw [h, qIn_cons]⟩
/-- Every byte of what is told is plain. -/
theorem esc_plain (c : UInt8) : ∀ x ∈ esc c, 32 ≤ x ∧ x ≤ 126 := by
  revert c; refine all8 ?_; decide +kernel
theorem qL_plain (l : List UInt8) : ∀ x ∈ qL l, 32 ≤ x ∧ x ≤ 126 := by
  intro x hx
  unfold qL qIn at hx
  simp only [List.mem_cons, List.mem_append, List.mem_flatMap, List.not_mem_nil, or_false] at hx
  rcases hx with rfl | ⟨c, _, h⟩ | rfl
  · decide
  · exact esc_plain c x h
  · decide
end Go.Proofs.YtelobjhmbabiaaaDoor
