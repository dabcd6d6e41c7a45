/-
  Digits, bases, and texts without underscores, as lists of bytes: no program in sight.
-/
namespace Go.Proofs.YtjgdbphhhplifaaDoor

/-- A byte's value as a digit; 36: none. -/
def dv (c : Nat) : Nat := if 48 ≤ c ∧ c ≤ 57 then c - 48 else if 97 ≤ c ∧ c ≤ 122 then c - 87 else if 65 ≤ c ∧ c ≤ 90 then c - 55 else 36
/-- The digit of a value. -/
def dgc (n : Nat) : Nat := if n < 10 then 48 + n else 87 + n
theorem dv_le (c : Nat) : dv c ≤ 36 := by unfold dv; split <;> (try split) <;> (try split) <;> omega
theorem dgc_dv (c : Nat) (h : dv c < 36) : dgc (dv c) = c ∨ (65 ≤ c ∧ c ≤ 90 ∧ dgc (dv c) = c + 32) := by
  unfold dv at *
  by_cases a : 48 ≤ c ∧ c ≤ 57
  · rw [if_pos a]; unfold dgc; rw [if_pos (by omega)]; omega
  · rw [if_neg a] at *
    by_cases b : 97 ≤ c ∧ c ≤ 122
    · rw [if_pos b]; unfold dgc; rw [if_neg (by omega)]; omega
    · rw [if_neg b] at *
      by_cases d : 65 ≤ c ∧ c ≤ 90
      · rw [if_pos d]; unfold dgc; rw [if_neg (by omega)]; omega
      · rw [if_neg d] at h; omega
/-- Is a byte a digit of a base? -/
def isD (b : Nat) (c : UInt8) : Bool := decide (dv c.toNat < b)
/-- Is a number a base? -/
def baseB (b : Int) : Bool := decide (2 ≤ b ∧ b ≤ 36)
/-- A digit's value; whether it is one. -/
def vN (c : Nat) : Int := if dv c < 36 then (dv c : Int) else 0
def vB (c : Nat) : Bool := decide (dv c < 36)
/-- The digit of a number; whether there is one. -/
def gN (n : Int) : Int := if 0 ≤ n ∧ n < 36 then (dgc n.toNat : Int) else 0
def gB (n : Int) : Bool := decide (0 ≤ n ∧ n < 36)
theorem isD_bar (b : Nat) (h : b ≤ 36) : isD b 95 = false := by
  unfold isD
  rw [show dv (95 : UInt8).toNat = 36 by decide]
  exact decide_eq_false (by omega)

/-- The byte at a place; 256: there is none. -/
def bt (s : ByteArray) (i : Nat) : Nat := if h : i < s.size then (s[i]'h).toNat else 256
theorem bt_in {s : ByteArray} {i : Nat} (h : i < s.size) : bt s i = (s[i]'h).toNat := by unfold bt; rw [dif_pos h]
theorem bt_out {s : ByteArray} {i : Nat} (h : ¬ i < s.size) : bt s i = 256 := by unfold bt; rw [dif_neg h]
/-- A prefix's base and length, of a text's first two bytes. -/
def pfB (x y : Nat) : Int := if x = 48 ∧ y < 256 then (if y = 98 ∨ y = 66 then 2 else if y = 120 ∨ y = 88 then 16 else 8) else 10
def pfN (x y : Nat) : Int := if x = 48 ∧ y < 256 then (if y = 98 ∨ y = 66 ∨ y = 111 ∨ y = 79 ∨ y = 120 ∨ y = 88 then 2 else 1) else 0

/-- Is the first byte a digit? -/
def hdD (b : Nat) : List UInt8 → Bool
  | [] => false
  | d :: _ => isD b d
/-- The bytes without underscores (j: one may stand at the begin); none: they break a rule. -/
def cgo (b : Nat) : Bool → List UInt8 → Option (List UInt8)
  | _, [] => some []
  | j, c :: r => if isD b c = true then (cgo b true r).map (c :: ·) else if c = 95 ∧ j = true ∧ hdD b r = true then cgo b false r else none
/-- The digits without underscores; none: there is no digit, or they break a rule. -/
def clean (b : Nat) (pre : Bool) (l : List UInt8) : Option (List UInt8) :=
  match cgo b pre l with
  | some (x :: r) => some (x :: r)
  | _ => none
theorem clean_some {b : Nat} {pre : Bool} {l o : List UInt8} (h : cgo b pre l = some o) (ho : o ≠ []) : clean b pre l = some o := by
  unfold clean; rw [h]
  cases o with
  | nil => exact absurd rfl ho
  | cons x r => rfl
theorem clean_nil {b : Nat} {pre : Bool} {l : List UInt8} (h : cgo b pre l = some []) : clean b pre l = none := by unfold clean; rw [h]
theorem clean_none {b : Nat} {pre : Bool} {l : List UInt8} (h : cgo b pre l = none) : clean b pre l = none := by unfold clean; rw [h]
theorem cgo_digit {b : Nat} {j : Bool} {c : UInt8} {r : List UInt8} (h : isD b c = true) : cgo b j (c :: r) = (cgo b true r).map (c :: ·) := by
  show (if _ then _ else _) = _; rw [if_pos h]
theorem cgo_bar {b : Nat} {c : UInt8} {r : List UInt8} (h : isD b c = false) (h1 : c = 95) (h2 : hdD b r = true) : cgo b true (c :: r) = cgo b false r := by
  show (if _ then _ else _) = _; rw [if_neg (by rw [h]; decide), if_pos ⟨h1, rfl, h2⟩]
theorem cgo_bad {b : Nat} {j : Bool} {c : UInt8} {r : List UInt8} (h : isD b c = false) (h1 : ¬ (c = 95 ∧ j = true ∧ hdD b r = true)) : cgo b j (c :: r) = none := by
  show (if _ then _ else _) = _; rw [if_neg (by rw [h]; decide), if_neg h1]
/-- What is still to come behind an underscore (p), or else. -/
def cG (b : Nat) (p j : Bool) (r : List UInt8) : Option (List UInt8) := if p = true then (if hdD b r = true then cgo b false r else none) else cgo b j r
theorem cG_start (b : Nat) (j : Bool) (r : List UInt8) : cG b false j r = cgo b j r := rfl
theorem cG_digit {b : Nat} {p j : Bool} {c : UInt8} {r : List UInt8} (h : isD b c = true) : cG b p j (c :: r) = (cG b false true r).map (c :: ·) := by
  cases p with
  | false => exact cgo_digit h
  | true => show (if isD b c = true then _ else _) = _; rw [if_pos h]; exact cgo_digit h
theorem cG_bar {b : Nat} {c : UInt8} {r : List UInt8} (h : isD b c = false) (h1 : c = 95) : cG b false true (c :: r) = cG b true false r := by
  show cgo b true (c :: r) = if hdD b r = true then cgo b false r else none
  by_cases q : hdD b r = true
  · rw [if_pos q]; exact cgo_bar h h1 q
  · rw [if_neg q]; exact cgo_bad h (fun z => q z.2.2)
theorem cG_bad {b : Nat} {p j : Bool} {c : UInt8} {r : List UInt8} (h : isD b c = false) (h1 : ¬ (c = 95 ∧ j = true)) : cG b p j (c :: r) = none := by
  cases p with
  | false => exact cgo_bad h (fun z => h1 ⟨z.1, z.2.1⟩)
  | true => show (if isD b c = true then _ else _) = _; rw [if_neg (by rw [h]; decide)]
theorem map_step {m : Option (List UInt8)} {x : Option (List UInt8)} {o : List UInt8} {c : UInt8} (h : m = ((x.map (c :: ·)).map (o ++ ·))) : m = x.map ((o ++ [c]) ++ ·) := by
  rw [h]; cases x with
  | none => rfl
  | some y => simp

/-- What is clean: of digits alone, and cleaned again it is the same. -/
theorem cgo_all {b : Nat} : ∀ (l : List UInt8) (j : Bool) (o : List UInt8), cgo b j l = some o → (∀ c ∈ o, isD b c = true) ∧ o.length + l.countP (· == 95) = l.length + o.countP (· == 95)
  | [], _, o, h => by
    have : o = [] := by simpa [cgo] using h.symm
    subst this; simp
  | c :: r, j, o, h => by
    by_cases q : isD b c = true
    · rw [cgo_digit q] at h
      obtain ⟨o', e, rfl⟩ := Option.map_eq_some_iff.1 h
      have ih := cgo_all r true o' e
      refine ⟨fun x hx => ?_, ?_⟩
      · rcases List.mem_cons.1 hx with rfl | hx
        · exact q
        · exact ih.1 x hx
      · have := ih.2
        by_cases z : c = 95
        · subst z; simp; omega
        · simp [z]; omega
    · have q' : isD b c = false := by simpa using q
      by_cases z : c = 95 ∧ j = true ∧ hdD b r = true
      · obtain ⟨z1, z2, z3⟩ := z
        subst z2
        rw [cgo_bar q' z1 z3] at h
        have ih := cgo_all r false o h
        refine ⟨ih.1, ?_⟩
        have := ih.2
        subst z1; simp; omega
      · rw [cgo_bad q' z] at h; cases h
theorem clean_is {b : Nat} {j : Bool} {l o : List UInt8} (h : clean b j l = some o) : cgo b j l = some o ∧ o ≠ [] := by
  unfold clean at h
  split at h
  · next x r e => cases h; exact ⟨e, by simp⟩
  · cases h
theorem cgo_self {b : Nat} : ∀ (o : List UInt8) (j : Bool), (∀ c ∈ o, isD b c = true) → cgo b j o = some o
  | [], _, _ => rfl
  | c :: r, j, h => by
    rw [cgo_digit (h c (by simp)), cgo_self r true (fun x hx => h x (by simp [hx]))]; rfl
theorem clean_again {b : Nat} {j i : Bool} {l o : List UInt8} (h : clean b j l = some o) : clean b i o = some o := by
  obtain ⟨h1, h2⟩ := clean_is h
  exact clean_some (cgo_self o i (cgo_all l j o h1).1) h2
theorem no_bar {b : Nat} (hb : b ≤ 36) : ∀ (o : List UInt8), (∀ c ∈ o, isD b c = true) → o.countP (· == 95) = 0 := by
  intro o h
  rw [List.countP_eq_zero]
  intro c hc z
  have z' : c = 95 := by simpa using z
  have := h c hc
  rw [z', isD_bar b hb] at this
  cases this
theorem clean_len {b : Nat} (hb : b ≤ 36) {j : Bool} {l o : List UInt8} (h : clean b j l = some o) : o.length + l.countP (· == 95) = l.length ∧ 0 < o.length := by
  obtain ⟨h1, h2⟩ := clean_is h
  have q := cgo_all l j o h1
  have := no_bar hb o q.1
  have := q.2
  have : o.length ≠ 0 := fun z => h2 (List.length_eq_zero_iff.mp z)
  omega

/-- How many bytes at the begin are digits. -/
def hdn (b : Nat) : List UInt8 → Nat
  | [] => 0
  | c :: r => if isD b c = true then hdn b r + 1 else 0
theorem hdn_yes {b : Nat} {c : UInt8} {r : List UInt8} (h : isD b c = true) : hdn b (c :: r) = hdn b r + 1 := by show (if _ then _ else _) = _; rw [if_pos h]
theorem hdn_no {b : Nat} {c : UInt8} {r : List UInt8} (h : isD b c = false) : hdn b (c :: r) = 0 := by show (if _ then _ else _) = _; rw [if_neg (by rw [h]; decide)]
theorem hdn_all {b : Nat} : ∀ (o : List UInt8), (∀ c ∈ o, isD b c = true) → hdn b o = o.length
  | [], _ => rfl
  | c :: r, h => by rw [hdn_yes (h c (by simp)), hdn_all r (fun x hx => h x (by simp [hx]))]; rfl
theorem hdn_clean {b : Nat} {j : Bool} {l o : List UInt8} (h : clean b j l = some o) : hdn b o = o.length := hdn_all o (cgo_all l j o (clean_is h).1).1

theorem drop_at (s : ByteArray) {k : Nat} (h : k < s.size) : s.data.toList.drop k = (s[k]'h) :: s.data.toList.drop (k + 1) := by
  have hl : k < s.data.toList.length := by simpa using h
  rw [List.drop_eq_getElem_cons hl]; rfl
theorem drop_end (s : ByteArray) {k : Nat} (h : ¬ k < s.size) : s.data.toList.drop k = [] := List.drop_eq_nil_of_le (by simpa using (show s.size ≤ k by omega))

/-- So many digits has a number in a base. -/
def DLen (b x K : Nat) : Prop := 1 ≤ K ∧ (x = 0 → K = 1) ∧ (x ≠ 0 → b ^ (K - 1) ≤ x) ∧ x < b ^ K
theorem DLen.uniq {b x K L : Nat} (hb : 2 ≤ b) (h : DLen b x K) (h' : DLen b x L) : K = L := by
  by_cases q : x = 0
  · rw [h.2.1 q, h'.2.1 q]
  · have a := h.2.2.1 q
    have a' := h'.2.2.1 q
    have c := h.2.2.2
    have c' := h'.2.2.2
    have k1 := h.1
    have l1 := h'.1
    rcases Nat.lt_trichotomy K L with z | z | z
    · have := Nat.pow_le_pow_right (show 0 < b by omega) (show K ≤ L - 1 by omega); omega
    · exact z
    · have := Nat.pow_le_pow_right (show 0 < b by omega) (show L ≤ K - 1 by omega); omega
theorem two_le {b : Nat} (hb : 2 ≤ b) (n : Nat) : 2 ^ n ≤ b ^ n := Nat.pow_le_pow_left hb n
theorem pow64 : (2 : Nat) ^ 64 = 18446744073709551616 := by decide
theorem exp_lt {b n : Nat} (hb : 2 ≤ b) (h : b ^ n < 18446744073709551616) : n < 64 := by
  rcases Nat.lt_or_ge n 64 with q | q
  · exact q
  · have a := Nat.pow_le_pow_right (show 0 < 2 by omega) q
    have c := two_le hb n
    rw [pow64] at a
    omega
theorem DLen.le64 {b x K : Nat} (hb : 2 ≤ b) (hx : x < 18446744073709551616) (h : DLen b x K) : K ≤ 64 := by
  by_cases q : x = 0
  · rw [h.2.1 q]; omega
  · have a := h.2.2.1 q
    have := exp_lt hb (Nat.lt_of_le_of_lt a hx)
    omega
/-- The greatest power below 2^64. -/
def PMost (b K : Nat) : Prop := 1 ≤ K ∧ b ^ K < 18446744073709551616 ∧ 18446744073709551616 ≤ b ^ (K + 1)
theorem PMost.uniq {b K L : Nat} (hb : 2 ≤ b) (h : PMost b K) (h' : PMost b L) : K = L := by
  obtain ⟨_, a, c⟩ := h
  obtain ⟨_, a', c'⟩ := h'
  rcases Nat.lt_trichotomy K L with z | z | z
  · have := Nat.pow_le_pow_right (show 0 < b by omega) (show K + 1 ≤ L by omega); omega
  · exact z
  · have := Nat.pow_le_pow_right (show 0 < b by omega) (show L + 1 ≤ K by omega); omega
theorem PMost.le63 {b K : Nat} (hb : 2 ≤ b) (h : PMost b K) : K ≤ 63 := by have := exp_lt hb h.2.1; omega

end Go.Proofs.YtjgdbphhhplifaaDoor
