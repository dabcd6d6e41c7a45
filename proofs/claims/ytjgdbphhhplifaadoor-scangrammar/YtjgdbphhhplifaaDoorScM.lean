/-
  The parts of a text of a float, as lists of bytes: runs of digits, mantissas, exponents, decimals, hexadecimals, the longest begin: no program in sight.
-/
import Derived.Test.YtjgdbphhhplifaaDoorUiM
namespace Go.Proofs.YtjgdbphhhplifaaDoor

/-- A text, of its bytes. -/
def bl (l : List UInt8) : ByteArray := ⟨l.toArray⟩
theorem bl_size (l : List UInt8) : (bl l).size = l.length := rfl
theorem bl_list (l : List UInt8) : (bl l).data.toList = l := rfl
theorem bl_of (s : ByteArray) : bl s.data.toList = s := rfl
theorem bl_at {l : List UInt8} {k : Nat} (h : k < l.length) (h' : k < (bl l).size) : (bl l)[k]'h' = l[k]'h := rfl
theorem bl_ext (l : List UInt8) (a b : Nat) : (bl l).extract a b = bl ((l.take b).drop a) := by
  apply ByteArray.ext
  rw [ByteArray.data_extract]
  apply Array.toList_inj.1
  show ((l.toArray).extract a b).toList = _
  rw [Array.toList_extract]
  show (l.drop a).take (b - a) = (l.take b).drop a
  rw [List.drop_take]
theorem bl_from (l : List UInt8) (a : Nat) : (bl l).extract a (bl l).size = bl (l.drop a) := by
  rw [bl_ext, bl_size, List.take_length]
theorem bl_to (l : List UInt8) (b : Nat) : (bl l).extract 0 b = bl (l.take b) := by
  rw [bl_ext, List.drop_zero]
theorem bl_inj {l m : List UInt8} (h : bl l = bl m) : l = m := congrArg (fun s => s.data.toList) h

/-- A letter made small. -/
def sml (c : UInt8) : UInt8 := if 65 ≤ c.toNat ∧ c.toNat ≤ 90 then c + 32 else c
/-- Does a word stand at the begin, letters small or great? -/
def wdB : List UInt8 → List UInt8 → Bool
  | [], _ => true
  | _ :: _, [] => false
  | d :: t, c :: r => (sml c == d) && wdB t r
/-- The first byte; 256: there is none. -/
def hdC : List UInt8 → Nat
  | [] => 256
  | c :: _ => c.toNat

/-- The digits of a run. -/
def rdg (b : Nat) : Bool → List UInt8 → List UInt8
  | _, [] => []
  | j, c :: r => if isD b c = true then c :: rdg b true r else if c = 95 ∧ j = true ∧ hdD b r = true then rdg b false r else []
theorem rdg_digit {b : Nat} {j : Bool} {c : UInt8} {r : List UInt8} (h : isD b c = true) : rdg b j (c :: r) = c :: rdg b true r := by
  show (if _ then _ else _) = _; rw [if_pos h]
theorem rdg_bar {b : Nat} {j : Bool} {c : UInt8} {r : List UInt8} (h : isD b c = false) (h1 : c = 95) (hj : j = true) (h2 : hdD b r = true) : rdg b j (c :: r) = rdg b false r := by
  show (if _ then _ else _) = _; rw [if_neg (by rw [h]; decide), if_pos ⟨h1, hj, h2⟩]
theorem rdg_bad {b : Nat} {j : Bool} {c : UInt8} {r : List UInt8} (h : isD b c = false) (h1 : ¬ (c = 95 ∧ j = true ∧ hdD b r = true)) : rdg b j (c :: r) = [] := by
  show (if _ then _ else _) = _; rw [if_neg (by rw [h]; decide), if_neg h1]
theorem rdg_hd {b : Nat} {j : Bool} {l : List UInt8} (h : hdD b l = true) : rdg b j l ≠ [] := by
  cases l with
  | nil => cases h
  | cons c r => rw [rdg_digit h]; simp
theorem rdg_nil {b : Nat} {j : Bool} {l : List UInt8} : rdg b j l = [] ↔ rch b j l = 0 := by
  cases l with
  | nil => exact ⟨fun _ => rfl, fun _ => rfl⟩
  | cons c r =>
    by_cases q : isD b c = true
    · rw [rdg_digit q, rch_digit q]; simp
    · have q' : isD b c = false := by simpa using q
      by_cases z : c = 95 ∧ j = true ∧ hdD b r = true
      · rw [rdg_bar q' z.1 z.2.1 z.2.2, rch_bar q' z.1 z.2.1 z.2.2]
        have := rdg_hd (j := false) z.2.2
        constructor
        · intro h; exact absurd h this
        · intro h; omega
      · rw [rdg_bad q' z, rch_bad q' z]; simp
theorem rdg_mem {b : Nat} : ∀ (l : List UInt8) (j : Bool) (c : UInt8), c ∈ rdg b j l → isD b c = true
  | [], _, _, h => by cases h
  | x :: r, j, c, h => by
    by_cases q : isD b x = true
    · rw [rdg_digit q] at h
      rcases List.mem_cons.1 h with z | z
      · rw [z]; exact q
      · exact rdg_mem r true c z
    · have q' : isD b x = false := by simpa using q
      by_cases z : x = 95 ∧ j = true ∧ hdD b r = true
      · rw [rdg_bar q' z.1 z.2.1 z.2.2] at h
        exact rdg_mem r false c h
      · rw [rdg_bad q' z] at h; cases h
theorem rdg_cgo {b : Nat} : ∀ (l : List UInt8) (j : Bool), cgo b j (l.take (rch b j l)) = some (rdg b j l)
  | [], _ => rfl
  | c :: r, j => by
    by_cases q : isD b c = true
    · rw [rch_digit q, List.take_succ_cons, cgo_digit q, rdg_cgo r true, rdg_digit q]; rfl
    · have q' : isD b c = false := by simpa using q
      by_cases z : c = 95 ∧ j = true ∧ hdD b r = true
      · have hz := hdD_take' (rch_hd (j := false) z.2.2) z.2.2
        rw [rch_bar q' z.1 z.2.1 z.2.2, List.take_succ_cons, z.2.1, cgo_bar q' z.1 hz, rdg_cgo r false, rdg_bar q' z.1 rfl z.2.2]
      · rw [rch_bad q' z, rdg_bad q' z]; rfl
theorem rdg_len {b : Nat} : ∀ (l : List UInt8) (j : Bool), (rdg b j l).length ≤ rch b j l
  | [], _ => Nat.le_refl _
  | c :: r, j => by
    by_cases q : isD b c = true
    · rw [rch_digit q, rdg_digit q]; have := rdg_len (b := b) r true; simp; omega
    · have q' : isD b c = false := by simpa using q
      by_cases z : c = 95 ∧ j = true ∧ hdD b r = true
      · rw [rch_bar q' z.1 z.2.1 z.2.2, rdg_bar q' z.1 z.2.1 z.2.2]; have := rdg_len (b := b) r false; omega
      · rw [rch_bad q' z, rdg_bad q' z]; exact Nat.le_refl _
/-- What Clean answers of a run. -/
theorem clean_run {b : Nat} {l : List UInt8} : clean b false (l.take (rch b false l)) = if rch b false l = 0 then none else some (rdg b false l) := by
  by_cases h : rch b false l = 0
  · rw [if_pos h, h, List.take_zero]; rfl
  · rw [if_neg h]
    exact clean_some (rdg_cgo l false) (fun z => h (rdg_nil.1 z))
/-- A run by its first digits. -/
theorem rch_hdn {b : Nat} : ∀ (l : List UInt8) (j : Bool), 0 < hdn b l → rch b j l = hdn b l + rch b true (l.drop (hdn b l))
  | [], _, h => absurd h (by simp [hdn])
  | c :: r, j, h => by
    by_cases q : isD b c = true
    · rw [hdn_yes q, rch_digit q, List.drop_succ_cons]
      by_cases z : hdn b r = 0
      · rw [z, List.drop_zero]; omega
      · have := rch_hdn (b := b) r true (by omega)
        omega
    · rw [hdn_no (by simpa using q)] at h; omega
theorem rch_zero {b : Nat} {l : List UInt8} (h : hdn b l = 0) : rch b false l = 0 := by
  cases l with
  | nil => rfl
  | cons c r =>
    by_cases q : isD b c = true
    · rw [hdn_yes q] at h; omega
    · exact rch_bad (by simpa using q) (fun z => by cases z.2.1)
theorem hdn_pos {b : Nat} {l : List UInt8} : hdD b l = true ↔ 0 < hdn b l := by
  cases l with
  | nil => simp [hdD, hdn]
  | cons c r =>
    by_cases q : isD b c = true
    · rw [hdn_yes q]; exact ⟨fun _ => by omega, fun _ => q⟩
    · have q' : isD b c = false := by simpa using q
      rw [hdn_no q']
      constructor
      · intro h; rw [show hdD b (c :: r) = isD b c from rfl, q'] at h; cases h
      · intro h; omega
theorem hdn_stop {b : Nat} : ∀ (l : List UInt8), hdD b (l.drop (hdn b l)) = false
  | [] => rfl
  | c :: r => by
    by_cases q : isD b c = true
    · rw [hdn_yes q, List.drop_succ_cons]; exact hdn_stop r
    · have q' : isD b c = false := by simpa using q
      rw [hdn_no q', List.drop_zero]; exact q'
/-- An underscore at the begin of a run that may have one. -/
theorem rch_free {b : Nat} (hb : b ≤ 36) {l : List UInt8} : rch b true l = if hdC l = 95 ∧ hdD b l.tail = true then rch b false l.tail + 1 else rch b false l := by
  cases l with
  | nil => rfl
  | cons c r =>
    by_cases q : isD b c = true
    · have : ¬ (hdC (c :: r) = 95 ∧ hdD b (c :: r).tail = true) := by
        rintro ⟨h, _⟩
        have : c = 95 := UInt8.toNat_inj.1 h
        rw [this, isD_bar b hb] at q; cases q
      rw [if_neg this, rch_digit q, rch_digit q]
    · have q' : isD b c = false := by simpa using q
      by_cases z : c = 95 ∧ hdD b r = true
      · rw [if_pos ⟨by rw [z.1]; rfl, z.2⟩, rch_bar q' z.1 rfl z.2]; rfl
      · have : ¬ (hdC (c :: r) = 95 ∧ hdD b (c :: r).tail = true) := by
          rintro ⟨h, h2⟩
          exact z ⟨UInt8.toNat_inj.1 h, h2⟩
        rw [if_neg this, rch_bad q' (fun y => z ⟨y.1, y.2.2⟩), rch_bad q' (fun y => by cases y.2.1)]
theorem rdg_free {b : Nat} (hb : b ≤ 36) {l : List UInt8} : rdg b true l = if hdC l = 95 ∧ hdD b l.tail = true then rdg b false l.tail else rdg b false l := by
  cases l with
  | nil => rfl
  | cons c r =>
    by_cases q : isD b c = true
    · have : ¬ (hdC (c :: r) = 95 ∧ hdD b (c :: r).tail = true) := by
        rintro ⟨h, _⟩
        have : c = 95 := UInt8.toNat_inj.1 h
        rw [this, isD_bar b hb] at q; cases q
      rw [if_neg this, rdg_digit q, rdg_digit q]
    · have q' : isD b c = false := by simpa using q
      by_cases z : c = 95 ∧ hdD b r = true
      · rw [if_pos ⟨by rw [z.1]; rfl, z.2⟩, rdg_bar q' z.1 rfl z.2]; rfl
      · have : ¬ (hdC (c :: r) = 95 ∧ hdD b (c :: r).tail = true) := by
          rintro ⟨h, h2⟩
          exact z ⟨UInt8.toNat_inj.1 h, h2⟩
        rw [if_neg this, rdg_bad q' (fun y => z ⟨y.1, y.2.2⟩), rdg_bad q' (fun y => by cases y.2.1)]

/-- Digits ahead of a point and behind it, and how many bytes they are. -/
def mnt (b : Nat) (j : Bool) (l : List UInt8) : Option (List UInt8 × List UInt8 × Nat) :=
  if hdC (l.drop (rch b j l)) = 46 then
    (if rch b j l + rch b false (l.drop (rch b j l + 1)) = 0 then none else some (rdg b j l, rdg b false (l.drop (rch b j l + 1)), rch b j l + 1 + rch b false (l.drop (rch b j l + 1))))
  else (if rch b j l = 0 then none else some (rdg b j l, [], rch b j l))
/-- The sign of a text: how many bytes it has; whether it is a minus. -/
def sgA : List UInt8 → Nat
  | [] => 0
  | c :: _ => if c = 43 ∨ c = 45 then 1 else 0
def sgM : List UInt8 → Bool
  | [] => false
  | c :: _ => c == 45
theorem sgA_le (l : List UInt8) : sgA l ≤ l.length := by
  cases l with
  | nil => exact Nat.le_refl _
  | cons c r => show (if _ then _ else _) ≤ _; split <;> simp
theorem sgA_one (l : List UInt8) : sgA l ≤ 1 := by
  cases l with
  | nil => exact Nat.zero_le _
  | cons c r => show (if _ then _ else _) ≤ _; split <;> omega
/-- A number of digits, at most MaxPoint. -/
def cns (a : Nat) (c : UInt8) : Nat := min (a * 10 + (c.toNat - 48)) 1099511627776
def cnt (a : Nat) (l : List UInt8) : Nat := l.foldl cns a
theorem cnt_nil (a : Nat) : cnt a [] = a := by unfold cnt; rw [List.foldl_nil]
theorem cnt_cons (a : Nat) (c : UInt8) (r : List UInt8) : cnt a (c :: r) = cnt (cns a c) r := by unfold cnt; rw [List.foldl_cons]
theorem cns_le (a : Nat) (c : UInt8) : cns a c ≤ 1099511627776 := by unfold cns; exact Nat.min_le_right _ _
theorem cnt_le (l : List UInt8) : ∀ (a : Nat), a ≤ 1099511627776 → cnt a l ≤ 1099511627776 := by
  induction l with
  | nil => intro a h; rw [cnt_nil]; exact h
  | cons c r ih => intro a _; rw [cnt_cons]; exact ih _ (cns_le a c)
/-- An exponent, with its letter: the number, and how many bytes it is. -/
def exN (r : List UInt8) : Int := if sgM r = true then -(cnt 0 (rdg 10 false (r.drop (sgA r))) : Int) else (cnt 0 (rdg 10 false (r.drop (sgA r))) : Int)
def exn (L : Nat) : List UInt8 → Option (Int × Nat)
  | [] => none
  | c :: r => if (sml c).toNat = L then (if rch 10 false (r.drop (sgA r)) = 0 then none else some (exN r, 1 + sgA r + rch 10 false (r.drop (sgA r)))) else none
theorem exN_in (r : List UInt8) : -1099511627776 ≤ exN r ∧ exN r ≤ 1099511627776 := by
  have := cnt_le (rdg 10 false (r.drop (sgA r))) 0 (by omega)
  unfold exN
  split <;> omega

/-- A byte that is no digit counts as 0. -/
def pln (c : UInt8) : UInt8 := if isD 10 c = true then c else 48
/-- How many noughts stand at the begin. -/
def nz : List UInt8 → Nat
  | [] => 0
  | c :: r => if c = 48 then nz r + 1 else 0
theorem nz_yes {r : List UInt8} : nz (48 :: r) = nz r + 1 := by show (if _ then _ else _) = _; rw [if_pos rfl]
theorem nz_no {c : UInt8} {r : List UInt8} (h : c ≠ 48) : nz (c :: r) = 0 := by show (if _ then _ else _) = _; rw [if_neg h]
theorem nz_le : ∀ l, nz l ≤ l.length
  | [] => Nat.le_refl _
  | c :: r => by
    by_cases h : c = 48
    · subst h; rw [nz_yes]; have := nz_le r; simp; omega
    · rw [nz_no h]; omega
theorem nz_in : ∀ (l : List UInt8) (i : Nat) (h : i < l.length), i < nz l → l[i]'h = 48
  | [], _, h, _ => absurd h (by simp)
  | c :: r, i, h, hi => by
    by_cases q : c = 48
    · cases i with
      | zero => exact q
      | succ i =>
        subst q
        rw [nz_yes] at hi
        exact nz_in r i (by simpa using h) (by omega)
    · rw [nz_no q] at hi; omega
theorem nz_at : ∀ (l : List UInt8) (h : nz l < l.length), l[nz l]'h ≠ 48
  | [], h => absurd h (by simp)
  | c :: r, h => by
    by_cases q : c = 48
    · subst q
      have e : nz (48 :: r) = nz r + 1 := nz_yes
      have := nz_at r (by rw [e] at h; simpa using h)
      simpa [e] using this
    · simpa [nz_no q] using q
/-- How many digits are left without the noughts at the end. -/
def trn : List UInt8 → Nat
  | [] => 0
  | c :: r => if trn r = 0 ∧ c = 48 then 0 else trn r + 1
theorem trn_le : ∀ l, trn l ≤ l.length
  | [] => Nat.le_refl _
  | c :: r => by
    have := trn_le r
    show (if _ then _ else _) ≤ _
    split <;> simp <;> omega
theorem trn_out : ∀ (l : List UInt8) (i : Nat) (h : i < l.length), trn l ≤ i → l[i]'h = 48
  | [], _, h, _ => absurd h (by simp)
  | c :: r, i, h, hi => by
    have hi' : (if trn r = 0 ∧ c = 48 then 0 else trn r + 1) ≤ i := hi
    by_cases q : trn r = 0 ∧ c = 48
    · cases i with
      | zero => exact q.2
      | succ i => exact trn_out r i (by simpa using h) (by omega)
    · rw [if_neg q] at hi'
      cases i with
      | zero => omega
      | succ i => exact trn_out r i (by simpa using h) (by omega)
theorem trn_at : ∀ (l : List UInt8) (h0 : 0 < trn l), l[trn l - 1]'(by have := trn_le l; omega) ≠ 48
  | [], h => absurd h (by simp [trn])
  | c :: r, h => by
    have e : trn (c :: r) = if trn r = 0 ∧ c = 48 then 0 else trn r + 1 := rfl
    by_cases q : trn r = 0 ∧ c = 48
    · rw [e, if_pos q] at h; omega
    · rw [if_neg q] at e
      by_cases z : trn r = 0
      · have : c ≠ 48 := fun y => q ⟨z, y⟩
        simpa [e, z] using this
      · have ih := trn_at r (by omega)
        obtain ⟨k, hk⟩ : ∃ k, trn r = k + 1 := ⟨trn r - 1, by omega⟩
        simp [e, hk] at ih ⊢
        exact ih
/-- Is a byte among these that is not 0? -/
def anz (l : List UInt8) : Bool := l.any (· != 48)
theorem anz_no {l : List UInt8} : anz l = false ↔ ∀ c ∈ l, c = 48 := by unfold anz; simp
theorem anz_trn : ∀ l, anz l = decide (0 < trn l)
  | [] => rfl
  | c :: r => by
    have e : trn (c :: r) = if trn r = 0 ∧ c = 48 then 0 else trn r + 1 := rfl
    have a : anz (c :: r) = ((c != 48) || anz r) := by simp [anz]
    rw [a, anz_trn r, e]
    by_cases h : c = 48
    · by_cases z : trn r = 0 <;> simp [h, z] <;> omega
    · have : (c != 48) = true := by simp [h]
      rw [this, if_neg (fun y => h y.2)]; simp
/-- What is kept of digits; whether something was cut. -/
def shT (D : List UInt8) : List UInt8 := if anz (D.drop 800) = true then D.take 800 else (D.take 800).take (trn (D.take 800))
def ctI (n : Int) : Int := max (-1099511627776) (min n 1099511627776)
theorem ctI_in (n : Int) : -1099511627776 ≤ ctI n ∧ ctI n ≤ 1099511627776 := by unfold ctI; omega
/-- The decimal of two rows of digits and an exponent. -/
def plD (W P : List UInt8) : List UInt8 := (W ++ P).map pln
def dgF (W P : List UInt8) : List UInt8 := (plD W P).drop (nz (plD W P))
def dcT (W P : List UInt8) : List UInt8 := shT (dgF W P)
def dcP (W P : List UInt8) (e : Int) : Int := if dgF W P = [] then 0 else ctI (ctI e + W.length - nz (plD W P))
def dcC (W P : List UInt8) : Bool := anz ((dgF W P).drop 800)
/-- The hexadecimal of two rows of digits and an exponent. -/
def hxK (a : List UInt8) : Nat := min (nz a + 16) a.length
def hxM (a : List UInt8) : Nat := av 16 0 ((a.take (hxK a)).drop (nz a))
def hxC (a : List UInt8) : Bool := anz (a.drop (hxK a))
def hxE (W P : List UInt8) (e : Int) : Int := if nz (W ++ P) = (W ++ P).length then 0 else ctI (e + 4 * ((W.length : Int) - hxK (W ++ P)))

/-- The parts of a text. -/
structure Pt where
  neg : Bool := false
  kind : Int := 0
  dd : List UInt8 := []
  dp : Int := 0
  dc : Bool := false
  mant : Nat := 0
  exp : Int := 0
  cut : Bool := false
def wInfinity : List UInt8 := [105, 110, 102, 105, 110, 105, 116, 121]
def wInf : List UInt8 := [105, 110, 102]
def wNan : List UInt8 := [110, 97, 110]
def dePt (W P : List UInt8) (e : Int) : Pt := { kind := 1, dd := dcT W P, dp := dcP W P e, dc := dcC W P }
def hxPt (W P : List UInt8) (e : Int) : Pt := { kind := 2, mant := hxM (W ++ P), exp := hxE W P e, cut := hxC (W ++ P) }
def kInf (r : List UInt8) : Option (Pt × Nat) := if wdB wInfinity r = true then some ({ kind := 3 }, 8) else if wdB wInf r = true then some ({ kind := 3 }, 3) else none
def kNan (sg : Bool) (r : List UInt8) : Option (Pt × Nat) := if sg = false ∧ wdB wNan r = true then some ({ kind := 4 }, 3) else none
def isX (r : List UInt8) : Bool := decide (hdC r = 48 ∧ (hdC r.tail = 120 ∨ hdC r.tail = 88))
def kHex (r : List UInt8) : Option (Pt × Nat) :=
  if isX r = true then
    match mnt 16 true (r.drop 2) with
    | none => none
    | some (W, P, n) =>
      match exn 112 (r.drop (2 + n)) with
      | none => none
      | some (e, m) => some (hxPt W P e, 2 + n + m)
  else none
def kDec (r : List UInt8) : Option (Pt × Nat) :=
  match mnt 10 false r with
  | none => none
  | some (W, P, n) =>
    match exn 101 (r.drop n) with
    | none => some (dePt W P 0, n)
    | some (e, m) => some (dePt W P e, n + m)
def kAny (sg : Bool) (r : List UInt8) : Option (Pt × Nat) :=
  match kInf r with
  | some x => some x
  | none => match kNan sg r with
    | some x => some x
    | none => match kHex r with
      | some x => some x
      | none => kDec r
/-- The parts of the longest begin that is a float's, and how long it is. -/
def pfx (l : List UInt8) : Option (Pt × Nat) :=
  match kAny (decide (0 < sgA l)) (l.drop (sgA l)) with
  | none => none
  | some (p, n) => some ({ p with neg := sgM l }, sgA l + n)
/-- The parts of a whole text. -/
def scn (l : List UInt8) : Option Pt :=
  match pfx l with
  | none => none
  | some (p, n) => if n = l.length then some p else none

theorem mnt_pos {b : Nat} {j : Bool} {l W P : List UInt8} {n : Nat} (h : mnt b j l = some (W, P, n)) : 0 < n ∧ n ≤ l.length := by
  unfold mnt at h
  have h1 := rch_le b l j
  have h2 := rch_le b (l.drop (rch b j l + 1)) false
  rw [List.length_drop] at h2
  by_cases a : hdC (l.drop (rch b j l)) = 46
  · rw [if_pos a] at h
    have h3 : rch b j l < l.length := by
      rcases Nat.lt_or_ge (rch b j l) l.length with z | z
      · exact z
      · rw [List.drop_eq_nil_of_le z] at a; cases a
    by_cases c : rch b j l + rch b false (l.drop (rch b j l + 1)) = 0
    · rw [if_pos c] at h; cases h
    · rw [if_neg c] at h
      injection h with h; injection h with _ h; injection h with _ h
      omega
  · rw [if_neg a] at h
    by_cases c : rch b j l = 0
    · rw [if_pos c] at h; cases h
    · rw [if_neg c] at h
      injection h with h; injection h with _ h; injection h with _ h
      omega
theorem mnt_len {b : Nat} {j : Bool} {l W P : List UInt8} {n : Nat} (h : mnt b j l = some (W, P, n)) : W.length + P.length ≤ l.length := by
  unfold mnt at h
  have h1 := rch_le b l j
  have h2 := rch_le b (l.drop (rch b j l + 1)) false
  rw [List.length_drop] at h2
  have h4 := rdg_len (b := b) l j
  have h5 := rdg_len (b := b) (l.drop (rch b j l + 1)) false
  by_cases a : hdC (l.drop (rch b j l)) = 46
  · rw [if_pos a] at h
    by_cases c : rch b j l + rch b false (l.drop (rch b j l + 1)) = 0
    · rw [if_pos c] at h; cases h
    · rw [if_neg c] at h
      injection h with h; injection h with e1 h; injection h with e2 h
      rw [← e1, ← e2]; omega
  · rw [if_neg a] at h
    by_cases c : rch b j l = 0
    · rw [if_pos c] at h; cases h
    · rw [if_neg c] at h
      injection h with h; injection h with e1 h; injection h with e2 h
      rw [← e1, ← e2]; simp; omega
theorem exn_pos {L : Nat} {l : List UInt8} {e : Int} {m : Nat} (h : exn L l = some (e, m)) : 0 < m ∧ m ≤ l.length ∧ -1099511627776 ≤ e ∧ e ≤ 1099511627776 := by
  cases l with
  | nil => cases h
  | cons c r =>
    have h' : (if (sml c).toNat = L then (if rch 10 false (r.drop (sgA r)) = 0 then none else some (exN r, 1 + sgA r + rch 10 false (r.drop (sgA r)))) else none) = some (e, m) := h
    have h2 := rch_le 10 (r.drop (sgA r)) false
    rw [List.length_drop] at h2
    have := sgA_le r
    by_cases a : (sml c).toNat = L
    · rw [if_pos a] at h'
      by_cases d : rch 10 false (r.drop (sgA r)) = 0
      · rw [if_pos d] at h'; cases h'
      · rw [if_neg d] at h'
        injection h' with h'; injection h' with e1 e2
        have := exN_in r
        rw [← e1, ← e2]; simp; omega
    · rw [if_neg a] at h'; cases h'
theorem wdB_len : ∀ (w l : List UInt8), wdB w l = true → w.length ≤ l.length
  | [], _, _ => Nat.zero_le _
  | _ :: _, [], h => by cases h
  | d :: t, c :: r, h => by
    have h' : ((sml c == d) && wdB t r) = true := h
    rw [Bool.and_eq_true] at h'
    have := wdB_len t r h'.2
    simp; omega
/-- Underscores ahead: the mantissa of a hexadecimal. -/
theorem mnt_free {b : Nat} (hb : b ≤ 36) {l : List UInt8} : mnt b true l = if hdC l = 95 ∧ hdD b l.tail = true then (mnt b false l.tail).map (fun x => (x.1, x.2.1, x.2.2 + 1)) else mnt b false l := by
  by_cases h : hdC l = 95 ∧ hdD b l.tail = true
  · rw [if_pos h]
    have e1 := rch_free hb (l := l)
    have e2 := rdg_free hb (l := l)
    rw [if_pos h] at e1 e2
    have ed : ∀ k, l.drop (k + 1) = l.tail.drop k := fun k => by
      cases l with
      | nil => simp
      | cons c r => rfl
    have hz : rch b false l.tail ≠ 0 := by
      have := rch_hd (j := false) h.2
      omega
    unfold mnt
    rw [e1, e2, ed, show rch b false l.tail + 1 + 1 = (rch b false l.tail + 1) + 1 from rfl, ed]
    by_cases a : hdC (l.tail.drop (rch b false l.tail)) = 46
    · rw [if_pos a, if_pos a, if_neg (by omega), if_neg (by omega)]
      simp; omega
    · rw [if_neg a, if_neg a, if_neg (by omega), if_neg hz]; rfl
  · rw [if_neg h]
    have e1 := rch_free hb (l := l)
    have e2 := rdg_free hb (l := l)
    rw [if_neg h] at e1 e2
    unfold mnt
    rw [e1, e2]
theorem kAny_pos {sg : Bool} {r : List UInt8} {p : Pt} {n : Nat} (h : kAny sg r = some (p, n)) : 0 < n ∧ n ≤ r.length := by
  unfold kAny at h
  split at h
  · next x e =>
    injection h with h; subst h
    unfold kInf at e
    by_cases a : wdB wInfinity r = true
    · rw [if_pos a] at e; injection e with e; injection e with _ e
      have := wdB_len _ _ a
      simp [wInfinity] at this; omega
    · rw [if_neg a] at e
      by_cases c : wdB wInf r = true
      · rw [if_pos c] at e; injection e with e; injection e with _ e
        have := wdB_len _ _ c
        simp [wInf] at this; omega
      · rw [if_neg c] at e; cases e
  · split at h
    · next x e =>
      injection h with h; subst h
      unfold kNan at e
      by_cases a : sg = false ∧ wdB wNan r = true
      · rw [if_pos a] at e; injection e with e; injection e with _ e
        have := wdB_len _ _ a.2
        simp [wNan] at this; omega
      · rw [if_neg a] at e; cases e
    · split at h
      · next x e =>
        injection h with h; subst h
        unfold kHex at e
        by_cases a : isX r = true
        · rw [if_pos a] at e
          split at e
          · cases e
          · next W P k em =>
            split at e
            · cases e
            · next ex m ee =>
              injection e with e; injection e with _ e
              have h1 := exn_pos ee
              have h2 := mnt_pos em
              rw [List.length_drop] at h1 h2
              omega
        · rw [if_neg a] at e; cases e
      · unfold kDec at h
        split at h
        · cases h
        · next W P k em =>
          have h2 := mnt_pos em
          split at h
          · injection h with h; injection h with _ h; omega
          · next ex m ee =>
            injection h with h; injection h with _ h
            have h1 := exn_pos ee
            rw [List.length_drop] at h1
            omega
theorem pfx_pos {l : List UInt8} {p : Pt} {n : Nat} (h : pfx l = some (p, n)) : 0 < n ∧ n ≤ l.length := by
  unfold pfx at h
  split at h
  · cases h
  · next q m e =>
    injection h with h; injection h with _ h
    have := kAny_pos e
    have := sgA_le l
    rw [List.length_drop] at *
    omega
end Go.Proofs.YtjgdbphhhplifaaDoor
