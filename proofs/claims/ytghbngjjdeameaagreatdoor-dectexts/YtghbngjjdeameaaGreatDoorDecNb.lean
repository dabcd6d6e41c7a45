/-
  What the calls of the document's Digits of an int and of its Number answer.
-/
import Derived.Test.YtghbngjjdeameaaGreatDoorDecRt
import Derived.Test.YtghbngjjdeameaaGreatDoorDecRb
import Derived.Test.YtghbngjjdeameaaGreatDoorDecTk
import Derived.Lib.IndexBytes
namespace Go.Proofs.YtghbngjjdeameaaGreatDoor
open Go.RowKit

theorem txt_size (V : Nat) : (txt V).size = Lib.nDigits V := by
  show (Lib.decDigits V).toArray.size = _
  rw [List.size_toArray, Lib.decDigits_length]
theorem txt_at {V k : Nat} (h : k < Lib.nDigits V) : byteAt (txt V) k = 48 + V / 10 ^ (Lib.nDigits V - 1 - k) % 10 := by
  unfold byteAt txt
  rw [List.toList_toArray, Lib.decDigits_eq, List.getD_eq_getElem?_getD, List.getElem?_map, List.getElem?_range h]
  simp only [Option.map_some, Option.getD_some, Lib.dg]
  rw [UInt8.toNat_ofNat']
  omega
theorem txt_num (V : Nat) : ∀ k, k ≤ Lib.nDigits V → num (txt V) k = V / 10 ^ (Lib.nDigits V - k)
  | 0, _ => by
    have := Lib.lt_pow_nDigits V
    rw [Nat.sub_zero, Nat.div_eq_of_lt this]; rfl
  | k + 1, h => by
    show num (txt V) k * 10 + (byteAt (txt V) k - 48) = _
    rw [txt_num V k (by omega), txt_at (by omega)]
    obtain ⟨d, hd⟩ : ∃ d, Lib.nDigits V - (k + 1) = d := ⟨_, rfl⟩
    rw [show Lib.nDigits V - k = d + 1 by omega, show Lib.nDigits V - 1 - k = d by omega, hd, ← pow_div]
    omega
theorem txt_digits (V : Nat) : digitsTo (txt V) (Lib.nDigits V) := by
  intro j hj
  rw [txt_at hj]
  omega
theorem nd_first {V : Nat} (h : Lib.nDigits V ≠ 1) : 10 ^ (Lib.nDigits V - 1) ≤ V := by
  induction V using Nat.strongRecOn with
  | ind V ih =>
    have a := Lib.nDigits_pos V
    by_cases c : V < 10 ^ (Lib.nDigits V - 1)
    · exfalso
      by_cases z : V < 10
      · exact h (Lib.nDigits_small z)
      · have b := Lib.nDigits_big z
        by_cases q : 10 ^ (Lib.nDigits (V / 10) - 1) ≤ V / 10 ∨ Lib.nDigits (V / 10) = 1
        · rcases q with q | q
          · have p : 10 ^ (Lib.nDigits V - 1) = 10 ^ (Lib.nDigits (V / 10) - 1) * 10 := by
              rw [← Nat.pow_succ]; congr 1; have := Lib.nDigits_pos (V / 10); omega
            omega
          · rw [b, q] at c; omega
        · exact q (Or.inl (ih (V / 10) (by omega) (fun e => q (Or.inr e))))
    · omega

theorem txt_isNum (V : Nat) : isNum (txt V) := by
  have p := Lib.nDigits_pos V
  refine ⟨by rw [txt_size]; omega, by rw [txt_size]; exact txt_digits V, ?_⟩
  rw [txt_size, txt_at (by omega)]
  intro e
  by_cases c : Lib.nDigits V = 1
  · exact c
  · exfalso
    have a := nd_first c
    have l := Lib.lt_pow_nDigits V
    have pp : 0 < 10 ^ (Lib.nDigits V - 1) := Nat.pow_pos (by omega)
    have q : V / 10 ^ (Lib.nDigits V - 1) < 10 := by
      rw [Nat.div_lt_iff_lt_mul pp, Nat.mul_comm, ← Nat.pow_succ, show (Lib.nDigits V - 1).succ = Lib.nDigits V by omega]; exact l
    have r : 1 ≤ V / 10 ^ (Lib.nDigits V - 1) := (Nat.le_div_iff_mul_le pp).mpr (by omega)
    rw [Nat.sub_zero] at e
    omega

theorem txt_whole (V : Nat) : num (txt V) (txt V).size = V := by
  rw [txt_size, txt_num V _ (Nat.le_refl _), Nat.sub_self, Nat.pow_zero, Nat.div_one]

theorem txt_small {V : Nat} (h : V < 340282366920938463463374607431768211456) : (txt V).size ≤ maxLen := by
  rw [txt_size]
  have a := Lib.nDigits_pos V
  have b : Lib.nDigits V ≤ 39 := by
    by_cases c : Lib.nDigits V = 1
    · omega
    · have d := nd_first c
      have pp : 0 < 10 ^ (Lib.nDigits V - 1) := Nat.pow_pos (by omega)
      have e : V / 10 ^ (Lib.nDigits V - 1) ≠ 0 := by
        intro z
        have := (Nat.div_eq_zero_iff_lt pp).mp z
        omega
      have := few_digits h e
      omega
  unfold maxLen
  omega


theorem ba_of_list {a b : ByteArray} (h : a.data.toList = b.data.toList) : a = b := by
  cases a; cases b
  simp only [ByteArray.mk.injEq]
  exact Array.toList_inj.1 h
theorem txt_it {p : Int} (h : 0 ≤ p) : txt p.toNat = itB p := by
  unfold txt itB Lib.itoa
  rw [if_neg (by omega)]
theorem it_neg {p : Int} (h : p < 0) : itB p = (⟨#[45]⟩ : ByteArray) ++ txt (-p).toNat := by
  unfold itB Lib.itoa txt
  rw [if_pos h, show p.natAbs = (-p).toNat by omega]
  exact ba_of_list (by simp)
theorem val_lo (x : Int) : val 0 x = x.toNat := by
  unfold val
  rw [Int.zero_mul, Int.zero_add]

set_option maxRecDepth 100000 in
set_option maxHeartbeats 1000000 in
theorem rdigits_any {p : Int} (h0 : -1099511627776 ≤ p) (h1 : p ≤ 1099511627776) (w : World) :
    Calls Tryz.prog 16 #[.int .i64 p] w fun x w' => x = .returned (.string (itB p)) ∧ Below w.heap.size w w' := by
  by_cases c : p < 0
  · have T := fun W => rtext_any 0 (-p) ⟨by omega, by omega⟩ ⟨by omega, by omega⟩ W
    rw [val_lo] at T
    have e := it_neg c
    have sz := txt_small (V := (-p).toNat) (by omega)
    have sb := itB_size (n := p) (by omega) (by omega)
    rw [e, ByteArray.size_append, show (⟨#[45]⟩ : ByteArray).size = 1 from rfl] at sb
    rw [e]
    generalize txt (-p).toNat = S at *
    obtain ⟨R, hR⟩ : ∃ a, a = (⟨#[45]⟩ : ByteArray) ++ S := ⟨_, rfl⟩
    have q1 : ∀ W, (Op.stringOp .add ⟨#[45]⟩ S).run Tryz.prog W = .ok (.string R) W := fun W => by rw [hR]; exact run_string_add_sum W _ _ (by rw [show (⟨#[45]⟩ : ByteArray).size = 1 from rfl]; omega)
    rw [← hR]
    have w1 : IntKind.u64.wrap p = p + 18446744073709551616 := by unfold IntKind.wrap; simp [IntKind.bits, IntKind.signed]; omega
    have w2 : IntKind.u64.wrap (-(p + 18446744073709551616)) = -p := by unfold IntKind.wrap; simp [IntKind.bits, IntKind.signed]; omega
    clear hR sb sz e h0 h1
    go_enter Tryz.func16, Tryz.ntmps16
    go_wp2_with fail
    refine (T _).mono ?_
    rintro e w1 ⟨rfl, hb⟩
    have HB : Hid (Below w.heap.size w w1) := hb
    clear hb
    go_wp2
    go_ret
    exact ⟨rfl, HB.out⟩
  · have T := fun W => rtext_any 0 p ⟨by omega, by omega⟩ ⟨by omega, by omega⟩ W
    rw [val_lo, txt_it (by omega)] at T
    have w1 : IntKind.u64.wrap p = p := by unfold IntKind.wrap; simp [IntKind.bits, IntKind.signed]; omega
    clear h0 h1
    go_enter Tryz.func16, Tryz.ntmps16
    go_wp2_with fail
    refine (T _).mono ?_
    rintro e w1 ⟨rfl, hb⟩
    have HB : Hid (Below w.heap.size w w1) := hb
    clear hb
    go_wp2
    go_ret
    exact ⟨rfl, HB.out⟩


/-- What Number answers by what Read answered: no sign ahead, or one. -/
def nbP (h l k : Int) : Value := if k = 0 ∧ h = 0 ∧ l ≤ 9223372036854775807 then .tuple #[.int .i64 l, .bool true] else .tuple #[.int .i64 0, .bool false]
def nbN (h l k : Int) : Value := if k = 0 ∧ h = 0 ∧ l ≠ 0 ∧ l ≤ 9223372036854775808 then .tuple #[.int .i64 (-l), .bool true] else .tuple #[.int .i64 0, .bool false]

set_option maxRecDepth 100000 in
set_option maxHeartbeats 1000000 in
theorem number_none {t : ByteArray} (hz : t.size = 0) (Q : Int → Int → Int → Prop) (w : World)
    (R : ∀ W, Calls Tryz.prog 25 #[.string t] W fun e w' => ∃ h l k : Int, Word h ∧ Word l ∧ Q h l k ∧ e = .returned (.tuple #[.agg #[.int .u64 h, .int .u64 l], .int .i64 k]) ∧ Below W.heap.size W w') :
    Calls Tryz.prog 12 #[.string t] w fun e w' => ∃ h l k : Int, Q h l k ∧ e = .returned (nbP h l k) ∧ Below w.heap.size w w' := by
  have hz' : ¬ (0 : Int) < (t.size : Int) := by omega
  clear hz
  go_enter Tryz.func12, Tryz.ntmps12
  go_wp2_with fail
  refine (R _).mono ?_
  rintro e w1 ⟨h, l, k, h1, h2, q, rfl, hb⟩
  have hq : Hid (Q h l k) := q
  have HB : Hid (Below w.heap.size w w1) := hb
  have l0 := h2.1
  have l1 := h2.2
  clear q hb h1 h2
  by_cases ck : k = 0
  · by_cases ch : h = 0
    · skip
      by_cases cl : l ≤ 9223372036854775807
      · have cl' : ¬ 9223372036854775807 < l := by omega
        have wl : IntKind.i64.wrap l = l := by unfold IntKind.wrap; simp [IntKind.bits, IntKind.signed]; omega
        have HR : Hid (nbP h l k = .tuple #[.int .i64 l, .bool true]) := by show nbP h l k = _; unfold nbP; rw [if_pos ⟨ck, ch, cl⟩]
        subst ck ch
        go_wp2
        go_ret2
        exact ⟨_, _, _, hq.out, (congrArg Ending.returned HR.out).symm, HB.out.alloc HB.out.size _⟩
      · have cl' : 9223372036854775807 < l := by omega
        have HR : Hid (nbP h l k = .tuple #[.int .i64 0, .bool false]) := by show nbP h l k = _; unfold nbP; rw [if_neg (fun z => cl z.2.2)]
        subst ck ch
        go_wp2
        go_ret2
        exact ⟨_, _, _, hq.out, (congrArg Ending.returned HR.out).symm, HB.out.alloc HB.out.size _⟩
    · have ch' : (h == 0) = false := beq_eq_false_iff_ne.mpr ch
      have HR : Hid (nbP h l k = .tuple #[.int .i64 0, .bool false]) := by show nbP h l k = _; unfold nbP; rw [if_neg (fun z => ch z.2.1)]
      subst ck
      go_wp2
      go_ret2
      exact ⟨_, _, _, hq.out, (congrArg Ending.returned HR.out).symm, HB.out.alloc HB.out.size _⟩
  · have ck' : (k == 0) = false := beq_eq_false_iff_ne.mpr ck
    have HR : Hid (nbP h l k = .tuple #[.int .i64 0, .bool false]) := by show nbP h l k = _; unfold nbP; rw [if_neg (fun z => ck z.1)]
    go_wp2
    go_ret2
    exact ⟨_, _, _, hq.out, (congrArg Ending.returned HR.out).symm, HB.out.alloc HB.out.size _⟩

set_option maxRecDepth 100000 in
set_option maxHeartbeats 1000000 in
theorem number_plain {t : ByteArray} (hz : 0 < t.size) (hn : (t[0]'hz).toNat ≠ 45) (Q : Int → Int → Int → Prop) (w : World)
    (R : ∀ W, Calls Tryz.prog 25 #[.string t] W fun e w' => ∃ h l k : Int, Word h ∧ Word l ∧ Q h l k ∧ e = .returned (.tuple #[.agg #[.int .u64 h, .int .u64 l], .int .i64 k]) ∧ Below W.heap.size W w') :
    Calls Tryz.prog 12 #[.string t] w fun e w' => ∃ h l k : Int, Q h l k ∧ e = .returned (nbP h l k) ∧ Below w.heap.size w w' := by
  have hn' : (((t[0]'hz).toNat : Int) == 45) = false := beq_eq_false_iff_ne.mpr (by omega)
  clear hn
  go_enter Tryz.func12, Tryz.ntmps12
  go_wp2_with fail
  refine (R _).mono ?_
  rintro e w1 ⟨h, l, k, h1, h2, q, rfl, hb⟩
  have hq : Hid (Q h l k) := q
  have HB : Hid (Below w.heap.size w w1) := hb
  have l0 := h2.1
  have l1 := h2.2
  clear q hb h1 h2
  by_cases ck : k = 0
  · by_cases ch : h = 0
    · skip
      by_cases cl : l ≤ 9223372036854775807
      · have cl' : ¬ 9223372036854775807 < l := by omega
        have wl : IntKind.i64.wrap l = l := by unfold IntKind.wrap; simp [IntKind.bits, IntKind.signed]; omega
        have HR : Hid (nbP h l k = .tuple #[.int .i64 l, .bool true]) := by show nbP h l k = _; unfold nbP; rw [if_pos ⟨ck, ch, cl⟩]
        subst ck ch
        go_wp2
        go_ret2
        exact ⟨_, _, _, hq.out, (congrArg Ending.returned HR.out).symm, HB.out.alloc HB.out.size _⟩
      · have cl' : 9223372036854775807 < l := by omega
        have HR : Hid (nbP h l k = .tuple #[.int .i64 0, .bool false]) := by show nbP h l k = _; unfold nbP; rw [if_neg (fun z => cl z.2.2)]
        subst ck ch
        go_wp2
        go_ret2
        exact ⟨_, _, _, hq.out, (congrArg Ending.returned HR.out).symm, HB.out.alloc HB.out.size _⟩
    · have ch' : (h == 0) = false := beq_eq_false_iff_ne.mpr ch
      have HR : Hid (nbP h l k = .tuple #[.int .i64 0, .bool false]) := by show nbP h l k = _; unfold nbP; rw [if_neg (fun z => ch z.2.1)]
      subst ck
      go_wp2
      go_ret2
      exact ⟨_, _, _, hq.out, (congrArg Ending.returned HR.out).symm, HB.out.alloc HB.out.size _⟩
  · have ck' : (k == 0) = false := beq_eq_false_iff_ne.mpr ck
    have HR : Hid (nbP h l k = .tuple #[.int .i64 0, .bool false]) := by show nbP h l k = _; unfold nbP; rw [if_neg (fun z => ck z.1)]
    go_wp2
    go_ret2
    exact ⟨_, _, _, hq.out, (congrArg Ending.returned HR.out).symm, HB.out.alloc HB.out.size _⟩

set_option maxRecDepth 100000 in
set_option maxHeartbeats 1000000 in
theorem number_minus {t : ByteArray} (hs : t.size ≤ 9223372036854775807) (hz : 0 < t.size) (hn : (t[0]'hz).toNat = 45) (Q : Int → Int → Int → Prop) (w : World)
    (R : ∀ W, Calls Tryz.prog 25 #[.string (t.extract 1 t.size)] W fun e w' => ∃ h l k : Int, Word h ∧ Word l ∧ Q h l k ∧ e = .returned (.tuple #[.agg #[.int .u64 h, .int .u64 l], .int .i64 k]) ∧ Below W.heap.size W w') :
    Calls Tryz.prog 12 #[.string t] w fun e w' => ∃ h l k : Int, Q h l k ∧ e = .returned (nbN h l k) ∧ Below w.heap.size w w' := by
  have hn' : (((t[0]'hz).toNat : Int) == 45) = true := beq_iff_eq.mpr (by omega)
  clear hn
  go_enter Tryz.func12, Tryz.ntmps12
  go_wp2_with fail
  refine (R _).mono ?_
  rintro e w1 ⟨h, l, k, h1, h2, q, rfl, hb⟩
  have hq : Hid (Q h l k) := q
  have HB : Hid (Below w.heap.size w w1) := hb
  have l0 := h2.1
  have l1 := h2.2
  clear q hb h1 h2
  by_cases ck : k = 0
  · by_cases ch : h = 0
    · skip
      by_cases cz : l = 0
      · have cz' : (l == 0) = true := beq_iff_eq.mpr cz
        have HR : Hid (nbN h l k = .tuple #[.int .i64 0, .bool false]) := by show nbN h l k = _; unfold nbN; rw [if_neg (fun z => z.2.2.1 cz)]
        subst ck ch
        go_wp2
        go_ret2
        exact ⟨_, _, _, hq.out, (congrArg Ending.returned HR.out).symm, HB.out.alloc HB.out.size _⟩
      · have cz' : (l == 0) = false := beq_eq_false_iff_ne.mpr cz
        by_cases cl : l ≤ 9223372036854775808
        · have cl' : ¬ 9223372036854775808 < l := by omega
          have wl : IntKind.u64.wrap (-l) = 18446744073709551616 - l := by unfold IntKind.wrap; simp [IntKind.bits, IntKind.signed]; omega
          have wm : IntKind.i64.wrap (18446744073709551616 - l) = -l := by unfold IntKind.wrap; simp [IntKind.bits, IntKind.signed]; omega
          have HR : Hid (nbN h l k = .tuple #[.int .i64 (-l), .bool true]) := by show nbN h l k = _; unfold nbN; rw [if_pos ⟨ck, ch, cz, cl⟩]
          subst ck ch
          go_wp2
          go_ret2
          exact ⟨_, _, _, hq.out, (congrArg Ending.returned HR.out).symm, HB.out.alloc HB.out.size _⟩
        · have cl' : 9223372036854775808 < l := by omega
          have HR : Hid (nbN h l k = .tuple #[.int .i64 0, .bool false]) := by show nbN h l k = _; unfold nbN; rw [if_neg (fun z => cl z.2.2.2)]
          subst ck ch
          go_wp2
          go_ret2
          exact ⟨_, _, _, hq.out, (congrArg Ending.returned HR.out).symm, HB.out.alloc HB.out.size _⟩
    · have ch' : (h == 0) = false := beq_eq_false_iff_ne.mpr ch
      have HR : Hid (nbN h l k = .tuple #[.int .i64 0, .bool false]) := by show nbN h l k = _; unfold nbN; rw [if_neg (fun z => ch z.2.1)]
      subst ck
      go_wp2
      go_ret2
      exact ⟨_, _, _, hq.out, (congrArg Ending.returned HR.out).symm, HB.out.alloc HB.out.size _⟩
  · have ck' : (k == 0) = false := beq_eq_false_iff_ne.mpr ck
    have HR : Hid (nbN h l k = .tuple #[.int .i64 0, .bool false]) := by show nbN h l k = _; unfold nbN; rw [if_neg (fun z => ck z.1)]
    go_wp2
    go_ret2
    exact ⟨_, _, _, hq.out, (congrArg Ending.returned HR.out).symm, HB.out.alloc HB.out.size _⟩

theorem rread_some (t : ByteArray) (hs : t.size ≤ maxLen) (W : World) :
    Calls Tryz.prog 25 #[.string t] W fun e w' => ∃ h l k : Int, Word h ∧ Word l ∧ True ∧ e = .returned (.tuple #[.agg #[.int .u64 h, .int .u64 l], .int .i64 k]) ∧ Below W.heap.size W w' := by
  cases q : isNumB t
  · refine (rread_bad t hs q W).mono ?_
    rintro e w' ⟨he, hb⟩
    exact ⟨0, 0, 3, ⟨by omega, by omega⟩, ⟨by omega, by omega⟩, trivial, he, hb⟩
  · refine (rread_num t hs q W).mono ?_
    rintro e w' ⟨⟨hl, he⟩ | ⟨_, he⟩, hb⟩
    · exact ⟨_, _, 0, hiW_word hl, loW_word _, trivial, he, hb⟩
    · exact ⟨0, 0, 4, ⟨by omega, by omega⟩, ⟨by omega, by omega⟩, trivial, he, hb⟩
/-- Number of every text: some int, or none. -/
theorem number_some (t : ByteArray) (hs : t.size ≤ 9223372036854775807) (w : World) :
    Calls Tryz.prog 12 #[.string t] w fun e w' => ∃ (n : Int) (b : Bool), e = .returned (.tuple #[.int .i64 n, .bool b]) ∧ Below w.heap.size w w' := by
  have P : ∀ h l k, ∃ (n : Int) (b : Bool), nbP h l k = .tuple #[.int .i64 n, .bool b] := fun h l k => by
    unfold nbP; split
    · exact ⟨_, _, rfl⟩
    · exact ⟨_, _, rfl⟩
  have M : ∀ h l k, ∃ (n : Int) (b : Bool), nbN h l k = .tuple #[.int .i64 n, .bool b] := fun h l k => by
    unfold nbN; split
    · exact ⟨_, _, rfl⟩
    · exact ⟨_, _, rfl⟩
  by_cases hz : t.size = 0
  · refine (number_none hz _ w (fun W => rread_some t (by unfold maxLen; omega) W)).mono ?_
    rintro e w' ⟨h, l, k, _, rfl, hb⟩
    obtain ⟨n, b, e⟩ := P h l k
    exact ⟨n, b, by rw [e], hb⟩
  · have hz' : 0 < t.size := by omega
    by_cases hn : (t[0]'hz').toNat = 45
    · have es : (t.extract 1 t.size).size ≤ maxLen := by rw [ByteArray.size_extract]; unfold maxLen; omega
      refine (number_minus hs hz' hn _ w (fun W => rread_some _ es W)).mono ?_
      rintro e w' ⟨h, l, k, _, rfl, hb⟩
      obtain ⟨n, b, e⟩ := M h l k
      exact ⟨n, b, by rw [e], hb⟩
    · refine (number_plain hz' hn _ w (fun W => rread_some t (by unfold maxLen; omega) W)).mono ?_
      rintro e w' ⟨h, l, k, _, rfl, hb⟩
      obtain ⟨n, b, e⟩ := P h l k
      exact ⟨n, b, by rw [e], hb⟩
theorem rread_txt {V : Nat} (h : V ≤ 1099511627776) (W : World) :
    Calls Tryz.prog 25 #[.string (txt V)] W fun e w' => ∃ h l k : Int, Word h ∧ Word l ∧ (h = 0 ∧ l = (V : Int) ∧ k = 0) ∧ e = .returned (.tuple #[.agg #[.int .u64 h, .int .u64 l], .int .i64 k]) ∧ Below W.heap.size W w' := by
  refine (rread_num (txt V) (txt_small (by omega)) (isNumB_true (txt_isNum V)).symm W).mono ?_
  rw [txt_whole]
  rintro e w' ⟨⟨_, he⟩ | ⟨hg, _⟩, hb⟩
  · refine ⟨_, _, 0, hiW_word (by omega), loW_word _, ⟨?_, ?_, rfl⟩, he, hb⟩
    · unfold hiW; omega
    · unfold loW; omega
  · omega
theorem txt_first {V : Nat} (h : 0 < (txt V).size) : ((txt V)[0]'h).toNat ≠ 45 := by
  have n := txt_isNum V
  have d := n.2.1 0 h
  rw [byteAt_eq _ _ h] at d
  omega
/-- Number of an int's digits: the int. -/
theorem number_int {p : Int} (h0 : -1099511627776 ≤ p) (h1 : p ≤ 1099511627776) (w : World) :
    Calls Tryz.prog 12 #[.string (itB p)] w fun e w' => e = .returned (.tuple #[.int .i64 p, .bool true]) ∧ Below w.heap.size w w' := by
  have sb := itB_size (n := p) (by omega) (by omega)
  by_cases c : p < 0
  · have e := it_neg c
    rw [e] at sb ⊢
    have hz : 0 < ((⟨#[45]⟩ : ByteArray) ++ txt (-p).toNat).size := by rw [ByteArray.size_append, show (⟨#[45]⟩ : ByteArray).size = 1 from rfl]; omega
    have hn : (((⟨#[45]⟩ : ByteArray) ++ txt (-p).toNat)[0]'hz).toNat = 45 := by
      rw [ByteArray.getElem_append_left (show 0 < (⟨#[45]⟩ : ByteArray).size by decide)]
      rfl
    have ex : ((⟨#[45]⟩ : ByteArray) ++ txt (-p).toNat).extract 1 ((⟨#[45]⟩ : ByteArray) ++ txt (-p).toNat).size = txt (-p).toNat := by
      refine ba_of_list ?_
      rw [Lib.extract_to_end]
      simp
    have R := fun W => rread_txt (V := (-p).toNat) (by omega) W
    refine (number_minus (by omega) hz hn (fun h l k => h = 0 ∧ l = ((-p).toNat : Int) ∧ k = 0) w (fun W => by rw [ex]; exact R W)).mono ?_
    rintro e w' ⟨h, l, k, ⟨rfl, rfl, rfl⟩, rfl, hb⟩
    refine ⟨?_, hb⟩
    unfold nbN
    rw [if_pos ⟨rfl, rfl, by omega, by omega⟩, show -((-p).toNat : Int) = p by omega]
  · have e := txt_it (p := p) (by omega)
    have hz : 0 < (txt p.toNat).size := (txt_isNum _).1
    rw [← e] at sb ⊢
    refine (number_plain hz (txt_first hz) (fun h l k => h = 0 ∧ l = (p.toNat : Int) ∧ k = 0) w (fun W => rread_txt (by omega) W)).mono ?_
    rintro e w' ⟨h, l, k, ⟨rfl, rfl, rfl⟩, rfl, hb⟩
    refine ⟨?_, hb⟩
    unfold nbP
    rw [if_pos ⟨rfl, rfl, by omega⟩, show (p.toNat : Int) = p by omega]

end Go.Proofs.YtghbngjjdeameaaGreatDoor
