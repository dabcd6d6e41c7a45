/-
  fault's Unquote: what it answers for every text.
-/
import Derived.Test.YtelobjhmbabiaaaDoorFtU
namespace Go.Proofs.YtelobjhmbabiaaaDoor
open Go.RowKit

theorem at_list {s : ByteArray} {l : List UInt8} (h : s.data.toList = l) {i : Nat} {x : UInt8} (hx : l[i]? = some x) : ∃ hlt : i < s.size, s[i]'hlt = x := by
  subst h
  obtain ⟨hl, e⟩ := List.getElem?_eq_some_iff.mp hx
  have hlt : i < s.size := by simpa using hl
  exact ⟨hlt, by rw [← e]; rfl⟩
theorem size_list {s : ByteArray} {l : List UInt8} (h : s.data.toList = l) : s.size = l.length := by rw [← h]; simp
theorem ne_of_toNat {c d : UInt8} (h : c ≠ d) : ((c.toNat : Int) != (d.toNat : Int)) = true := by
  refine bne_iff_ne.mpr fun q => h ?_
  exact UInt8.toNat_inj.mp (by omega)
theorem shr_lt (c : UInt8) : c >>> 4 < 16 := by revert c; refine all8 ?_; decide +kernel
theorem and_lt (c : UInt8) : c &&& 15 < 16 := by revert c; refine all8 ?_; decide +kernel
theorem halves (c : UInt8) : c.toNat = 16 * (c >>> 4).toNat + (c &&& 15).toNat := by revert c; refine all8 ?_; decide +kernel

theorem spec_plain (c : UInt8) : specB c = true → plainB c = true := by revert c; refine all8 ?_; decide +kernel
theorem two_hex : ∀ x y : Fin 16, UInt8.ofNat (16 * x.val + y.val) >>> 4 = UInt8.ofNat x.val ∧ UInt8.ofNat (16 * x.val + y.val) &&& 15 = UInt8.ofNat y.val ∧ (UInt8.ofNat (16 * x.val + y.val)).toNat = 16 * x.val + y.val := by decide +kernel

theorem told_yes {s : ByteArray} {c : UInt8} {r : List UInt8} (h : s.data.toList = esc c ++ r) (w : World) :
    Calls Tryd.prog 34 #[.string s] w fun e w' => e = .returned (.tuple #[.int .u8 (c.toNat : Int), .int .i64 ((esc c).length : Int)]) ∧ ∃ n, w' = w.drewN n := by
  rcases esc_cases c with ⟨p, q, e, n⟩ | ⟨p, q, e, n⟩ | ⟨p, e⟩
  · rw [e] at h ⊢
    obtain ⟨h0, e0⟩ := at_list h (i := 0) (x := c) rfl
    exact (told_plain h0 (by rw [e0]) (ne_of_toNat n) p q w).mono fun _ _ g => ⟨g.1, 0, g.2⟩
  · rw [e] at h ⊢
    obtain ⟨h0, e0⟩ := at_list h (i := 0) (x := 92) rfl
    obtain ⟨h1, e1⟩ := at_list h (i := 1) (x := c) rfl
    exact (told_spec h1 (by rw [e0]; rfl) (by rw [e1]) q w).mono fun _ _ g => ⟨g.1, 0, g.2⟩
  · rw [e] at h ⊢
    obtain ⟨h0, e0⟩ := at_list h (i := 0) (x := 92) rfl
    obtain ⟨h1, e1⟩ := at_list h (i := 1) (x := 120) rfl
    obtain ⟨h2, e2⟩ := at_list h (i := 2) (x := hx (c >>> 4)) rfl
    obtain ⟨h3, e3⟩ := at_list h (i := 3) (x := hx (c &&& 15)) rfl
    exact told_hex h3 (by rw [e0]; rfl) (by rw [e1]; rfl) (by rw [e2]) (by rw [e3]) (UInt8.lt_iff_toNat_lt.mp (shr_lt c)) (UInt8.lt_iff_toNat_lt.mp (and_lt c)) (ixH_hx _ (shr_lt c)) (ixH_hx _ (and_lt c)) (halves c) p w

theorem told_none {s : ByteArray} (h0 : 0 < s.size) (h : ∀ c r, s.data.toList ≠ esc c ++ r) (w : World) :
    Calls Tryd.prog 34 #[.string s] w fun e w' => e = .returned (.tuple #[.int .u8 0, .int .i64 0]) ∧ ∃ n, w' = w.drewN n := by
  have up : ∀ {w : World}, (Calls Tryd.prog 34 #[.string s] w fun e w' => e = .returned (.tuple #[.int .u8 0, .int .i64 0]) ∧ w' = w) → Calls Tryd.prog 34 #[.string s] w fun e w' => e = .returned (.tuple #[.int .u8 0, .int .i64 0]) ∧ ∃ n, w' = w.drewN n := fun g => g.mono fun _ _ g => ⟨g.1, 0, g.2⟩
  obtain ⟨l, hl⟩ : ∃ l, s.data.toList = l := ⟨_, rfl⟩
  have hz := size_list hl
  rw [hl] at h
  cases l with
  | nil => rw [hz] at h0; cases h0
  | cons c r =>
    obtain ⟨_, e0⟩ := at_list hl (i := 0) (x := c) rfl
    by_cases c1 : c = 92
    · subst c1
      cases r with
      | nil => exact up (told_one hz (by rw [e0]; rfl) w)
      | cons d r =>
        obtain ⟨h1, e1⟩ := at_list hl (i := 1) (x := d) rfl
        cases q : specB d with
        | true =>
          refine absurd ?_ (h d r)
          rcases esc_cases d with ⟨p, q', e, n⟩ | ⟨p, q', e, n⟩ | ⟨p, e⟩
          · rw [q] at q'; cases q'
          · rw [e]; rfl
          · rw [spec_plain d q] at p; cases p
        | false =>
          by_cases c2 : d = 120
          · subst c2
            match r, hl, hz, h with
            | [], hl, hz, _ => exact up (told_few h1 (by rw [e0]; rfl) (by rw [e1]) q (Or.inl (by rw [hz]; decide)) w)
            | [a], hl, hz, _ => exact up (told_few h1 (by rw [e0]; rfl) (by rw [e1]) q (Or.inl (by rw [hz]; simp)) w)
            | a :: b :: r, hl, hz, h =>
              obtain ⟨h2, e2⟩ := at_list hl (i := 2) (x := a) rfl
              obtain ⟨h3, e3⟩ := at_list hl (i := 3) (x := b) rfl
              have f0 : ((s[0]'(by omega)).toNat : Int) = 92 := by rw [e0]; rfl
              have f1 : ((s[1]'(by omega)).toNat : Int) = 120 := by rw [e1]; rfl
              have f2 : ((s[2]'(by omega)).toNat : Int) = (a.toNat : Int) := by rw [e2]
              have f3 : ((s[3]'h3).toNat : Int) = (b.toNat : Int) := by rw [e3]
              rcases ixH_facts a with na | ⟨xa0, xa1, xa⟩
              · exact told_no1 h3 f0 f1 f2 f3 na w
              · have ya : ixH a = ((ixH a).toNat : Int) := by omega
                rcases ixH_facts b with nb | ⟨xb0, xb1, xb⟩
                · exact told_no2 h3 f0 f1 f2 f3 ya nb w
                · have yb : ixH b = ((ixH b).toNat : Int) := by omega
                  obtain ⟨g1, g2, g3⟩ := two_hex ⟨(ixH a).toNat, by omega⟩ ⟨(ixH b).toNat, by omega⟩
                  simp only at g1 g2 g3
                  cases p : plainB (UInt8.ofNat (16 * (ixH a).toNat + (ixH b).toNat)) with
                  | true => exact told_hexno h3 f0 f1 f2 f3 (by omega) (by omega) ya yb g3 p w
                  | false =>
                    refine absurd ?_ (h (UInt8.ofNat (16 * (ixH a).toNat + (ixH b).toNat)) r)
                    rcases esc_cases (UInt8.ofNat (16 * (ixH a).toNat + (ixH b).toNat)) with ⟨p', _⟩ | ⟨p', _⟩ | ⟨_, e⟩
                    · rw [p] at p'; cases p'
                    · rw [p] at p'; cases p'
                    · rw [e, g1, g2, xa, xb]; rfl
          · exact up (told_few h1 (by rw [e0]; rfl) (by rw [e1]) q (Or.inr c2) w)
    · refine up (told_bad h0 (by rw [e0]) (ne_of_toNat c1) ?_ w)
      cases p : plainB c with
      | false => exact Or.inl rfl
      | true =>
        cases q : specB c with
        | true => exact Or.inr rfl
        | false =>
          refine absurd ?_ (h c r)
          have e : esc c = [c] := by unfold esc; rw [p, q]; rfl
          rw [e]; rfl
end Go.Proofs.YtelobjhmbabiaaaDoor
