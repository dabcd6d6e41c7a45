/-
  dec's Down, Up, Round and the document's: both answer the same number, and errors of the same number, at every input.
-/
import Derived.Test.YtladeppjccfbhaaDoorDecJ
namespace Go.Proofs.YtladeppjccfbhaaDoor
open Go.RowKit

/-- Both answer the same number, and an error of the same number. -/
def BothR (F G : Nat) (s : ByteArray) (p : Int) (c : Bool) (n : Int) : Prop := ∃ (s2 : ByteArray) (p2 kk : Int) (E : Value),
    (∀ W, Calls Tryd.prog F #[dcV s p c, .int .i64 n] W fun e w' => e = .returned (.tuple #[dcV s2 p2 false, E]) ∧ Below W.heap.size W w') ∧
    (∀ W, Calls Tryd.prog G #[dcV s p c, .int .i64 n] W fun e w' => e = .returned (.tuple #[dcV s2 p2 false, .int .i64 kk]) ∧ Below W.heap.size W w') ∧
    (∀ W, ErrT W → Calls Tryd.prog 10 #[E] W fun e w' => e = .returned (.int .i64 kk) ∧ Below W.heap.size W w')

theorem bothR_bad {F G : Nat} {s : ByteArray} {p : Int} {c : Bool} {n : Int}
    (a : ∀ W, Calls Tryd.prog F #[dcV s p c, .int .i64 n] W fun e w' => e = .returned (.tuple #[dcV ⟨#[]⟩ 0 false, .iface 68 (.int .i64 1)]) ∧ Below W.heap.size W w')
    (b : ∀ W, Calls Tryd.prog G #[dcV s p c, .int .i64 n] W fun e w' => e = .returned (.tuple #[dcV ⟨#[]⟩ 0 false, .int .i64 1]) ∧ Below W.heap.size W w') : BothR F G s p c n :=
  ⟨⟨#[]⟩, 0, 1, _, a, b, fun W h => num_errno 1 W h⟩
theorem bothR_ok {F G : Nat} {s : ByteArray} {p : Int} {c : Bool} {n : Int} {s2 : ByteArray} {p2 : Int}
    (a : ∀ W, Calls Tryd.prog F #[dcV s p c, .int .i64 n] W fun e w' => e = .returned (.tuple #[dcV s2 p2 false, .nilIface]) ∧ Below W.heap.size W w')
    (b : ∀ W, Calls Tryd.prog G #[dcV s p c, .int .i64 n] W fun e w' => e = .returned (.tuple #[dcV s2 p2 false, .int .i64 0]) ∧ Below W.heap.size W w') : BothR F G s p c n :=
  ⟨s2, p2, 0, _, a, b, fun W _ => num_nil W⟩

theorem vd_vn {s : ByteArray} {p : Int} {c : Bool} (h : VD s p c) (g : c = true ∨ 0 < s.size) : VN s p c := by
  rcases h with ⟨a, _, b⟩ | h
  · rcases g with g | g
    · rw [b] at g; cases g
    · omega
  · exact h
theorem vd_len {s : ByteArray} {p : Int} {c : Bool} (h : VD s p c) : s.size ≤ 800 := by
  rcases h with g | g
  · have := g.1; omega
  · exact g.len
theorem size_beq {k : Nat} (h : 0 < k) : ((k : Int) == 0) = false := by
  simp only [beq_eq_false_iff_ne, ne_eq]; omega

theorem down_both {s : ByteArray} {p : Int} {c : Bool} {n : Int} (hs : s.size ≤ 9223372036854775807) : BothR 14 15 s p c n := by
  by_cases h : VD s p c
  · by_cases n0 : n < 0
    · exact bothR_bad (fun W => ddown_bad hs (fun g => by have := g.2.1; omega) W) (fun W => rdown_neg h n0 W)
    · by_cases n8 : 800 < n
      · exact bothR_bad (fun W => ddown_bad hs (fun g => by have := g.2.2.1; omega) W) (fun W => rdown_many h n8 W)
      · obtain ⟨m, rfl⟩ : ∃ m : Nat, n = (m : Int) := ⟨n.toNat, by omega⟩
        have m8 : m ≤ 800 := by omega
        have sl := vd_len h
        cases c with
        | true =>
          by_cases hm : (s.size : Int) < (m : Int)
          · exact bothR_bad (fun W => ddown_bad hs (fun g => by have := g.2.2.2 rfl; omega) W) (fun W => rdown_cut h n0 n8 hm W)
          · obtain ⟨s2, p2, B, Mk⟩ := low_pair h m8 (k := m) (by omega)
            exact bothR_ok (fun W => ddown_ok ⟨h, by omega, by omega, fun _ => by omega⟩ B W) (fun W => rdown_lot h n0 n8 hm Mk W)
        | false =>
          have MM : MR s p false (m : Int) (s.size : Int) := ⟨h, by omega, by omega, fun g => by cases g⟩
          by_cases hm : (s.size : Int) < (m : Int)
          · obtain ⟨s2, p2, B, Mk⟩ := low_pair h m8 (k := s.size) (by omega)
            exact bothR_ok (fun W => ddown_ok MM B W) (fun W => rdown_hi h n0 n8 hm Mk W)
          · obtain ⟨s2, p2, B, Mk⟩ := low_pair h m8 (k := m) (by omega)
            exact bothR_ok (fun W => ddown_ok MM B W) (fun W => rdown_lof h n0 n8 hm Mk W)
  · exact bothR_bad (fun W => ddown_bad hs (fun g => h g.1) W) (fun W => rdown_bad hs h W)

theorem up_both {s : ByteArray} {p : Int} {c : Bool} {n : Int} (hs : s.size ≤ 9223372036854775807) : BothR 16 17 s p c n := by
  by_cases h : VD s p c
  · by_cases n0 : n < 0
    · exact bothR_bad (fun W => dup_bad hs (fun g => by have := g.2.1; omega) W) (fun W => rup_neg h n0 W)
    · by_cases n8 : 800 < n
      · exact bothR_bad (fun W => dup_bad hs (fun g => by have := g.2.2.1; omega) W) (fun W => rup_many h n8 W)
      · obtain ⟨m, rfl⟩ : ∃ m : Nat, n = (m : Int) := ⟨n.toNat, by omega⟩
        have m8 : m ≤ 800 := by omega
        have sl := vd_len h
        cases c with
        | true =>
          have g := vd_vn h (Or.inl rfl)
          have hz := size_beq g.pos
          by_cases hm : (s.size : Int) < (m : Int)
          · exact bothR_bad (fun W => dup_bad hs (fun g => by have := g.2.2.2 rfl; omega) W) (fun W => rup_cut h n0 n8 hm W)
          · obtain ⟨s2, p2, kk, E, A, Mk, K⟩ := up_pair g (k := m) (by omega)
            exact ⟨s2, p2, kk, E, fun W => dup_on ⟨h, by omega, by omega, fun _ => by omega⟩ rfl A W, fun W => rup_lot h n0 n8 hz hm Mk W, K⟩
        | false =>
          have MM : MR s p false (m : Int) (s.size : Int) := ⟨h, by omega, by omega, fun g => by cases g⟩
          by_cases hl : m < s.size
          · have g := vd_vn h (Or.inr (by omega))
            have hz := size_beq g.pos
            obtain ⟨s2, p2, kk, E, A, Mk, K⟩ := up_pair g (k := m) (by omega)
            exact ⟨s2, p2, kk, E, fun W => dup_on MM (by simp [onB]; omega) A W, fun W => rup_lof h n0 n8 hz (by omega) Mk W, K⟩
          · have off : onB s false (m : Int) = false := by simp [onB]; omega
            by_cases hz0 : s.size = 0
            · exact bothR_ok (fun W => dup_off MM off (fun W => below_self h m8 (by omega) W) W) (fun W => rup_none h n0 n8 hz0 W)
            · have hz := size_beq (show 0 < s.size by omega)
              obtain ⟨s2, p2, B, Mk⟩ := low_pair h m8 (k := s.size) (by omega)
              by_cases e : m = s.size
              · subst e
                exact bothR_ok (fun W => dup_off MM off B W) (fun W => rup_eq h n8 hz Mk W)
              · exact bothR_ok (fun W => dup_off MM off B W) (fun W => rup_hi h n0 n8 hz (by omega) Mk W)
  · exact bothR_bad (fun W => dup_bad hs (fun g => h g.1) W) (fun W => rup_bad hs h W)

theorem round_both {s : ByteArray} {p : Int} {c : Bool} {n : Int} (hs : s.size ≤ 9223372036854775807) : BothR 12 13 s p c n := by
  by_cases h : VD s p c
  · by_cases n0 : n < 0
    · exact bothR_bad (fun W => dround_bad hs (fun g => by have := g.2.1; omega) W) (fun W => rround_neg h n0 W)
    · by_cases n8 : 800 < n
      · exact bothR_bad (fun W => dround_bad hs (fun g => by have := g.2.2.1; omega) W) (fun W => rround_many h n8 W)
      · obtain ⟨m, rfl⟩ : ∃ m : Nat, n = (m : Int) := ⟨n.toNat, by omega⟩
        have m8 : m ≤ 800 := by omega
        have sl := vd_len h
        by_cases hl : m < s.size
        · have g := vd_vn h (Or.inr (by omega))
          have MM : MR s p c (m : Int) ((s.size : Int) - 1) := ⟨h, by omega, by omega, fun _ => by omega⟩
          have on : onB s c (m : Int) = true := by simp [onB]; omega
          have U := fun W => roundsUp_any (p := p) (c := c) g.dg hl sl W
          have R := fun s2 p2 kk Mk W => rround_lo (s2 := s2) (p2 := p2) (kk := kk) g hl Mk W
          generalize upB s c m = u at U R
          cases u with
          | true =>
            obtain ⟨s2, p2, kk, E, A, Mk, K⟩ := up_pair g (k := m) (by omega)
            exact ⟨s2, p2, kk, E, fun W => dround_up MM on U A W, fun W => R _ _ _ Mk W, K⟩
          | false =>
            obtain ⟨s2, p2, B, Mk⟩ := low_pair h m8 (k := m) (by omega)
            exact bothR_ok (fun W => dround_dn MM on U B W) (fun W => R _ _ _ Mk W)
        · cases c with
          | true => exact bothR_bad (fun W => dround_bad hs (fun g => by have := g.2.2.2 rfl; omega) W) (fun W => rround_cut h n0 n8 (by omega) W)
          | false =>
            exact bothR_ok (fun W => dround_off ⟨h, by omega, by omega, fun g => by cases g⟩ (by simp [onB]; omega) (fun W => below_self h m8 (by omega) W) W) (fun W => rround_off h n0 n8 (by omega) W)
  · exact bothR_bad (fun W => dround_bad hs (fun g => h g.1) W) (fun W => rround_bad hs h W)

end Go.Proofs.YtladeppjccfbhaaDoor
