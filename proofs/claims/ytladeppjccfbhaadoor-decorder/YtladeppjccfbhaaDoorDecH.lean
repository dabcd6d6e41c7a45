/-
  dec's below and above answer what the document's made does.
-/
import Derived.Test.YtladeppjccfbhaaDoorDecG
namespace Go.Proofs.YtladeppjccfbhaaDoor
open Go.RowKit

/-- How many digits are ahead of the noughts behind. -/
theorem zeros_at (s : ByteArray) : ∀ n, ∃ m, m ≤ n ∧ (∀ j, m ≤ j → j < n → dgt s j = 48) ∧ (0 < m → dgt s (m - 1) ≠ 48)
  | 0 => ⟨0, Nat.le_refl _, fun _ _ h => absurd h (Nat.not_lt_zero _), fun h => absurd h (Nat.lt_irrefl _)⟩
  | n + 1 => by
    by_cases c : dgt s n = 48
    · obtain ⟨m, h1, h2, h3⟩ := zeros_at s n
      refine ⟨m, by omega, fun j a b => ?_, h3⟩
      by_cases z : j = n
      · rw [z]; exact c
      · exact h2 j a (by omega)
    · exact ⟨n + 1, Nat.le_refl _, fun j a b => absurd a (by omega), fun _ => c⟩

theorem low_pair {s : ByteArray} {p : Int} {c : Bool} (h : VD s p c) {n k : Nat} (hn : n ≤ 800) (hk : k = min n s.size) : ∃ (s2 : ByteArray) (p2 : Int),
    (∀ W, Calls Tryd.prog 50 #[dcV s p c, .int .i64 n] W fun e w' => e = .returned (dcV s2 p2 false) ∧ Below W.heap.size W w') ∧
    (∀ W, Calls Tryd.prog 51 #[dcV s p c, .int .i64 k, .bool false] W fun e w' => e = .returned (.tuple #[dcV s2 p2 false, .int .i64 0]) ∧ Below W.heap.size W w') := by
  obtain ⟨m, h1, h2, h3⟩ := zeros_at s k
  have hl : s.size ≤ 800 := by
    rcases h with g | g
    · have := g.1; omega
    · exact g.len
  by_cases z : m = 0
  · subst z
    have kz : k = 0 := by
      rcases h with g | g
      · have := g.1; omega
      · by_cases y : k = 0
        · exact y
        · have q := h2 0 (Nat.le_refl _) (by omega)
          rw [dgt_lt g.pos] at q
          exact absurd q g.first
    subst kz
    refine ⟨⟨#[]⟩, 0, fun W => ?_, fun W => made_z W⟩
    have q := below_any (p := p) (c := c) hl hn hk h1 h2 h3 W
    exact q
  · have g : VN s p c := h.resolve_left (fun g => by have := g.1; omega)
    refine ⟨s.extract 0 m, p, fun W => ?_, fun W => made_dn hl g.dg (by rw [dgt_lt g.pos]; exact g.first) (by omega) (by omega) h1 (by omega) h2 (h3 (by omega)) g.lo g.hi W⟩
    have q := below_any (p := p) (c := c) hl hn hk h1 h2 h3 W
    unfold lowD at q
    rw [if_neg z] at q
    exact q

theorem up_pair {s : ByteArray} {p : Int} {c : Bool} (g : VN s p c) {k : Nat} (hk : k ≤ s.size) : ∃ (s2 : ByteArray) (p2 : Int) (kk : Int) (E : Value),
    (∀ W, Calls Tryd.prog 49 #[dcV s p c, .int .i64 k] W fun e w' => e = .returned (.tuple #[dcV s2 p2 false, E]) ∧ Below W.heap.size W w') ∧
    (∀ W, Calls Tryd.prog 51 #[dcV s p c, .int .i64 k, .bool true] W fun e w' => e = .returned (.tuple #[dcV s2 p2 false, .int .i64 kk]) ∧ Below W.heap.size W w') ∧
    (∀ W, ErrT W → Calls Tryd.prog 10 #[E] W fun e w' => e = .returned (.int .i64 kk) ∧ Below W.heap.size W w') := by
  obtain ⟨m, h1, h2, h3⟩ := nines_at s k
  by_cases z : m = 0
  · subst z
    have h9 : ∀ i, i < k → dgt s i = 57 := fun i hi => h2 i (Nat.zero_le _) hi
    by_cases y : p = 1099511627776
    · subst y
      refine ⟨⟨#[]⟩, 0, 4, _, fun W => ?_, fun W => ?_, fun W hE => num_errno 4 W hE⟩
      · have q := above_none (p := 1099511627776) (c := c) g.len hk h9 (by omega) (by omega) W
        rw [if_pos rfl] at q
        exact q
      · by_cases x : k = 0
        · subst x; exact made_zb W
        · exact made_ub g.len g.dg (by omega) hk h9 W
    · refine ⟨⟨#[49]⟩, p + 1, 0, .nilIface, fun W => ?_, fun W => ?_, fun W _ => num_nil W⟩
      · have q := above_none (p := p) (c := c) g.len hk h9 g.lo g.hi W
        rw [if_neg y] at q
        exact q
      · have hi := g.hi
        by_cases x : k = 0
        · subst x; exact made_zu g.lo (by omega) W
        · exact made_un g.len g.dg (by omega) hk h9 g.lo (by omega) W
  · exact ⟨upS s m, p, 0, .nilIface, fun W => above_some g.dg g.len hk h1 (by omega) h2 (h3 (by omega)) W, fun W => made_up g.len g.dg (by rw [dgt_lt g.pos]; exact g.first) (by omega) hk h1 (by omega) h2 (h3 (by omega)) g.lo g.hi W, fun W _ => num_nil W⟩

end Go.Proofs.YtladeppjccfbhaaDoor
