/-
  What a call of the document's Read of numbers of 128 bits answers at a text that is no number's: ErrSyntax (mkdecrt.py: out of our own text RRead).
-/
import Derived.Test.YtghbngjjdeameaaGreatDoorDecRd
namespace Go.Proofs.YtghbngjjdeameaaGreatDoor
open Go.RowKit

set_option maxHeartbeats 1000000 in
theorem rread_bad (s : ByteArray) (hs : s.size ≤ maxLen) (hb : isNumB s = false) (w : World) :
    Calls Tryz.prog 25 #[.string s] w fun e w' => e = .returned (.tuple #[.agg #[.int .u64 0, .int .u64 0], .int .i64 3]) ∧ Below w.heap.size w w' := by
  have hn := not_isNum_of hb
  have HN : Hid (¬ isNum s) := hn
  clear hn hb
  unfold maxLen at hs
  by_cases z : s.size = 0
  · have z' : ((s.size : Int) == 0) = true := by simp [z]
    clear z
    go_enter Tryz.func25, Tryz.ntmps25
    go_wp2
    exact bodyPost_ret (v := .tuple #[.agg #[.int .u64 0, .int .u64 0], .int .i64 3]) (by simp [results, Tryz.results25, go_sem]) rfl ⟨rfl, (Below.refl _ _).alloc (Nat.le_refl _) _⟩
  · have h0 : 0 < s.size := by omega
    have z' : ((s.size : Int) == 0) = false := beq_eq_false_iff_ne.mpr (by omega)
    have e0 := byteAt_eq s 0 h0
    by_cases c : (1 : Int) < (s.size : Int) ∧ byteAt s 0 = 48
    · obtain ⟨c1, c2⟩ := c
      have c3 : (((s[0]'h0).toNat : Int) == 48) = true := beq_iff_eq.mpr (by omega)
      clear c2 e0 z
      go_enter Tryz.func25, Tryz.ntmps25
      go_wp2
      exact bodyPost_ret (v := .tuple #[.agg #[.int .u64 0, .int .u64 0], .int .i64 3]) (by simp [results, Tryz.results25, go_sem]) rfl ⟨rfl, (Below.refl _ _).alloc (Nat.le_refl _) _⟩
    · have cs : decide ((1 : Int) < (s.size : Int)) = false ∨ (decide ((1 : Int) < (s.size : Int)) = true ∧ (((s[0]'h0).toNat : Int) == 48) = false) := by
        by_cases q : (1 : Int) < (s.size : Int)
        · exact Or.inr ⟨by simpa using q, beq_eq_false_iff_ne.mpr (fun x => c ⟨q, by omega⟩)⟩
        · exact Or.inl (by simpa using q)
      have HC : Hid (digitsTo s s.size → False) := fun q => HN.out ⟨h0, q, fun x => by
        by_cases y : (1 : Int) < (s.size : Int)
        · exact absurd ⟨y, x⟩ c
        · omega⟩
      clear c e0 z HN
      rcases cs with c1 | ⟨c1, c2⟩
      all_goals
        go_enter Tryz.func25, Tryz.ntmps25
        go_wp2
        go_loop [4] (fun i => ∃ k : Nat, k ≤ s.size ∧ i = .int .i64 k ∧ digitsTo s k) (fun i => s.size - (intOf i).toNat)
        case atStart => exact ⟨0, Nat.zero_le _, rfl, fun j hj => absurd hj (by omega)⟩
        case round =>
          obtain ⟨k, hk, rfl, hd⟩ := hrel
          have HD : Hid (digitsTo s k) := hd
          clear hd
          by_cases hlt : k < s.size
          · have e := byteAt_eq s k hlt
            have HB : Hid (byteAt s k = (s[k]'hlt).toNat) := e
            clear e
            by_cases d1 : ((s[k]'hlt).toNat : Int) < 48
            · go_wp2
              exact bodyPost_ret (v := .tuple #[.agg #[.int .u64 0, .int .u64 0], .int .i64 3]) (by simp [results, Tryz.results25, go_sem]) rfl ⟨rfl, (Below.refl _ _).alloc (Nat.le_refl _) _⟩
            · have d1' : decide (((s[k]'hlt).toNat : Int) < 48) = false := by simpa using d1
              by_cases d2 : (57 : Int) < ((s[k]'hlt).toNat : Int)
              · go_wp2
                exact bodyPost_ret (v := .tuple #[.agg #[.int .u64 0, .int .u64 0], .int .i64 3]) (by simp [results, Tryz.results25, go_sem]) rfl ⟨rfl, (Below.refl _ _).alloc (Nat.le_refl _) _⟩
              · go_wp2
                go_round
                case rel => exact ⟨k + 1, by omega, by go_num, digitsTo_succ HD.out (by have := HB.out; omega) (by have := HB.out; omega)⟩
                case measure => simp [intOf]; omega
          · exfalso
            have e : k = s.size := by omega
            exact HC.out (e ▸ HD.out)

end Go.Proofs.YtghbngjjdeameaaGreatDoor
