/-
  What the calls of nat's length, Shl and Shr answer, for numbers.
-/
import Derived.Test.YtkkgancmodhghaaDoorNatQ
namespace Go.Proofs.YtkkgancmodhghaaDoor
open Go.RowKit

set_option maxRecDepth 100000 in
set_option maxHeartbeats 1000000 in
theorem length_any {w : World} {ao : Option Addr} {n c b o : Nat} {f : Nat → Nat} (S : Sl w ao n c b o f) (h0 : 0 < n) (hn : n ≤ 1000) :
    Calls Tryd.prog 62 #[.slice ao n c] w fun e w' => e = .returned (.int .i64 (((n : Int) - 1) * 64 + blen (f (n - 1) : Int))) ∧ Below w.heap.size w w' := by
  obtain rfl := S.addr h0
  have hc := S.cell (n - 1) (by omega)
  have hw := S.ws (n - 1)
  unfold B at hw
  have hb := blen_01 (f (n - 1) : Int) (by omega) (by omega)
  have e1 : ((n : Int) == 0) = false := beq_eq_false_iff_ne.mpr (by omega)
  have HL := len64_any (f (n - 1) : Int) ⟨by omega, by omega⟩ w
  generalize blen (f (n - 1) : Int) = L at *
  go_enter Tryd.func62, Tryd.ntmps62
  go_wp2_with fail
  refine HL.mono ?_
  rintro e w' ⟨rfl, rfl⟩
  go_wp2
  go_ret
  exact ⟨rfl, Below.refl _ _⟩

theorem twoB_pow (k : Nat) : B ^ k = 2 ^ (64 * k) := by
  rw [Nat.pow_mul]
  rfl

/-- A number of n words with its top word: at least 2 to its length less one. -/
theorem length_le {f : Nat → Nat} {n : Nat} (hf : Ws f) (t : Top f n) (h0 : 0 < n) : ∃ L : Nat, ((n : Int) - 1) * 64 + blen (f (n - 1) : Int) = (L : Int) + 1 ∧ 2 ^ L ≤ V f n := by
  obtain ⟨k, rfl⟩ : ∃ k, n = k + 1 := ⟨n - 1, by omega⟩
  have tk : f k ≠ 0 := by
    rcases t with z | z
    · omega
    · simpa using z
  have hw := hf k
  have hw' : f k < 18446744073709551616 := hw
  obtain ⟨m, e, hm, h1, _⟩ := blen_bounds (f k : Int) (by omega) (by omega)
  refine ⟨64 * k + m, ?_, ?_⟩
  · rw [show k + 1 - 1 = k by omega, e]
    omega
  · rw [V_succ, Nat.pow_add, ← twoB_pow]
    have h1' : 2 ^ m ≤ f k := by exact_mod_cast h1
    have := Nat.mul_le_mul_left (B ^ k) h1'
    rw [Nat.mul_comm (B ^ k) (f k)] at this
    omega

set_option maxRecDepth 100000 in
set_option maxHeartbeats 1000000 in
theorem shl_ok {w : World} {va : Value} {X : Nat} (ha : NatV w va X) (s : Nat) (h : X * 2 ^ s < B ^ 128) (hs : s ≤ 8192) :
    Calls Tryd.prog 31 #[va, .int .i64 (s : Int)] w fun e w' => ∃ v, e = .returned (.tuple #[v, .nilIface]) ∧ NatV w' v (X * 2 ^ s) ∧ Below w.heap.size w w' := by
  obtain ⟨ao, n, c, b, o, f, rfl, S, t, rfl, hn⟩ := ha
  have h1 := valid_any S
  rw [verr_ok hn t] at h1
  unfold errV at h1
  by_cases h0 : n = 0
  · subst h0
    go_enter Tryd.func31, Tryd.ntmps31
    go_wp2_with fail
    refine h1.mono ?_
    rintro e wa ⟨rfl, hba⟩
    go_wp2
    refine bodyPost_ret (v := .tuple #[.slice none 0 0, .nilIface]) (by simp [results, Tryd.results31, go_sem]) rfl ⟨_, rfl, ?_, hba⟩
    rw [V_zero, Nat.zero_mul]
    exact natv_nil _
  · have e1 : ((n : Int) == 0) = false := beq_eq_false_iff_ne.mpr (by omega)
    obtain ⟨L, eL, hL⟩ := length_le S.ws t (by omega)
    have hLs : L + s < 8192 := by
      obtain ⟨M, hM, hBM⟩ : ∃ M, M = 8192 ∧ B ^ 128 = 2 ^ M := ⟨64 * 128, rfl, twoB_pow 128⟩
      have q : 2 ^ (L + s) < 2 ^ M := by
        rw [Nat.pow_add]
        refine Nat.lt_of_le_of_lt (Nat.mul_le_mul_right _ hL) ?_
        rw [hBM] at h
        exact h
      have := (Nat.pow_lt_pow_iff_right (a := 2) (by omega)).1 q
      omega
    have HH : Hid (V f n * 2 ^ s < B ^ 128) := h
    have HS : Hid (Sl w ao n c b o f) := S
    obtain ⟨q, p, hsq, hp⟩ : ∃ q p, s = 64 * q + p ∧ p < 64 := ⟨s / 64, s % 64, by omega, by omega⟩
    have hq : q ≤ 1000 := by omega
    have cL : ¬ (8192 : Int) - ((L : Int) + 1) < (s : Int) := by omega
    have cL2 : (0 : Int) ≤ (s : Int) := by omega
    have HQ : Hid (s = 64 * q + p) := hsq
    clear h hL S t hsq
    go_enter Tryd.func31, Tryd.ntmps31
    go_wp2_with fail
    refine h1.mono ?_
    rintro e wa ⟨rfl, hba⟩
    have LN := length_any (HS.out.below hba) (by omega) (by omega)
    rw [eL] at LN
    clear h1
    go_wp2_with fail
    refine LN.mono ?_
    rintro e wb ⟨rfl, hbb⟩
    have BB : Below w.heap.size w wb := hba.trans (hbb.mono hba.size)
    have SU := shiftUp_any (HS.out.below BB) (by omega) s q p HQ.out hp hq
    clear LN eL hba hbb
    go_wp2_with fail
    refine SU.mono ?_
    rintro e wc ⟨rfl, hbc, F, R, hv⟩
    obtain ⟨nv, hl⟩ := natv_tl R (by unfold maxLen; omega) hv HH.out
    have BC : Below w.heap.size w wc := BB.trans (hbc.mono BB.size)
    have TT := trim_any (row_sl0 R (by unfold maxLen; omega))
    go_wp2_with fail
    refine TT.mono ?_
    rintro e w4 ⟨rfl, rfl⟩
    go_wp2
    refine bodyPost_ret (v := .tuple #[.slice (some ⟨wb.heap.size, 0, none⟩) (tl F (q + n + 1)) (tl F (q + n + 1)), .nilIface]) (by simp [results, Tryd.results31, go_sem]) rfl ⟨_, rfl, nv, BC⟩

end Go.Proofs.YtkkgancmodhghaaDoor
