/-
  What a call of wide.DivWord answers, for all numbers of two words and all words: the quotient and what is left, or ErrZero.
-/
import Derived.Test.YtmbhmiidelcieaaDoorTextM
import Derived.Test.YtmbhmiidelcieaaDoorShM
namespace Go.Proofs.YtmbhmiidelcieaaDoor
open Go.RowKit

set_option maxHeartbeats 400000 in
theorem wdivw_zero (ah al : Int) (w : World) :
    Calls Tryd.prog 16 #[.agg #[.int .u64 ah, .int .u64 al], .int .u64 0] w fun e w' => e = .returned (.tuple #[.agg #[.int .u64 0, .int .u64 0], .int .u64 0, .iface 55 (.int .i64 10)]) ∧ Below w.heap.size w w' := by
  go_enter Tryd.func16, Tryd.ntmps16
  go_wp2
  exact bodyPost_ret (v := .tuple #[.agg #[.int .u64 0, .int .u64 0], .int .u64 0, .iface 55 (.int .i64 10)]) (by simp [results, Tryd.results16, go_sem]) rfl ⟨rfl, ((Below.refl _ _).alloc (Nat.le_refl _) _).alloc (by simp) _⟩

set_option maxHeartbeats 400000 in
theorem wdivw_any (ah al b : Int) (h1 : Word ah) (h2 : Word al) (h3 : Word b) (hb : 0 < b) (w : World) :
    Calls Tryd.prog 16 #[.agg #[.int .u64 ah, .int .u64 al], .int .u64 b] w fun e w' => e = .returned (.tuple #[.agg #[.int .u64 (ah / b), .int .u64 (dvQ (ah % b) al b)], .int .u64 (dvR (ah % b) al b), .nilIface]) ∧ Below w.heap.size w w' := by
  have hz : (b == 0) = false := by simp; omega
  go_enter Tryd.func16, Tryd.ntmps16
  go_wp2_with (go_at_call 31; refine (wdivide_any ah al b h1 h2 h3 hb _).mono ?_; rintro e wa ⟨rfl, hba⟩; obtain ⟨hca, hfa⟩ := bcell hba; have sa := hba.size; simp at hca hfa sa; have q0 : w.heap.size < wa.heap.size := (by omega); have q1 : w.heap.size + 1 < wa.heap.size := (by omega))
  refine bodyPost_ret (v := .tuple #[.agg #[.int .u64 (ah / b), .int .u64 (dvQ (ah % b) al b)], .int .u64 (dvR (ah % b) al b), .nilIface]) (by simp [results, Tryd.results16, go_sem, hca, q1]) rfl ⟨rfl, ?_⟩
  exact ((((((Below.refl _ _).alloc (Nat.le_refl _) _).alloc (by simp) _).trans (hba.mono (by simp; omega))).setCell (by simp) _).setCell (by simp) _).alloc (by simp; omega) _

/-! ### The ring's facts -/
theorem add_comm_hi (ah al bh bl : Int) : sHi bh bl ah al = sHi ah al bh bl := by unfold sHi a3Lo a3C; omega
theorem add_comm_lo (al bl : Int) : sLo bl al = sLo al bl := by unfold sLo a3Lo; omega
theorem back_hi {ah al bh bl : Int} (h1 : Word ah) (h2 : Word al) (h4 : Word bl) : dHi (sHi ah al bh bl) (sLo al bl) bh bl = ah := by
  unfold Word at *
  unfold dHi sHi sLo s3Lo s3B a3Lo a3C
  split <;> omega
theorem back_lo {al bl : Int} (h2 : Word al) : dLo (sLo al bl) bl = al := by
  unfold Word at *
  unfold dLo sLo s3Lo a3Lo
  omega

/-- A quotient times the divisor, and what is left, are the number. -/
theorem quot_back {h l b : Int} (h1 : Word h) (h2 : Word l) (h3 : Word b) (hb : 0 < b) :
    m3Top (h / b) (dvQ (h % b) l b) b = 0 ∧ sOv (m3Mid (h / b) (dvQ (h % b) l b) b) (mLo (dvQ (h % b) l b) b) 0 (dvR (h % b) l b) = false ∧
      sHi (m3Mid (h / b) (dvQ (h % b) l b) b) (mLo (dvQ (h % b) l b) b) 0 (dvR (h % b) l b) = h ∧ sLo (mLo (dvQ (h % b) l b) b) (dvR (h % b) l b) = l := by
  obtain ⟨e1, e2⟩ := divw_eq (h := h) (l := l) hb
  have m := Int.mul_ediv_add_emod (h * 18446744073709551616 + l) b
  have r0 := Int.emod_nonneg (h * 18446744073709551616 + l) (b := b) (by omega)
  have r1 := Int.emod_lt_of_pos (h * 18446744073709551616 + l) hb
  rw [← e1, ← e2] at m
  rw [← e2] at r0 r1
  obtain ⟨w1, w2⟩ := divw_words h1 h2 h3 hb
  generalize h / b = q1 at *
  generalize dvQ (h % b) l b = q0 at *
  generalize dvR (h % b) l b = r at *
  have p1 := Int.mul_nonneg w1.1 h3.1
  have p0 := Int.mul_nonneg w2.1 h3.1
  have k1 := h1.1; have k2 := h1.2; have k3 := h2.1; have k4 := h2.2; have k5 := h3.2
  have mm : b * (q1 * 18446744073709551616 + q0) = q1 * b * 18446744073709551616 + q0 * b := by
    rw [Int.mul_add, ← Int.mul_assoc, Int.mul_comm b q1, Int.mul_comm b q0]
  rw [mm] at m
  have dm : ∀ x : Int, x = x / 18446744073709551616 * 18446744073709551616 + x % 18446744073709551616 ∧ 0 ≤ x % 18446744073709551616 ∧ x % 18446744073709551616 < 18446744073709551616 := fun x => by omega
  unfold m3Top m3Mid mHi mLo sOv sHi sLo a3C a3Lo
  simp only [Int.add_zero]
  generalize q0 * b = X at *
  generalize q1 * b = Z at *
  have A := dm X
  have B := dm Z
  generalize X / 18446744073709551616 = a1 at *
  generalize X % 18446744073709551616 = a0 at *
  generalize Z / 18446744073709551616 = b1 at *
  generalize Z % 18446744073709551616 = b0 at *
  have C := dm (b0 + a1)
  have E := dm (a0 + r)
  generalize (b0 + a1) / 18446744073709551616 = c1 at *
  generalize (b0 + a1) % 18446744073709551616 = c0 at *
  generalize (a0 + r) / 18446744073709551616 = e1 at *
  generalize (a0 + r) % 18446744073709551616 = e0 at *
  have F := dm (c0 + e1)
  generalize (c0 + e1) / 18446744073709551616 = f1 at *
  generalize (c0 + e1) % 18446744073709551616 = f0 at *
  have G : h * 18446744073709551616 + l = (b1 + c1 + f1) * 340282366920938463463374607431768211456 + f0 * 18446744073709551616 + e0 := by omega
  have n1 : 0 ≤ b1 := by omega
  have n3 : 0 ≤ a1 := by omega
  have n2 : 0 ≤ c1 := by omega
  have n4 : 0 ≤ f1 := by omega
  obtain ⟨-, F0, F1⟩ := F
  obtain ⟨-, E0, E1⟩ := E
  clear A B C dm m mm p1 p0
  have z : b1 + c1 + f1 = 0 := by omega
  refine ⟨by omega, ?_, by omega, by omega⟩
  simp only [bne_eq_false_iff_eq]
  omega

end Go.Proofs.YtmbhmiidelcieaaDoor
