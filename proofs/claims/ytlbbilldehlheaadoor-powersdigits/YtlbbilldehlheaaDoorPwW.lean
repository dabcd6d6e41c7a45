/-
  What the document's wide of layer 13 answers: a number of at most 128 bits as two words.
-/
import Derived.Test.YtlbbilldehlheaaDoorPgM
import Derived.Test.YtlbbilldehlheaaDoorPwF
namespace Go.Proofs.YtlbbilldehlheaaDoor
open Go.RowKit

theorem pair13 {x y : Nat} (hx : x < Big.B) (hy : y < Big.B) : bits .or .u64 ((y : Int) * 4294967296) (x : Int) = ((y * 4294967296 + x : Nat) : Int) := by
  unfold Big.B at hx hy
  have e : (y : Int) * 4294967296 = ((y * 2 ^ 32 : Nat) : Int) := by rw [Int.natCast_mul]; rfl
  rw [e, bits_or_u64_nat _ _ (by simp only [Nat.reducePow]; omega) (by omega), Nat.or_comm, or_sum (by simp only [Nat.reducePow]; omega)]
  simp only [Nat.reducePow]
  omega
theorem four_digits {f : Nat → Nat} {n : Nat} (t : Big.Top f n) (h : Big.V f n < 2 ^ 128) : n ≤ 4 ∧ Big.V f n = cut f n 0 + cut f n 1 * 4294967296 + cut f n 2 * 18446744073709551616 + cut f n 3 * 79228162514264337593543950336 := by
  have hn : n ≤ 4 := Big.len_le t (by rw [show Big.B ^ 4 = 2 ^ 128 from by decide]; exact h)
  refine ⟨hn, ?_⟩
  rw [← cut_V (g := f) hn, Big.V_succ, Big.V_succ, Big.V_succ, Big.V_succ, Big.V_zero]
  rw [show Big.B ^ 0 = 1 from rfl, show Big.B ^ 1 = 4294967296 from rfl, show Big.B ^ 2 = 18446744073709551616 from rfl, show Big.B ^ 3 = 79228162514264337593543950336 from rfl]
  omega
theorem cut_ws {f : Nat → Nat} (hf : Big.Ws f) (n i : Nat) : cut f n i < Big.B := by
  unfold cut
  split
  · exact hf i
  · exact Big.B_pos
theorem cut_up {f : Nat → Nat} {k i : Nat} (h : i ≠ k) : cut f (k + 1) i = cut f k i := by
  unfold cut
  by_cases c : i < k
  · rw [if_pos c, if_pos (by omega)]
  · rw [if_neg c, if_neg (by omega)]

set_option maxRecDepth 100000 in
set_option maxHeartbeats 2000000 in
theorem rwide_ok {w : World} {va : Value} {X : Nat} (ha : Big.D.NatV w va X) (hX : X < 2 ^ 128) :
    Calls Tryd.prog 27 #[va] w fun e w' => e = .returned (.agg #[.int .u64 (hiW X), .int .u64 (loW X)]) ∧ Below w.heap.size w w' := by
  obtain ⟨ao, n, c, b, o, f, rfl, S, t, rfl⟩ := ha
  obtain ⟨hn, hV⟩ := four_digits t hX
  have HS : Hid (Big.D.Sl w ao n c b o f) := S
  obtain ⟨mh, hmh⟩ : ∃ mh, mh = hiW (Big.V f n) := ⟨_, rfl⟩
  obtain ⟨ml, hml⟩ : ∃ ml, ml = loW (Big.V f n) := ⟨_, rfl⟩
  have HV : Hid (Big.V f n = cut f n 0 + cut f n 1 * 4294967296 + cut f n 2 * 18446744073709551616 + cut f n 3 * 79228162514264337593543950336 ∧ mh = hiW (Big.V f n) ∧ ml = loW (Big.V f n)) := ⟨hV, hmh, hml⟩
  rw [← hmh, ← hml]
  clear S t hX hV hmh hml
  go_enter Tryd.func27, Tryd.ntmps27
  go_wp2
  go_loopw [4] (fun i wr => ∃ k : Nat, i = .int .i64 (k : Int) ∧ k ≤ n ∧ FlB wr (w.heap.size + 1) (.int .u64 (cut f k 0 : Int)) (.int .u64 (cut f k 1 : Int)) (.int .u64 (cut f k 2 : Int)) (.int .u64 (cut f k 3 : Int)) ∧ TwB wr w.heap.size (.int .u64 0) (.int .u64 0) ∧ Below w.heap.size w wr) (fun i _ => n - (intOf i).toNat)
  case atStart =>
    exact ⟨0, rfl, Nat.zero_le _, FlB.newAt _ _ _ _ _ _ (by simp), (TwB.new w _ _ _).al _, ((Below.refl _ _).alloc (Nat.le_refl _) _).alloc (by simp) _⟩
  case round =>
    obtain ⟨k, rfl, hk, hF, hT, hb⟩ := hrel
    have HF : Hid (FlB wr (w.heap.size + 1) (.int .u64 (cut f k 0 : Int)) (.int .u64 (cut f k 1 : Int)) (.int .u64 (cut f k 2 : Int)) (.int .u64 (cut f k 3 : Int)) ∧ TwB wr w.heap.size (.int .u64 0) (.int .u64 0) ∧ Below w.heap.size w wr) := ⟨hF, hT, hb⟩
    by_cases c1 : k < n
    · obtain rfl := HS.out.addr (by omega)
      have hc := (HS.out.below hb).cell k c1
      have hck : ∃ u, wr.cell? ⟨w.heap.size + 1, k, none⟩ = some u ∧ wr.frozen? ⟨w.heap.size + 1, k, none⟩ = false := by
        obtain ⟨_, a0, a1, a2, a3, f0, f1, f2, f3⟩ := hF
        rcases (by omega : k = 0 ∨ k = 1 ∨ k = 2 ∨ k = 3) with rfl | rfl | rfl | rfl
        · exact ⟨_, a0, f0⟩
        · exact ⟨_, a1, f1⟩
        · exact ⟨_, a2, f2⟩
        · exact ⟨_, a3, f3⟩
      obtain ⟨u, hu, hfu⟩ := hck
      have HN : Hid (∀ v : Value, v = .int .u64 (f k : Int) → FlB (wr.setCell ⟨w.heap.size + 1, k, none⟩ v) (w.heap.size + 1) (.int .u64 (cut f (k + 1) 0 : Int)) (.int .u64 (cut f (k + 1) 1 : Int)) (.int .u64 (cut f (k + 1) 2 : Int)) (.int .u64 (cut f (k + 1) 3 : Int))) := by
        intro v hv
        subst hv
        have e0 : ∀ i, i ≠ k → cut f (k + 1) i = cut f k i := fun i h => cut_up h
        have e1 : cut f (k + 1) k = f k := cut_in (by omega)
        rcases (by omega : k = 0 ∨ k = 1 ∨ k = 2 ∨ k = 3) with rfl | rfl | rfl | rfl
        · rw [e1, e0 1 (by omega), e0 2 (by omega), e0 3 (by omega)]; exact HF.out.1.set0 _
        · rw [e1, e0 0 (by omega), e0 2 (by omega), e0 3 (by omega)]; exact HF.out.1.set1 _
        · rw [e1, e0 0 (by omega), e0 1 (by omega), e0 3 (by omega)]; exact HF.out.1.set2 _
        · rw [e1, e0 0 (by omega), e0 1 (by omega), e0 2 (by omega)]; exact HF.out.1.set3 _
      have hk4 : k < 4 := by omega
      clear hF hT hb
      go_wp2
      go_roundw
      case rel =>
        exact ⟨k + 1, by go_num, c1, HN.out _ rfl, HF.out.2.1.far _ _ (by show w.heap.size ≠ w.heap.size + 1; omega), HF.out.2.2.setCell (by show w.heap.size ≤ w.heap.size + 1; omega) _⟩
      case measure => simp [intOf]; omega
    · obtain rfl : k = n := by omega
      obtain ⟨_, a0, a1, a2, a3, f0, f1, f2, f3⟩ := hF
      obtain ⟨_, t0, t1, g0, g1⟩ := hT
      have b0 := cut_ws HS.out.ws k 0
      have b1 := cut_ws HS.out.ws k 1
      have b2 := cut_ws HS.out.ws k 2
      have b3 := cut_ws HS.out.ws k 3
      have p1 := pair13 b2 b3
      have p0 := pair13 b0 b1
      unfold Big.B at b0 b1 b2 b3
      have HE : Hid (((cut f k 3 * 4294967296 + cut f k 2 : Nat) : Int) = mh ∧ ((cut f k 1 * 4294967296 + cut f k 0 : Nat) : Int) = ml) := by
        obtain ⟨v, e1, e2⟩ := HV.out
        rw [e1, e2]
        unfold hiW loW
        constructor <;> omega
      have HB : Hid (Below w.heap.size w wr) := hb
      clear HF hb c1
      generalize cut f k 0 = x0 at *
      generalize cut f k 1 = x1 at *
      generalize cut f k 2 = x2 at *
      generalize cut f k 3 = x3 at *
      rw [HE.out.1] at p1
      rw [HE.out.2] at p0
      go_wp2
      refine bodyPost_ret (v := .agg #[.int .u64 mh, .int .u64 ml]) (by simp [results, Tryd.results27, go_sem, World.cell?_setCell_same, World.cell?_setCell_other, t0, t1]) rfl ⟨rfl, (HB.out.setCell (Nat.le_refl _) _).setCell (Nat.le_refl _) _⟩

end Go.Proofs.YtlbbilldehlheaaDoor
