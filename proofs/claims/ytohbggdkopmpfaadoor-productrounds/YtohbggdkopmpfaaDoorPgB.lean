/-
  What the calls of powers.number and powerOfFive answer.
-/
import Derived.Test.YtohbggdkopmpfaaDoorPgA
import Derived.Test.YtohbggdkopmpfaaDoorPn4
namespace Go.Proofs.YtohbggdkopmpfaaDoor
open Go.RowKit

theorem block_setRow {w : World} {g : Nat} {cs : Array Value} {k : Nat} (h : k ≠ g) : (w.setRow g cs).heap[k]? = w.heap[k]? := by
  simp only [World.setRow, Array.getElem?_modify]
  rw [if_neg (by omega)]
theorem size_u64 : (Tryd.prog.info? 22).map (·.size) = some 1 := by kernel_rfl
theorem und_u64s : Tryd.prog.underlying 65 = some (.slice 22) := by kernel_rfl
theorem num_copy {w : World} {g : Nat} (hg : w.heap[g]? = some (.cells #[.int .u64 0, .int .u64 0] 111 (0, 0))) {ao : Option Addr} {n c b o : Nat} {f : Nat → Nat} (S : Sl w ao n c b o f) (hn : n ≤ 2) :
    ∃ w2, (Builtin.copy_ #[65, 71] 3 #[.slice (some ⟨g, 0, none⟩) 2 2, .slice ao n c]).run Tryd.prog w = .ok (.int .i64 (n : Int)) w2 ∧ w2.cell? ⟨g, 0, none⟩ = some (.int .u64 (if 0 < n then (f 0 : Int) else 0)) ∧ w2.cell? ⟨g, 1, none⟩ = some (.int .u64 (if 1 < n then (f 1 : Int) else 0)) ∧ w.grownBy w2 (some g) := by
  have hgl : g < w.heap.size := (Array.getElem?_eq_some_iff.1 hg).1
  have gr : ∀ r : Array Value, w.grownBy (w.setRow g r) (some g) := fun r => ⟨rfl, rfl, rfl, by rw [size_setRow]; exact Nat.le_refl _, fun k hk hne => block_setRow (fun q => hne (by rw [q]))⟩
  rcases (by omega : n = 0 ∨ n = 1 ∨ n = 2) with rfl | rfl | rfl
  · refine ⟨w, run_copy_none w _ _ 3 22 _ _ _ _ _ _ und_u64s size_u64 (by simp), ?_, ?_, World.grownBy.refl _ _⟩
    · simp [World.cell?, hg]
    · simp [World.cell?, hg]
  · obtain rfl := S.addr (by omega)
    have e := run_copy_row (P := Tryd.prog) w 65 71 3 22 g 0 2 2 ⟨b, o, none⟩ 1 c _ 111 [.int .u64 (f 0 : Int)] und_u64s size_u64 hg rfl
      (fun j v hv => by
        rcases j with _ | j
        · have := Option.some.inj hv
          rw [← this]
          simpa [Addr.add] using S.cell 0 (by omega)
        · cases hv) (by simp) (by simp [Value.oneCell'])
    refine ⟨_, e, ?_, ?_, gr _⟩
    · simp [World.cell?, setRow_heap w g _ _ 111 (0, 0) hg]
    · simp [World.cell?, setRow_heap w g _ _ 111 (0, 0) hg]
  · obtain rfl := S.addr (by omega)
    have e := run_copy_row (P := Tryd.prog) w 65 71 3 22 g 0 2 2 ⟨b, o, none⟩ 2 c _ 111 [.int .u64 (f 0 : Int), .int .u64 (f 1 : Int)] und_u64s size_u64 hg rfl
      (fun j v hv => by
        rcases j with _ | _ | j
        · have := Option.some.inj hv
          rw [← this]
          simpa [Addr.add] using S.cell 0 (by omega)
        · have := Option.some.inj hv
          rw [← this]
          simpa [Addr.add] using S.cell 1 (by omega)
        · cases hv) (by simp) (by simp [Value.oneCell'])
    refine ⟨_, e, ?_, ?_, gr _⟩
    · simp [World.cell?, setRow_heap w g _ _ 111 (0, 0) hg]
    · simp [World.cell?, setRow_heap w g _ _ 111 (0, 0) hg]

theorem two_words {f : Nat → Nat} (hf : Ws f) {n : Nat} (t : Top f n) (h : V f n < 2 ^ 128) : n ≤ 2 ∧ (if 1 < n then (f 1 : Int) else 0) = hiW (V f n) ∧ (if 0 < n then (f 0 : Int) else 0) = loW (V f n) := by
  have h2 : V f n < B ^ 2 := by rw [show B ^ 2 = 2 ^ 128 from by decide]; exact h
  have hn : n ≤ 2 := len_le t h2
  have f0 := hf 0
  have f1 := hf 1
  refine ⟨hn, ?_⟩
  unfold hiW loW
  unfold B at f0 f1
  rcases (by omega : n = 0 ∨ n = 1 ∨ n = 2) with rfl | rfl | rfl
  · rw [V_zero]; simp
  · have e : V f 1 = f 0 := by rw [V_succ, V_zero, Nat.pow_zero]; omega
    rw [e]
    constructor
    · rw [if_neg (by omega)]; omega
    · rw [if_pos (by omega)]; omega
  · have e : V f 2 = f 0 + f 1 * 18446744073709551616 := by rw [V_succ, V_succ, V_zero, Nat.pow_zero, Nat.pow_one]; unfold B; omega
    rw [e]
    constructor
    · rw [if_pos (by omega)]; omega
    · rw [if_pos (by omega)]; omega

set_option maxRecDepth 100000 in
set_option maxHeartbeats 1000000 in
theorem number_ok {w : World} {va : Value} {X : Nat} (ha : NatV w va X) (hX : X < 2 ^ 128) :
    Calls Tryd.prog 36 #[va] w fun e w' => e = .returned (.agg #[.int .u64 (hiW X), .int .u64 (loW X)]) ∧ Below w.heap.size w w' := by
  obtain ⟨ao, n, c, b, o, f, rfl, S, t, rfl, hn⟩ := ha
  obtain ⟨hn2, e1, e0⟩ := two_words S.ws t hX
  obtain ⟨W, hW⟩ : ∃ W, (w.alloc (.cells #[.int .u64 0, .int .u64 0] 36)).alloc (.cells #[.int .u64 0, .int .u64 0] 111) = W := ⟨_, rfl⟩
  have bW : Below w.heap.size w W := by rw [← hW]; exact ((Below.refl _ _).alloc (Nat.le_refl _) _).alloc (by simp) _
  have sW : W.heap.size = w.heap.size + 2 := by rw [← hW]; simp
  have hg : W.heap[w.heap.size + 1]? = some (.cells #[.int .u64 0, .int .u64 0] 111 (0, 0)) := by
    rw [← hW]
    have q := heap_alloc_new (w.alloc (.cells #[.int .u64 0, .int .u64 0] 36)) (.cells #[.int .u64 0, .int .u64 0] 111)
    simpa using q
  have z0 : W.cell? ⟨w.heap.size, 0, none⟩ = some (.int .u64 0) := by rw [← hW]; simp
  have z1 : W.cell? ⟨w.heap.size, 1, none⟩ = some (.int .u64 0) := by rw [← hW]; simp
  have zf : ∀ o, W.frozen? ⟨w.heap.size, o, none⟩ = false := fun o => by rw [← hW, frozen?_alloc_cells]; exact World.frozen?_alloc_new _ _ _ _
  obtain ⟨w2, hcp, c0, c1, gr⟩ := num_copy hg (S.below bW) hn2
  rw [e0] at c0
  rw [e1] at c1
  have y0 : w2.cell? ⟨w.heap.size, 0, none⟩ = some (.int .u64 0) := (World.cell?_of_block (gr.block w.heap.size (by omega) (by simp))).trans z0
  have y1 : w2.cell? ⟨w.heap.size, 1, none⟩ = some (.int .u64 0) := (World.cell?_of_block (gr.block w.heap.size (by omega) (by simp))).trans z1
  have yf : ∀ o, w2.frozen? ⟨w.heap.size, o, none⟩ = false := fun o => (World.frozen?_of_block (gr.block w.heap.size (by omega) (by simp))).trans (zf o)
  have b2 : Below w.heap.size w w2 := bW.grown gr (by omega) (fun q hq => by have := Option.some.inj hq; omega)
  have HB : Hid (Below w.heap.size w w2) := b2
  generalize hiW (V f n) = h at *
  generalize loW (V f n) = l at *
  clear hX t e0 e1 hn hn2 S gr bW b2 hg z0 z1 zf
  go_enter Tryd.func36, Tryd.ntmps36
  go_wp2
  refine bodyPost_ret (v := .agg #[.int .u64 h, .int .u64 l]) (by simp [results, Tryd.results36, go_sem, y0, y1]) rfl ⟨rfl, (HB.out.setCell (Nat.le_refl _) _).setCell (Nat.le_refl _) _⟩

theorem five_lt {n K : Nat} (h : 3 * n < 64 * K) : 5 ^ n < B ^ K := by
  have a : 5 ^ n ≤ 8 ^ n := Nat.pow_le_pow_left (by omega) n
  rw [show 8 = 2 ^ 3 from rfl, ← Nat.pow_mul] at a
  rw [twoB_pow]
  exact Nat.lt_of_le_of_lt a (Nat.pow_lt_pow_right (by omega) h)
theorem five_bl {n : Nat} : bl (5 ^ n) ≤ 3 * n + 1 := by
  have a : 5 ^ n ≤ 8 ^ n := Nat.pow_le_pow_left (by omega) n
  rw [show 8 = 2 ^ 3 from rfl, ← Nat.pow_mul] at a
  exact bl_mono_le (Nat.lt_of_le_of_lt a (Nat.pow_lt_pow_right (by omega) (by omega)))

set_option maxRecDepth 100000 in
set_option maxHeartbeats 1000000 in
theorem pof_ok (n : Nat) (hn : n ≤ 400) (w : World) :
    Calls Tryd.prog 32 #[.int .i64 (n : Int)] w fun e w' => ∃ v, e = .returned (.tuple #[v, .int .i64 (bl (5 ^ n) : Int)]) ∧ NatV w' v (5 ^ n) ∧ Below w.heap.size w w' := by
  have P := power_ok 5 n (by decide) (by omega) (five_lt (by omega)) w
  obtain ⟨X, hX⟩ : ∃ X, X = 5 ^ n := ⟨_, rfl⟩
  rw [← hX] at P ⊢
  simp only [Int.cast_ofNat_Int] at P
  obtain ⟨L, hL⟩ : ∃ L, L = bl X := ⟨_, rfl⟩
  rw [← hL]
  have HL : Hid (L = bl X) := hL
  clear hX hL
  go_enter Tryd.func32, Tryd.ntmps32
  go_wp2_with fail
  refine P.mono ?_
  rintro e w1 ⟨v, rfl, n1, b1⟩
  have N1 : Hid (NatV w1 v X) := n1
  obtain ⟨ao, m, c, b, o, f, rfl, S, t, hv, hm⟩ := n1
  have BT := bitsN_any S
  rw [verr_ok hm t, num2_zero, hv, ← HL.out] at BT
  unfold errV at BT
  clear S t hv
  go_wp2_with fail
  refine BT.mono ?_
  rintro e w2 ⟨rfl, b2⟩
  go_wp2
  refine bodyPost_ret (v := .tuple #[.slice ao m c, .int .i64 (L : Int)]) (by simp [results, Tryd.results32, go_sem]) rfl ⟨_, rfl, N1.out.below b2, b1.trans (b2.mono b1.size)⟩

end Go.Proofs.YtohbggdkopmpfaaDoor
