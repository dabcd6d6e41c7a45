/-
  What nat's Add, Mul, Div, Shl, Shr answer lies in memory of its own: of all rows of words, errors too.
-/
import Derived.Test.YtkkgancmodhghaaDoorNatNw
namespace Go.Proofs.YtkkgancmodhghaaDoor
open Go.RowKit

set_option maxHeartbeats 1000000 in
theorem mul_long {w : World} {va vb : Value} {X Y : Nat} (ha : NatV w va X) (hb : NatV w vb Y) (h : ¬ X * Y < B ^ 128) :
    Calls Tryd.prog 22 #[va, vb] w fun e w' => e = .returned (.tuple #[.slice none 0 0, .iface 82 (.int .i64 20)]) ∧ Below w.heap.size w w' := by
  obtain ⟨ao, n, c, b, o, f, rfl, S, t, rfl, hn⟩ := ha
  obtain ⟨bo, m, cb, bb, ob, G, rfl, S', t', rfl, hm⟩ := hb
  have h1 := both_any S S'
  rw [verr2_ok hn t hm t'] at h1
  unfold errV at h1
  have HH : Hid (¬ V f n * V G m < B ^ 128) := h
  clear h
  go_enter Tryd.func22, Tryd.ntmps22
  go_wp2_with fail
  refine h1.mono ?_
  rintro e wa ⟨rfl, hba⟩
  have T := multiply_any (S.below hba) (S'.below hba) (by omega) (by omega)
  go_wp2_with fail
  refine T.mono ?_
  rintro e wb ⟨rfl, hbb, F, R, hv⟩
  have hl : 128 < tl F (n + m) := by
    rcases Nat.lt_or_ge 128 (tl F (n + m)) with z | z
    · exact z
    · exfalso
      have p := Nat.lt_of_lt_of_le (V_lt R.ws (tl F (n + m))) (Nat.pow_le_pow_right B_pos z)
      rw [tl_V] at p
      exact HH.out (by omega)
  have FT : Calls Tryd.prog 45 #[.slice (some ⟨wa.heap.size, 0, none⟩) (n + m) (n + m)] wb fun e w' => e = .returned (.tuple #[.slice none 0 0, .iface 82 (.int .i64 20)]) ∧ w' = wb := fit_big (row_sl0 R (by unfold maxLen; omega)) hl
  go_wp2_with fail
  refine FT.mono ?_
  rintro e wc ⟨rfl, rfl⟩
  go_wp2
  refine bodyPost_ret (v := .tuple #[.slice none 0 0, .iface 82 (.int .i64 20)]) (by simp [results, Tryd.results22, go_sem]) rfl ⟨rfl, hba.trans (hbb.mono hba.size)⟩

theorem top_nought {f : Nat → Nat} {n : Nat} (t : Top f n) (h : V f n = 0) : n = 0 := by
  rcases Nat.eq_zero_or_pos n with q | q
  · exact q
  · have := Top_ge t q
    have := Bp_pos (n - 1)
    omega


set_option maxHeartbeats 1000000 in
theorem add_own {w : World} {ao : Option Addr} {n c b o : Nat} {f : Nat → Nat} (S : Sl w ao n c b o f) {bo : Option Addr} {m cb bb ob : Nat} {g : Nat → Nat} (S' : Sl w bo m cb bb ob g) :
    Calls Tryd.prog 10 #[.slice ao n c, .slice bo m cb] w fun e w' => ∃ v u X, e = .returned (.tuple #[v, u]) ∧ NewN w' w.heap.size v X ∧ Below w.heap.size w w' := by
  by_cases q : verr2 f n g m = 0
  · obtain ⟨q1, q2⟩ := verr2_both q
    by_cases lt : V f n + V g m < B ^ 128
    · exact (add_new (natv_mk S q1) (natv_mk S' q2) lt).mono fun _ _ ⟨v, e, h, b⟩ => ⟨v, _, _, e, h, b⟩
    · exact (add_big (natv_mk S q1) (natv_mk S' q2) lt).mono fun _ _ ⟨e, b⟩ => ⟨_, _, _, e, newn_nil _ _, b⟩
  · skip
    have h1 := both_any S S'
    rw [errV_succ q] at h1
    generalize verr2 f n g m = k at *
    go_enter Tryd.func10, Tryd.ntmps10
    go_wp2_with fail
    refine h1.mono ?_
    rintro e wa ⟨rfl, hba⟩
    go_wp2
    refine bodyPost_ret (v := .tuple #[.slice none 0 0, .iface 82 (.int .i64 (k : Int))]) (by simp [results, Tryd.results10, go_sem]) rfl ⟨_, _, _, rfl, newn_nil _ _, hba⟩

set_option maxHeartbeats 1000000 in
theorem mul_own {w : World} {ao : Option Addr} {n c b o : Nat} {f : Nat → Nat} (S : Sl w ao n c b o f) {bo : Option Addr} {m cb bb ob : Nat} {g : Nat → Nat} (S' : Sl w bo m cb bb ob g) :
    Calls Tryd.prog 22 #[.slice ao n c, .slice bo m cb] w fun e w' => ∃ v u X, e = .returned (.tuple #[v, u]) ∧ NewN w' w.heap.size v X ∧ Below w.heap.size w w' := by
  by_cases q : verr2 f n g m = 0
  · obtain ⟨q1, q2⟩ := verr2_both q
    by_cases lt : V f n * V g m < B ^ 128
    · exact (mul_new (natv_mk S q1) (natv_mk S' q2) lt).mono fun _ _ ⟨v, e, h, b⟩ => ⟨v, _, _, e, h, b⟩
    · exact (mul_long (natv_mk S q1) (natv_mk S' q2) lt).mono fun _ _ ⟨e, b⟩ => ⟨_, _, _, e, newn_nil _ _, b⟩
  · skip
    have h1 := both_any S S'
    rw [errV_succ q] at h1
    generalize verr2 f n g m = k at *
    go_enter Tryd.func22, Tryd.ntmps22
    go_wp2_with fail
    refine h1.mono ?_
    rintro e wa ⟨rfl, hba⟩
    go_wp2
    refine bodyPost_ret (v := .tuple #[.slice none 0 0, .iface 82 (.int .i64 (k : Int))]) (by simp [results, Tryd.results22, go_sem]) rfl ⟨_, _, _, rfl, newn_nil _ _, hba⟩

set_option maxHeartbeats 1000000 in
theorem div_own {w : World} (hT : Tab w) {ao : Option Addr} {n c b o : Nat} {f : Nat → Nat} (S : Sl w ao n c b o f) {bo : Option Addr} {m cb bb ob : Nat} {g : Nat → Nat} (S' : Sl w bo m cb bb ob g) :
    Calls Tryd.prog 24 #[.slice ao n c, .slice bo m cb] w fun e w' => ∃ v1 v2 u X Y, e = .returned (.tuple #[v1, v2, u]) ∧ NewN w' w.heap.size v1 X ∧ NewN w' w.heap.size v2 Y ∧ Below w.heap.size w w' := by
  by_cases q : verr2 f n g m = 0
  · obtain ⟨q1, q2⟩ := verr2_both q
    by_cases z : V g m = 0
    · have h1 := both_any S S'
      rw [q] at h1
      obtain ⟨_, t'⟩ := verr_nat q2
      obtain rfl := top_nought t' z
      unfold errV at h1
      clear q q1 q2 z t'
      go_enter Tryd.func24, Tryd.ntmps24
      go_wp2_with fail
      refine h1.mono ?_
      rintro e wa ⟨rfl, hba⟩
      go_wp2
      refine bodyPost_ret (v := .tuple #[.slice none 0 0, .slice none 0 0, .iface 82 (.int .i64 10)]) (by simp [results, Tryd.results24, go_sem]) rfl ⟨_, _, _, _, _, rfl, newn_nil _ _, newn_nil _ _, hba⟩
    · exact (div_new hT (natv_mk S q1) (natv_mk S' q2) z).mono fun _ _ ⟨v1, v2, e, h1, h2, b⟩ => ⟨v1, v2, _, _, _, e, h1, h2, b⟩
  · skip
    have h1 := both_any S S'
    rw [errV_succ q] at h1
    generalize verr2 f n g m = k at *
    go_enter Tryd.func24, Tryd.ntmps24
    go_wp2_with fail
    refine h1.mono ?_
    rintro e wa ⟨rfl, hba⟩
    go_wp2
    refine bodyPost_ret (v := .tuple #[.slice none 0 0, .slice none 0 0, .iface 82 (.int .i64 (k : Int))]) (by simp [results, Tryd.results24, go_sem]) rfl ⟨_, _, _, _, _, rfl, newn_nil _ _, newn_nil _ _, hba⟩

set_option maxHeartbeats 1000000 in
theorem shl_own {w : World} {ao : Option Addr} {n c b o : Nat} {f : Nat → Nat} (S : Sl w ao n c b o f) :
    Calls Tryd.prog 31 #[.slice ao n c, .int .i64 0] w fun e w' => ∃ v u X, e = .returned (.tuple #[v, u]) ∧ NewN w' w.heap.size v X ∧ Below w.heap.size w w' := by
  by_cases q : verr f n = 0
  · obtain ⟨hn, _⟩ := verr_nat q
    exact (shl_new (natv_mk S q) 0 (by rw [Nat.pow_zero, Nat.mul_one]; exact V_small S.ws hn) (by omega)).mono fun _ _ ⟨v, e, h, b⟩ => ⟨v, _, _, e, h, b⟩
  · skip
    have h1 := valid_any S
    rw [errV_succ q] at h1
    generalize verr f n = k at *
    go_enter Tryd.func31, Tryd.ntmps31
    go_wp2_with fail
    refine h1.mono ?_
    rintro e wa ⟨rfl, hba⟩
    go_wp2
    refine bodyPost_ret (v := .tuple #[.slice none 0 0, .iface 82 (.int .i64 (k : Int))]) (by simp [results, Tryd.results31, go_sem]) rfl ⟨_, _, _, rfl, newn_nil _ _, hba⟩

set_option maxHeartbeats 1000000 in
theorem shr_own {w : World} (hT : Tab w) {ao : Option Addr} {n c b o : Nat} {f : Nat → Nat} (S : Sl w ao n c b o f) :
    Calls Tryd.prog 33 #[.slice ao n c, .int .i64 0] w fun e w' => ∃ v t u X, e = .returned (.tuple #[v, t, u]) ∧ NewN w' w.heap.size v X ∧ Below w.heap.size w w' := by
  by_cases q : verr f n = 0
  · exact (shr_new hT (natv_mk S q) 0 (by omega)).mono fun _ _ ⟨v, e, h, b⟩ => ⟨v, _, _, _, e, h, b⟩
  · skip
    have h1 := valid_any S
    rw [errV_succ q] at h1
    generalize verr f n = k at *
    go_enter Tryd.func33, Tryd.ntmps33
    go_wp2_with fail
    refine h1.mono ?_
    rintro e wa ⟨rfl, hba⟩
    go_wp2
    refine bodyPost_ret (v := .tuple #[.slice none 0 0, .bool false, .iface 82 (.int .i64 (k : Int))]) (by simp [results, Tryd.results33, go_sem]) rfl ⟨_, _, _, _, rfl, newn_nil _ _, hba⟩


theorem NewN.form {w : World} {base : Nat} {v : Value} {X : Nat} (h : NewN w base v X) : ∃ a n c, v = .slice a n c := by
  obtain ⟨⟨ao, n, c, _, _, _, e, _⟩, _⟩ := h
  exact ⟨ao, n, c, e⟩
/-- A value that can be written over, in a row apart from the block G. -/
def Wr (w : World) (base G : Nat) (v : Value) : Prop := v = .slice none 0 0 ∨ ∃ g k N F, v = .slice (some ⟨g, 0, none⟩) k k ∧ k ≤ N ∧ k ≤ 128 ∧ Row w g N F ∧ base ≤ g ∧ g ≠ G
theorem NewN.wr {w : World} {base base' G : Nat} {v : Value} {X : Nat} (h : NewN w base v X) (hb : base' ≤ base) (hG : w.heap.size ≤ G) : Wr w base' G v := by
  rcases h.2 with q | ⟨g, k, N, F, e, a, b, R, c⟩
  · exact Or.inl q
  · exact Or.inr ⟨g, k, N, F, e, a, b, R, Nat.le_trans hb c, Nat.ne_of_lt (Nat.lt_of_lt_of_le R.row.lt hG)⟩
theorem Wr.below {w w' : World} {base G : Nat} {v : Value} (h : Wr w base G v) (hb : Below w.heap.size w w') : Wr w' base G v := by
  rcases h with q | ⟨g, k, N, F, e, a, b, R, c⟩
  · exact Or.inl q
  · exact Or.inr ⟨g, k, N, F, e, a, b, R.below hb, c⟩
theorem Wr.set {w : World} {base G : Nat} {v : Value} (h : Wr w base G v) (g' i : Nat) {r : Nat} (hr : r < B) : Wr (w.setCell ⟨g', i, none⟩ (.int .u64 (r : Int))) base G v := by
  rcases h with q | ⟨g, k, N, F, e, a, b, R, c⟩
  · exact Or.inl q
  · by_cases z : g = g'
    · subst z
      exact Or.inr ⟨g, k, N, _, e, a, b, R.set i hr, c⟩
    · exact Or.inr ⟨g, k, N, F, e, a, b, R.kept (grown_set (World.grownBy.refl _ _) _) z, c⟩
theorem Wr.setAll {w : World} {base G : Nat} {v : Value} (h : Wr w base G v) (i : Nat) (u : Value) : Wr (w.setCell ⟨G, i, none⟩ u) base G v := by
  rcases h with q | ⟨g, k, N, F, e, a, b, R, c, d⟩
  · exact Or.inl q
  · exact Or.inr ⟨g, k, N, F, e, a, b, R.kept (grown_set (World.grownBy.refl _ _) _) d, c, d⟩

/-- append of one word to such a value makes new memory. -/
theorem append_wr {w : World} {base G : Nat} {v : Value} (h : Wr w base G v) (x : Nat) (ad : Addr) (had : ∀ j u, [Value.int .u64 (x : Int)][j]? = some u → w.cell? (ad.add j) = some u) :
    ∃ a' n' c' w', (Builtin.append_ #[23, 23] 23 #[v, .slice (some ad) 1 1]).run Tryd.prog w = .ok (.slice (some a') n' c') w' ∧ Below w.heap.size w w' := by
  obtain ⟨i0, hi, hz0, hz1, hz2⟩ := info_parts info_u64
  rcases h with rfl | ⟨g, k, N, F, rfl, a, b, R, _⟩
  · obtain ⟨v', w', hr, how, hgr, _⟩ := run_append_own (P := Tryd.prog) w w.heap.size 23 23 35 i0 (.int .u64 0) 1 8 und_nat hi hz0 hz1 hz2 rfl (by decide) (.slice none 0 0) 0 [] (World.ownsRow_nil _ _ _ _) ad 1 1 [.int .u64 (x : Int)] rfl had (by simp [Value.oneCell']) (by unfold maxLen; omega) (by omega) (Nat.le_refl _)
    obtain ⟨g, cap, rfl, _, _⟩ := how.form (by omega)
    exact ⟨_, _, _, w', hr, (Below.refl _ _).grown hgr (Nat.le_refl _) (fun k hk => by cases hk)⟩
  · have hlen : ((List.range k).map fun i => Value.int .u64 (F i : Int)).length = k := by simp
    have e := run_append_grow (P := Tryd.prog) w 23 23 35 i0 (.int .u64 0) und_nat hi hz0 ⟨g, 0, none⟩ k k ((List.range k).map fun i => Value.int .u64 (F i : Int)) (by rw [hlen, hz1, Nat.mul_one])
      (fun j u hu => by
        rw [List.getElem?_map] at hu
        have hj : j < k := by
          rcases Nat.lt_or_ge j k with q | q
          · exact q
          · rw [List.getElem?_eq_none (by simpa using q)] at hu; cases hu
        rw [List.getElem?_range hj] at hu
        have := Option.some.inj hu
        rw [← this]
        have q := R.row.cell (i := j) (by omega)
        have hadd : (⟨g, 0, none⟩ : Addr).add j = ⟨g, j, none⟩ := by unfold Addr.add; split <;> simp_all
        rw [hadd]
        exact q) ad 1 1 [.int .u64 (x : Int)] (by rw [hz1]; rfl) had (by omega) (by omega) (by rw [hz2]; exact growslice_fits (by omega) (by omega))
    exact ⟨_, _, _, _, e, ((Below.refl _ _).drew).alloc (by simp) _⟩

end Go.Proofs.YtkkgancmodhghaaDoor
