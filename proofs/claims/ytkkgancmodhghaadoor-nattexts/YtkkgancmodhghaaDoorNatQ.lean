/-
  The head of the statements (works): a product, a power, a quotient, digits, a difference that is refused: true, where math/bits' table lies as the program's text lays it.
-/
import Derived.Test.YtkkgancmodhghaaDoorNatP
namespace Go.Proofs.YtkkgancmodhghaaDoor
open Go.RowKit

theorem same_natv {w : World} {v v' : Value} {X : Nat} (h : NatV w v X) (h' : NatV w v' X) :
    Calls Tryd.prog 18 #[v, v'] w fun e w' => e = .returned (.bool true) ∧ Below w.heap.size w w' := by
  obtain ⟨ao, n, c, b, o, f, rfl, S, t, hv, hn⟩ := h
  obtain ⟨bo, m, cb, bb, ob, G, rfl, S', t', hv', hm⟩ := h'
  have e := len_eq S.ws S'.ws t t' (hv.trans hv'.symm)
  subst e
  exact same_yes S S' (V_inj S.ws S'.ws (hv.trans hv'.symm))

/-- A new slice of two words. -/
theorem natv_lit2 {w : World} {x y : Nat} (hx : x < B) (hy : y < B) (h0 : y ≠ 0) (t : TypeId) : NatV (w.alloc (.cells #[.int .u64 (x : Int), .int .u64 (y : Int)] t)) (.slice (some ⟨w.heap.size, 0, none⟩) 2 2) (x + y * B) := by
  refine ⟨_, 2, 2, w.heap.size, 0, fun i => if i = 0 then x else if i = 1 then y else 0, rfl, ⟨Nat.le_refl _, by unfold maxLen; omega, fun _ => rfl, fun _ => by simp, fun i hi => ?_, fun i => ?_⟩, Or.inr ?_, ?_, by omega⟩
  · rcases (by omega : i = 0 ∨ i = 1) with rfl | rfl <;> simp
  · show (if i = 0 then x else if i = 1 then y else 0) < B
    split
    · exact hx
    · split
      · exact hy
      · exact B_pos
  · show (if 2 - 1 = 0 then x else if 2 - 1 = 1 then y else 0) ≠ 0
    simpa using h0
  · rw [V_succ, V_succ, V_zero, Nat.pow_zero, Nat.pow_one]; simp

set_option maxRecDepth 100000 in
set_option maxHeartbeats 1000000 in
theorem sub_below {w : World} {va vb : Value} {X Y : Nat} (ha : NatV w va X) (hb : NatV w vb Y) (h : X < Y) :
    Calls Tryd.prog 12 #[va, vb] w fun e w' => e = .returned (.tuple #[.slice none 0 0, .iface 82 (.int .i64 21)]) ∧ Below w.heap.size w w' := by
  obtain ⟨ao, n, c, b, o, f, rfl, S, t, rfl, hn⟩ := ha
  obtain ⟨bo, m, cb, bb, ob, G, rfl, S', t', rfl, hm⟩ := hb
  have h1 := both_any S S'
  rw [verr2_ok hn t hm t'] at h1
  unfold errV at h1
  have hq := ord_lt h
  clear h
  go_enter Tryd.func12, Tryd.ntmps12
  go_wp2_with fail
  refine h1.mono ?_
  rintro e wa ⟨rfl, hba⟩
  have T := compare_any (S.below hba) (S'.below hba) t t'
  rw [hq] at T
  go_wp2_with fail
  refine T.mono ?_
  rintro e wb ⟨rfl, hbb⟩
  go_wp2
  refine bodyPost_ret (v := .tuple #[.slice none 0 0, .iface 82 (.int .i64 21)]) (by simp [results, Tryd.results12, go_sem]) rfl ⟨rfl, hba.trans (hbb.mono hba.size)⟩

set_option maxRecDepth 100000 in
set_option maxHeartbeats 4000000 in
theorem works_any (w : World) (hT : Tab w) : Calls Tryd.prog 21 #[] w fun e w' => e = .returned (.bool true) ∧ Below w.heap.size w w' := by
  go_enter Tryd.func21, Tryd.ntmps21
  have l1 : NatV (w.alloc (.cells #[.int .u64 18446744073709551615] 35)) (.slice (some ⟨w.heap.size, 0, none⟩) 1 1) 18446744073709551615 := natv_lit (x := 18446744073709551615) (by decide) (by decide) _
  have l2 : NatV ((w.alloc (.cells #[.int .u64 18446744073709551615] 35)).alloc (.cells #[.int .u64 18446744073709551615] 35)) (.slice (some ⟨w.heap.size + 1, 0, none⟩) 1 1) 18446744073709551615 := by
    have q := natv_lit (w := w.alloc (.cells #[.int .u64 18446744073709551615] 35)) (x := 18446744073709551615) (by decide) (by decide) 35
    rw [World.size_alloc] at q
    exact q
  have M := mul_ok (l1.below ((Below.refl _ _).alloc (Nat.le_refl _) _)) l2 (Nat.lt_of_lt_of_le (by decide : 18446744073709551615 * 18446744073709551615 < B ^ 2) (Nat.pow_le_pow_right B_pos (by omega)))
  have b0 : Below w.heap.size w ((w.alloc (.cells #[.int .u64 18446744073709551615] 35)).alloc (.cells #[.int .u64 18446744073709551615] 35)) := ((Below.refl _ _).alloc (Nat.le_refl _) _).alloc (by rw [World.size_alloc]; omega) _
  have b0s := b0.size
  clear l1 l2
  go_wp2_with fail
  refine M.mono ?_
  rintro e w1 ⟨va, rfl, na, hb1⟩
  have B1 : Below w.heap.size w w1 := b0.trans (hb1.mono b0s)
  clear M hb1 b0 b0s
  have P1 := power_ok 10 20 (by decide) (by omega) (Nat.lt_of_lt_of_le (by decide : 10 ^ 20 < B ^ 2) (Nat.pow_le_pow_right B_pos (by omega))) w1
  go_wp2_with fail
  refine P1.mono ?_
  rintro e w2 ⟨vp, rfl, np, hb2⟩
  have B2 : Below w.heap.size w w2 := B1.trans (hb2.mono B1.size)
  have na2 := na.below hb2
  clear P1 na hb2 B1
  have l1 : NatV (w2.alloc (.cells #[.int .u64 0, .int .u64 1] 35)) (.slice (some ⟨w2.heap.size, 0, none⟩) 2 2) 18446744073709551616 := natv_lit2 (x := 0) (y := 1) (by decide) (by decide) (by decide) _
  have l2 : NatV ((w2.alloc (.cells #[.int .u64 0, .int .u64 1] 35)).alloc (.cells #[.int .u64 3] 35)) (.slice (some ⟨w2.heap.size + 1, 0, none⟩) 1 1) 3 := by
    have q := natv_lit (w := w2.alloc (.cells #[.int .u64 0, .int .u64 1] 35)) (x := 3) (by decide) (by decide) 35
    rw [World.size_alloc] at q
    exact q
  have b0 : Below w2.heap.size w2 ((w2.alloc (.cells #[.int .u64 0, .int .u64 1] 35)).alloc (.cells #[.int .u64 3] 35)) := ((Below.refl _ _).alloc (Nat.le_refl _) _).alloc (by rw [World.size_alloc]; omega) _
  have b0s := b0.size
  have D := div_ok ((hT.next B2).next b0) (l1.below ((Below.refl _ _).alloc (Nat.le_refl _) _)) l2 (by decide)
  clear l1 l2
  go_wp2_with fail
  refine D.mono ?_
  rintro e w3 ⟨vq, vr, rfl, nq, nr, hb3⟩
  have b3 : Below w2.heap.size w2 w3 := b0.trans (hb3.mono b0s)
  have B3 : Below w.heap.size w w3 := B2.trans (b3.mono B2.size)
  have na3 := na2.below b3
  have np3 := np.below b3
  clear D hb3 b0 b0s na2 np b3 B2
  have DG := digits_any np3 (by decide) 10 (by omega) (by omega)
  go_wp2_with fail
  refine DG.mono ?_
  rintro e w4 ⟨K, rfl, hK1, hKlo, hKhi, hb4⟩
  have hK : K = 21 := by
    have a : ¬ K ≤ 20 := fun q => by
      have r : 10 ^ K ≤ 10 ^ 20 := Nat.pow_le_pow_right (by omega) q
      omega
    have c : ¬ 22 ≤ K := fun q => by
      have r : 10 ^ 21 ≤ 10 ^ (K - 1) := Nat.pow_le_pow_right (by omega) (by omega)
      have s : (10 : Nat) ^ 20 < 10 ^ 21 := by decide
      omega
    omega
  subst hK
  have ht : rowText 10 (10 ^ 20) 21 = ⟨#[49, 48, 48, 48, 48, 48, 48, 48, 48, 48, 48, 48, 48, 48, 48, 48, 48, 48, 48, 48, 48]⟩ := by decide
  rw [ht]
  have B4 : Below w.heap.size w w4 := B3.trans (hb4.mono B3.size)
  have na4 := na3.below hb4
  have nq4 := nq.below hb4
  have nr4 := nr.below hb4
  clear ht hK1 hKlo hKhi DG na3 nq nr hb4 B3 np3
  have l1 : NatV (w4.alloc (.cells #[.int .u64 1] 35)) (.slice (some ⟨w4.heap.size, 0, none⟩) 1 1) 1 := natv_lit (x := 1) (by decide) (by decide) _
  have l2 : NatV ((w4.alloc (.cells #[.int .u64 1] 35)).alloc (.cells #[.int .u64 2] 35)) (.slice (some ⟨w4.heap.size + 1, 0, none⟩) 1 1) 2 := by
    have q := natv_lit (w := w4.alloc (.cells #[.int .u64 1] 35)) (x := 2) (by decide) (by decide) 35
    rw [World.size_alloc] at q
    exact q
  have b0 : Below w4.heap.size w4 ((w4.alloc (.cells #[.int .u64 1] 35)).alloc (.cells #[.int .u64 2] 35)) := ((Below.refl _ _).alloc (Nat.le_refl _) _).alloc (by rw [World.size_alloc]; omega) _
  have b0s := b0.size
  have SB := sub_below (l1.below ((Below.refl _ _).alloc (Nat.le_refl _) _)) l2 (by omega)
  clear l1 l2
  go_wp2_with fail
  refine SB.mono ?_
  rintro e w5 ⟨rfl, hb5⟩
  have b5 : Below w4.heap.size w4 w5 := b0.trans (hb5.mono b0s)
  have B5 : Below w.heap.size w w5 := B4.trans (b5.mono B4.size)
  have na5 := na4.below b5
  have nq5 := nq4.below b5
  have nr5 := nr4.below b5
  clear SB hb5 b0 b0s na4 nq4 nr4 b5 B4
  have l1 : NatV (w5.alloc (.cells #[.int .u64 1, .int .u64 18446744073709551614] 35)) (.slice (some ⟨w5.heap.size, 0, none⟩) 2 2) (18446744073709551615 * 18446744073709551615) := natv_lit2 (x := 1) (y := 18446744073709551614) (by decide) (by decide) (by decide) _
  have b0 : Below w5.heap.size w5 (w5.alloc (.cells #[.int .u64 1, .int .u64 18446744073709551614] 35)) := (Below.refl _ _).alloc (Nat.le_refl _) _
  have b0s := b0.size
  have SM := same_natv (na5.below b0) l1
  clear l1
  go_wp2_with fail
  refine SM.mono ?_
  rintro e w6 ⟨rfl, hb6⟩
  have b6 : Below w5.heap.size w5 w6 := b0.trans (hb6.mono b0s)
  have B6 : Below w.heap.size w w6 := B5.trans (b6.mono B5.size)
  have nq6 := nq5.below b6
  have nr6 := nr5.below b6
  clear SM hb6 b0 b0s na5 nq5 nr5 b6 B5
  have l1 : NatV (w6.alloc (.cells #[.int .u64 6148914691236517205] 35)) (.slice (some ⟨w6.heap.size, 0, none⟩) 1 1) (18446744073709551616 / 3) := natv_lit (x := 6148914691236517205) (by decide) (by decide) _
  have b0 : Below w6.heap.size w6 (w6.alloc (.cells #[.int .u64 6148914691236517205] 35)) := (Below.refl _ _).alloc (Nat.le_refl _) _
  have b0s := b0.size
  have SM := same_natv (nq6.below b0) l1
  clear l1
  go_wp2_with fail
  refine SM.mono ?_
  rintro e w7 ⟨rfl, hb7⟩
  have b7 : Below w6.heap.size w6 w7 := b0.trans (hb7.mono b0s)
  have B7 : Below w.heap.size w w7 := B6.trans (b7.mono B6.size)
  have nr7 := nr6.below b7
  clear SM hb7 b0 b0s nq6 nr6 b7 B6
  have l1 : NatV (w7.alloc (.cells #[.int .u64 1] 35)) (.slice (some ⟨w7.heap.size, 0, none⟩) 1 1) (18446744073709551616 % 3) := natv_lit (x := 1) (by decide) (by decide) _
  have b0 : Below w7.heap.size w7 (w7.alloc (.cells #[.int .u64 1] 35)) := (Below.refl _ _).alloc (Nat.le_refl _) _
  have b0s := b0.size
  have SM := same_natv (nr7.below b0) l1
  clear l1
  go_wp2_with fail
  refine SM.mono ?_
  rintro e w8 ⟨rfl, hb8⟩
  have b8 : Below w7.heap.size w7 w8 := b0.trans (hb8.mono b0s)
  have B8 : Below w.heap.size w w8 := B7.trans (b8.mono B7.size)
  clear SM hb8 b0 b0s nr7 b8 B7
  go_wp2_with fail
  refine (num2_errno 21 _).mono ?_
  rintro e w9 ⟨rfl, rfl⟩
  go_wp2
  go_ret
  exact ⟨rfl, B8⟩

/-- A slice with memory of its own: the same words. -/
theorem und_words : Tryd.prog.underlying 22 = some (.slice 35) := by kernel_rfl

theorem wpList_app {P : Program} {w : World} {ops : Array Oper} {rest : List Oper} {o : Oper} {a : Act} {Q : Exit → Act → World → Prop} (hg : o.guard = none) (s x : Operand) (t u : TypeId)
    (ho : o.op = .call { callee := .builtin .append, args := #[s, x], argTypes := #[t, u] }) (v1 v2 v' : Value) (w' : World) (hs : a.eval s = v1) (hx : a.eval x = v2) (hr : (Builtin.append_ #[t, u] o.type #[v1, v2]).run P w = .ok v' w')
    (h : wpList P ops Q rest (a.put o.dst v') w') : wpList P ops Q (o :: rest) a w := by
  refine wpList_plain hg fun K hK => ?_
  unfold Oper.wp execOp
  simp only [ho, resolve, invoke, builtin, Sem.run_bind, Sem.run_pure, Result.andThen_ok, List.map_toArray, List.map_cons, List.map_nil, hs, hx, hr]
  exact hK _ _ h
theorem size_run (w : World) : (sizeOf 35).run Tryd.prog w = .ok 1 w := by kernel_rfl
theorem append_words (ty : TypeId) (bo : Option Addr) (l k : Nat) (x : Value) (w : World) : (Builtin.append_ #[23, 22] ty #[.slice bo l k, x]).run Tryd.prog w = (Builtin.append_ #[23, 23] ty #[.slice bo l k, x]).run Tryd.prog w := by
  unfold Builtin.append_
  simp only [Sem.run_bind, run_underlying und_nat, run_underlying und_words, size_run, Result.andThen, List.getElem?_toArray, List.getElem?_cons_zero, List.getElem?_cons_succ, Sem.run_pure]

set_option maxRecDepth 100000 in
set_option maxHeartbeats 1000000 in
theorem twin_any {w : World} {ao : Option Addr} {n c b o : Nat} {f : Nat → Nat} (S : Sl w ao n c b o f) (hn : n * 8 ≤ 140737488355328) :
    Calls Tryd.prog 9 #[.slice ao n c] w fun e w' => ∃ ao' c' b', e = .returned (.slice ao' n c') ∧ Sl w' ao' n c' b' 0 f ∧ (0 < n → w.heap.size ≤ b') ∧ Below w.heap.size w w' := by
  obtain ⟨i0, hi, hz0, hz1, hz2⟩ := info_parts info_u64
  have HS : Hid (Sl w ao n c b o f) := S
  have nilSl : ∀ W : World, Sl W none 0 0 0 0 f := fun W => ⟨Nat.le_refl _, Nat.zero_le _, fun h => absurd h (by omega), fun h => absurd h (by omega), fun i h => absurd h (by omega), S.ws⟩
  by_cases h0 : n = 0
  · subst h0
    have HN : Hid (∀ W : World, Sl W none 0 0 0 0 f) := nilSl
    clear S nilSl
    cases ao with
    | none =>
      go_enter Tryd.func9, Tryd.ntmps9
      go_wp2
      go_ret
      exact ⟨none, 0, 0, rfl, HN.out _, fun h => absurd h (by omega), Below.refl _ _⟩
    | some a =>
      go_enter Tryd.func9, Tryd.ntmps9
      go_wp2
      go_ret
      exact ⟨none, 0, 0, rfl, HN.out _, fun h => absurd h (by omega), Below.refl _ _⟩
  · obtain rfl := S.addr (by omega)
    have hlen : ((List.range n).map fun i => Value.int .u64 (f i : Int)).length = n := by simp
    obtain ⟨v', w2, hr, hown, hgr, hnil⟩ := run_append_own (P := Tryd.prog) w w.heap.size 23 23 35 i0 (.int .u64 0) 1 8 und_nat hi hz0 hz1 hz2 rfl (by decide) (.slice none 0 0) 0 [] (World.ownsRow_nil _ _ _ _) ⟨b, o, none⟩ n c ((List.range n).map fun i => Value.int .u64 (f i : Int)) (by rw [hlen, Nat.mul_one])
      (fun j u hv => by
        rw [List.getElem?_map] at hv
        have hj : j < n := by
          rcases Nat.lt_or_ge j n with q | q
          · exact q
          · rw [List.getElem?_eq_none (by simpa using q)] at hv; cases hv
        rw [List.getElem?_range hj] at hv
        have := Option.some.inj hv
        rw [← this]
        have q := S.cell j hj
        by_cases z : j = 0
        · subst z; simpa [Addr.add] using q
        · simpa [Addr.add, z] using q) (by intro v hv; obtain ⟨i, _, rfl⟩ := List.mem_map.1 hv; rfl) (by unfold maxLen; omega) (by omega) (Nat.le_refl _)
    rw [← append_words] at hr
    rw [Nat.zero_add, List.nil_append] at hown
    have hbl : Below w.heap.size w w2 := (Below.refl _ _).grown hgr (Nat.le_refl _) (fun k hk => by cases hk)
    rcases hown.2 with ⟨_, q⟩ | ⟨g, cap, cur, rfl, hbg, hheap, hle, hmx, hcs, htk⟩
    · omega
    rw [Nat.mul_one] at hcs htk
    have S2 : Sl w2 (some ⟨g, 0, none⟩) n cap g 0 f := by
      refine ⟨hle, hmx, fun _ => rfl, fun _ => ?_, fun i hi => ?_, S.ws⟩
      · obtain ⟨hlt, _⟩ := Array.getElem?_eq_some_iff.1 hheap
        exact hlt
      · have q : (cur.toList.take n)[i]? = some (.int .u64 (f i : Int)) := by rw [htk, List.getElem?_map, List.getElem?_range hi]; rfl
        rw [List.getElem?_take_of_lt hi] at q
        have q3 : cur[i]? = some (.int .u64 (f i : Int)) := by simpa using q
        rw [Nat.zero_add]
        simp [World.cell?, hheap, q3]
    have HF : Hid (Sl w2 (some ⟨g, 0, none⟩) n cap g 0 f ∧ w.heap.size ≤ g ∧ Below w.heap.size w w2) := ⟨S2, hbg, hbl⟩
    have HRN : Hid ((Builtin.append_ #[23, 22] 23 #[.slice none 0 0, .slice (some ⟨b, o, none⟩) n c]).run Tryd.prog w = .ok (.slice (some ⟨g, 0, none⟩) n cap) w2) := hr
    clear S2 hbl hown hgr hnil hheap hle hmx hcs htk S nilSl hlen hr
    go_enter Tryd.func9, Tryd.ntmps9
    go_wp2_with (first | (at_builtin; refine wpList_app rfl _ _ 23 22 rfl _ _ _ _ rfl rfl HRN.out ?_) | go_in)
    go_wp2
    go_ret
    exact ⟨_, _, _, rfl, HF.out.1, fun _ => HF.out.2.1, HF.out.2.2⟩

end Go.Proofs.YtkkgancmodhghaaDoor
