/-
  What nat's Add, Sub, Cmp, Word answer of every two rows of words, errors too.
-/
import Derived.Test.YtkkgancmodhghaaDoorBigR
import Derived.Test.YtkkgancmodhghaaDoorNatD
namespace Go.Proofs.YtkkgancmodhghaaDoor
open Go.RowKit

set_option maxRecDepth 100000 in
set_option maxHeartbeats 1000000 in
theorem add_big {w : World} {va vb : Value} {X Y : Nat} (ha : NatV w va X) (hb : NatV w vb Y) (h : ¬ X + Y < B ^ 128) :
    Calls Tryd.prog 10 #[va, vb] w fun e w' => e = .returned (.tuple #[.slice none 0 0, .iface 82 (.int .i64 20)]) ∧ Below w.heap.size w w' := by
  obtain ⟨ao, n, c, b, o, f, rfl, S, t, rfl, hn⟩ := ha
  obtain ⟨bo, m, cb, bb, ob, G, rfl, S', t', rfl, hm⟩ := hb
  have h1 := both_any S S'
  rw [verr2_ok hn t hm t'] at h1
  unfold errV at h1
  have HH : Hid (¬ V f n + V G m < B ^ 128) := h
  clear h
  by_cases hlt : n < m
  · skip
    have hmk := run_make_row' (P := Tryd.prog) 23 35 (.int .u64 0) 8 und_nat info_u64 rfl .i64 .i64 (m + 1) (by omega) (by omega)
    simp only [Int.natCast_add, Int.natCast_one] at hmk
    go_enter Tryd.func10, Tryd.ntmps10
    go_wp2_with fail
    refine h1.mono ?_
    rintro e wb ⟨rfl, hb1⟩
    have S1 := S'.below hb1
    have S1' := S.below hb1
    have bA : Below wb.heap.size wb (wb.alloc (.cells (madeCells #[.int .u64 0] (m + 1)) 35)) := (Below.refl _ _).alloc (Nat.le_refl _) _
    obtain ⟨w2, hcp, R2, hg2⟩ := copy_run (cz := m + 1) (made_row wb (m + 1)) (S1.below bA) (Nat.le_succ m)
    have b2 : Below wb.heap.size wb w2 := below_grown bA hg2 (Nat.le_refl _)
    have eV : V (fun i => (fun i => if i < m then G i else 0) (0 + i)) (m + 1) = V G m := by
      have a := cpy_V (f := G) (n := m) (N := m + 1) (by omega)
      rw [← a]
      exact V_congr fun i hi => by show (if 0 + i < m then G (0 + i) else 0) = cpy G m i; unfold cpy; rw [Nat.zero_add]
    have hfit : V G m + V f n < B ^ (m + 1) := by
      have p := V_lt S'.ws m
      have q := V_lt S.ws n
      have r : B ^ n ≤ B ^ m := Nat.pow_le_pow_right B_pos (by omega)
      have s : 2 * B ^ m ≤ B ^ (m + 1) := by rw [Nat.pow_succ, Nat.mul_comm]; exact Nat.mul_le_mul_left _ (by decide)
      omega
    have D := increase_any (o := 0) (n := m + 1) (c := m + 1) R2 (by omega) (Nat.le_refl _) (by unfold maxLen; omega) (S1'.below b2) (fun q => Nat.ne_of_lt (S1'.blk q)) (by omega) (by rw [eV]; exact hfit)
    rw [eV] at D
    have b3 : Below w.heap.size w w2 := hb1.trans (b2.mono hb1.size)
    have hsz := hb1.size
    clear R2 hg2 bA b2 eV hfit
    go_wp2_with fail
    refine D.mono ?_
    rintro e w3 ⟨rfl, hg3, F, R3, _, hv⟩
    have b4 : Below w.heap.size w w3 := below_grown b3 hg3 hsz
    have e0 : (fun i => F (0 + i)) = F := funext fun i => by rw [Nat.zero_add]
    rw [e0] at hv
    have hl : 128 < tl F (m + 1) := by
      rcases Nat.lt_or_ge 128 (tl F (m + 1)) with z | z
      · exact z
      · exfalso
        have p := Nat.lt_of_lt_of_le (V_lt R3.ws (tl F (m + 1))) (Nat.pow_le_pow_right B_pos z)
        rw [tl_V] at p
        exact HH.out (by omega)
    have TT : Calls Tryd.prog 45 #[.slice (some ⟨wb.heap.size, 0, none⟩) (m + 1) (m + 1)] w3 fun e w' => e = .returned (.tuple #[.slice none 0 0, .iface 82 (.int .i64 20)]) ∧ w' = w3 := fit_big (row_sl0 R3 (by unfold maxLen; omega)) hl
    go_wp2_with fail
    refine TT.mono ?_
    rintro e w4 ⟨rfl, rfl⟩
    go_wp2
    refine bodyPost_ret (v := .tuple #[.slice none 0 0, .iface 82 (.int .i64 20)]) (by simp [results, Tryd.results10, go_sem]) rfl ⟨rfl, b4⟩
  · skip
    have hmk := run_make_row' (P := Tryd.prog) 23 35 (.int .u64 0) 8 und_nat info_u64 rfl .i64 .i64 (n + 1) (by omega) (by omega)
    simp only [Int.natCast_add, Int.natCast_one] at hmk
    go_enter Tryd.func10, Tryd.ntmps10
    go_wp2_with fail
    refine h1.mono ?_
    rintro e wb ⟨rfl, hb1⟩
    have S1 := S.below hb1
    have S1' := S'.below hb1
    have bA : Below wb.heap.size wb (wb.alloc (.cells (madeCells #[.int .u64 0] (n + 1)) 35)) := (Below.refl _ _).alloc (Nat.le_refl _) _
    obtain ⟨w2, hcp, R2, hg2⟩ := copy_run (cz := n + 1) (made_row wb (n + 1)) (S1.below bA) (Nat.le_succ n)
    have b2 : Below wb.heap.size wb w2 := below_grown bA hg2 (Nat.le_refl _)
    have eV : V (fun i => (fun i => if i < n then f i else 0) (0 + i)) (n + 1) = V f n := by
      have a := cpy_V (f := f) (n := n) (N := n + 1) (by omega)
      rw [← a]
      exact V_congr fun i hi => by show (if 0 + i < n then f (0 + i) else 0) = cpy f n i; unfold cpy; rw [Nat.zero_add]
    have hfit : V f n + V G m < B ^ (n + 1) := by
      have p := V_lt S.ws n
      have q := V_lt S'.ws m
      have r : B ^ m ≤ B ^ n := Nat.pow_le_pow_right B_pos (by omega)
      have s : 2 * B ^ n ≤ B ^ (n + 1) := by rw [Nat.pow_succ, Nat.mul_comm]; exact Nat.mul_le_mul_left _ (by decide)
      omega
    have D := increase_any (o := 0) (n := n + 1) (c := n + 1) R2 (by omega) (Nat.le_refl _) (by unfold maxLen; omega) (S1'.below b2) (fun q => Nat.ne_of_lt (S1'.blk q)) (by omega) (by rw [eV]; exact hfit)
    rw [eV] at D
    have b3 : Below w.heap.size w w2 := hb1.trans (b2.mono hb1.size)
    have hsz := hb1.size
    clear R2 hg2 bA b2 eV hfit
    go_wp2_with fail
    refine D.mono ?_
    rintro e w3 ⟨rfl, hg3, F, R3, _, hv⟩
    have b4 : Below w.heap.size w w3 := below_grown b3 hg3 hsz
    have e0 : (fun i => F (0 + i)) = F := funext fun i => by rw [Nat.zero_add]
    rw [e0] at hv
    have hl : 128 < tl F (n + 1) := by
      rcases Nat.lt_or_ge 128 (tl F (n + 1)) with z | z
      · exact z
      · exfalso
        have p := Nat.lt_of_lt_of_le (V_lt R3.ws (tl F (n + 1))) (Nat.pow_le_pow_right B_pos z)
        rw [tl_V] at p
        exact HH.out (by omega)
    have TT : Calls Tryd.prog 45 #[.slice (some ⟨wb.heap.size, 0, none⟩) (n + 1) (n + 1)] w3 fun e w' => e = .returned (.tuple #[.slice none 0 0, .iface 82 (.int .i64 20)]) ∧ w' = w3 := fit_big (row_sl0 R3 (by unfold maxLen; omega)) hl
    go_wp2_with fail
    refine TT.mono ?_
    rintro e w4 ⟨rfl, rfl⟩
    go_wp2
    refine bodyPost_ret (v := .tuple #[.slice none 0 0, .iface 82 (.int .i64 20)]) (by simp [results, Tryd.results10, go_sem]) rfl ⟨rfl, b4⟩


theorem natv_mk {w : World} {ao : Option Addr} {n c b o : Nat} {f : Nat → Nat} (S : Sl w ao n c b o f) (h : verr f n = 0) : NatV w (.slice ao n c) (V f n) := by
  obtain ⟨a, t⟩ := verr_nat h
  exact ⟨_, _, _, _, _, _, rfl, S, t, rfl, a⟩

theorem errV_succ {k : Nat} (h : k ≠ 0) : errV k = .iface 82 (.int .i64 (k : Int)) := by
  cases k with
  | zero => exact absurd rfl h
  | succ k => rfl

set_option maxRecDepth 100000 in
theorem num_any (k : Nat) (w : World) : Calls Tryd.prog 19 #[errV k] w fun e w' => e = .returned (.int .i64 (k : Int)) ∧ w' = w := by
  by_cases h : k = 0
  · subst h; exact num2_nil w
  · rw [errV_succ h]; exact num2_errno _ w

set_option maxHeartbeats 1000000 in
theorem addN_any {w : World} {ao : Option Addr} {n c b o : Nat} {f : Nat → Nat} (S : Sl w ao n c b o f) {bo : Option Addr} {m cb bb ob : Nat} {g : Nat → Nat} (S' : Sl w bo m cb bb ob g) :
    Calls Tryd.prog 10 #[.slice ao n c, .slice bo m cb] w fun e w' => ∃ v, e = .returned (.tuple #[v, errV (err2 (verr2 f n g m) (wE (V f n + V g m)))]) ∧ NatV w' v (num2 (verr2 f n g m) (wR (V f n + V g m))) ∧ Below w.heap.size w w' := by
  by_cases q : verr2 f n g m = 0
  · obtain ⟨q1, q2⟩ := verr2_both q
    rw [q, num2_zero, err2_zero]
    have n1 := natv_mk S q1
    have n2 := natv_mk S' q2
    unfold wE wR
    by_cases lt : V f n + V g m < B ^ 128
    · rw [if_pos lt, if_pos lt]
      exact add_ok n1 n2 lt
    · rw [if_neg lt, if_neg lt]
      refine (add_big n1 n2 lt).mono ?_
      rintro e w' ⟨rfl, hb⟩
      exact ⟨_, rfl, natv_nil _, hb⟩
  · rw [num2_bad q, err2_bad q]
    have h1 := both_any S S'
    rw [errV_succ q] at h1 ⊢
    generalize verr2 f n g m = k at *
    go_enter Tryd.func10, Tryd.ntmps10
    go_wp2_with fail
    refine h1.mono ?_
    rintro e wa ⟨rfl, hba⟩
    go_wp2
    refine bodyPost_ret (v := .tuple #[.slice none 0 0, .iface 82 (.int .i64 (k : Int))]) (by simp [results, Tryd.results10, go_sem]) rfl ⟨_, rfl, natv_nil _, hba⟩

set_option maxHeartbeats 1000000 in
theorem subN_any {w : World} {ao : Option Addr} {n c b o : Nat} {f : Nat → Nat} (S : Sl w ao n c b o f) {bo : Option Addr} {m cb bb ob : Nat} {g : Nat → Nat} (S' : Sl w bo m cb bb ob g) :
    Calls Tryd.prog 12 #[.slice ao n c, .slice bo m cb] w fun e w' => ∃ v, e = .returned (.tuple #[v, errV (err2 (verr2 f n g m) (if V f n < V g m then 21 else 0))]) ∧ NatV w' v (num2 (verr2 f n g m) (V f n - V g m)) ∧ Below w.heap.size w w' := by
  by_cases q : verr2 f n g m = 0
  · obtain ⟨q1, q2⟩ := verr2_both q
    rw [q, num2_zero, err2_zero]
    have n1 := natv_mk S q1
    have n2 := natv_mk S' q2
    by_cases lt : V f n < V g m
    · rw [if_pos lt, Nat.sub_eq_zero_of_le (Nat.le_of_lt lt)]
      refine (sub_below n1 n2 lt).mono ?_
      rintro e w' ⟨rfl, hb⟩
      exact ⟨_, rfl, natv_nil _, hb⟩
    · rw [if_neg lt]
      exact sub_ok n1 n2 (Nat.le_of_not_lt lt)
  · rw [num2_bad q, err2_bad q]
    have h1 := both_any S S'
    rw [errV_succ q] at h1 ⊢
    generalize verr2 f n g m = k at *
    go_enter Tryd.func12, Tryd.ntmps12
    go_wp2_with fail
    refine h1.mono ?_
    rintro e wa ⟨rfl, hba⟩
    go_wp2
    refine bodyPost_ret (v := .tuple #[.slice none 0 0, .iface 82 (.int .i64 (k : Int))]) (by simp [results, Tryd.results12, go_sem]) rfl ⟨_, rfl, natv_nil _, hba⟩

set_option maxHeartbeats 1000000 in
theorem cmpN_any {w : World} {ao : Option Addr} {n c b o : Nat} {f : Nat → Nat} (S : Sl w ao n c b o f) {bo : Option Addr} {m cb bb ob : Nat} {g : Nat → Nat} (S' : Sl w bo m cb bb ob g) :
    Calls Tryd.prog 14 #[.slice ao n c, .slice bo m cb] w fun e w' => e = .returned (.tuple #[.int .i64 (ord2 (verr2 f n g m) (ord (V f n) (V g m))), errV (verr2 f n g m)]) ∧ Below w.heap.size w w' := by
  by_cases q : verr2 f n g m = 0
  · obtain ⟨q1, q2⟩ := verr2_both q
    rw [q]
    exact cmp_ok (natv_mk S q1) (natv_mk S' q2)
  · have e0 : ord2 (verr2 f n g m) (ord (V f n) (V g m)) = 0 := by unfold ord2; rw [if_neg q]
    rw [e0]
    have h1 := both_any S S'
    rw [errV_succ q] at h1 ⊢
    clear e0
    generalize verr2 f n g m = k at *
    go_enter Tryd.func14, Tryd.ntmps14
    go_wp2_with fail
    refine h1.mono ?_
    rintro e wa ⟨rfl, hba⟩
    go_wp2
    refine bodyPost_ret (v := .tuple #[.int .i64 0, .iface 82 (.int .i64 (k : Int))]) (by simp [results, Tryd.results14, go_sem]) rfl ⟨rfl, hba⟩

theorem word_bad {w : World} {ao : Option Addr} {n c b o : Nat} {f : Nat → Nat} (S : Sl w ao n c b o f) (h : verr f n ≠ 0) :
    Calls Tryd.prog 16 #[.slice ao n c] w fun e w' => e = .returned (.tuple #[.int .u64 0, .bool false]) ∧ Below w.heap.size w w' := by
  have h1 := valid_any S
  rw [errV_succ h] at h1
  generalize verr f n = k at *
  go_enter Tryd.func16, Tryd.ntmps16
  go_wp2_with fail
  refine h1.mono ?_
  rintro e wa ⟨rfl, hba⟩
  go_wp2
  refine bodyPost_ret (v := .tuple #[.int .u64 0, .bool false]) (by simp [results, Tryd.results16, go_sem]) rfl ⟨rfl, hba⟩
theorem word_long {w : World} {ao : Option Addr} {n c b o : Nat} {f : Nat → Nat} (S : Sl w ao n c b o f) (h : verr f n = 0) (hn : 1 < n) :
    Calls Tryd.prog 16 #[.slice ao n c] w fun e w' => e = .returned (.tuple #[.int .u64 0, .bool false]) ∧ Below w.heap.size w w' := by
  have h1 := valid_any S
  rw [h] at h1
  have hn' : (1 : Int) < (n : Int) := by omega
  unfold errV at h1
  go_enter Tryd.func16, Tryd.ntmps16
  go_wp2_with fail
  refine h1.mono ?_
  rintro e wa ⟨rfl, hba⟩
  go_wp2
  refine bodyPost_ret (v := .tuple #[.int .u64 0, .bool false]) (by simp [results, Tryd.results16, go_sem]) rfl ⟨rfl, hba⟩
theorem word_none {w : World} {ao : Option Addr} {c b o : Nat} {f : Nat → Nat} (S : Sl w ao 0 c b o f) (h : verr f 0 = 0) :
    Calls Tryd.prog 16 #[.slice ao 0 c] w fun e w' => e = .returned (.tuple #[.int .u64 0, .bool true]) ∧ Below w.heap.size w w' := by
  have h1 := valid_any S
  rw [h] at h1
  unfold errV at h1
  go_enter Tryd.func16, Tryd.ntmps16
  go_wp2_with fail
  refine h1.mono ?_
  rintro e wa ⟨rfl, hba⟩
  go_wp2
  refine bodyPost_ret (v := .tuple #[.int .u64 0, .bool true]) (by simp [results, Tryd.results16, go_sem]) rfl ⟨rfl, hba⟩
theorem word_one {w : World} {ao : Option Addr} {c b o : Nat} {f : Nat → Nat} (S : Sl w ao 1 c b o f) (h : verr f 1 = 0) :
    Calls Tryd.prog 16 #[.slice ao 1 c] w fun e w' => e = .returned (.tuple #[.int .u64 (f 0 : Int), .bool true]) ∧ Below w.heap.size w w' := by
  have h1 := valid_any S
  rw [h] at h1
  unfold errV at h1
  obtain rfl := S.addr (by omega)
  have HS : Hid (Sl w (some ⟨b, o, none⟩) 1 c b o f) := S
  clear S
  go_enter Tryd.func16, Tryd.ntmps16
  go_wp2_with fail
  refine h1.mono ?_
  rintro e wa ⟨rfl, hba⟩
  have hc := (HS.out.below hba).cell 0 (by omega)
  rw [Nat.add_zero] at hc
  go_wp2
  refine bodyPost_ret (v := .tuple #[.int .u64 (f 0 : Int), .bool true]) (by simp [results, Tryd.results16, go_sem]) rfl ⟨rfl, hba⟩

end Go.Proofs.YtkkgancmodhghaaDoor
