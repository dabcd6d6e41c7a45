/-
  What the calls of nat.Mul, Add, Sub, Cmp answer where nothing is refused.
-/
import Derived.Test.YtkkgancmodhghaaDoorNatA
namespace Go.Proofs.YtkkgancmodhghaaDoor
open Go.RowKit

/-- The trimmed part of a row is a number. -/
theorem natv_tl {w : World} {g N : Nat} {F : Nat → Nat} (R : Row w g N F) (hN : N ≤ maxLen) {X : Nat} (hX : V F N = X) (hlt : X < B ^ 128) :
    NatV w (.slice (some ⟨g, 0, none⟩) (tl F N) (tl F N)) X ∧ tl F N ≤ 128 := by
  have t := tl_top F N
  have v := tl_V F N
  have l := tl_le F N
  have h : tl F N ≤ 128 := len_le t (by rw [v, hX]; exact hlt)
  refine ⟨⟨_, _, _, g, 0, F, rfl, ?_, t, v.trans hX, h⟩, h⟩
  have S := R.sl (o := 0) (n := tl F N) (c := tl F N) (by omega) (Nat.le_refl _) (by omega)
  have e : (fun i => F (0 + i)) = F := funext fun i => by rw [Nat.zero_add]
  rw [e] at S
  exact S
theorem row_sl0 {w : World} {g N : Nat} {F : Nat → Nat} (R : Row w g N F) (hN : N ≤ maxLen) : Sl w (some ⟨g, 0, none⟩) N N g 0 F := by
  have S := R.sl (o := 0) (n := N) (c := N) (by omega) (Nat.le_refl _) hN
  have e : (fun i => F (0 + i)) = F := funext fun i => by rw [Nat.zero_add]
  rw [e] at S
  exact S

set_option maxHeartbeats 1000000 in
theorem mul_ok {w : World} {va vb : Value} {X Y : Nat} (ha : NatV w va X) (hb : NatV w vb Y) (h : X * Y < B ^ 128) :
    Calls Tryd.prog 22 #[va, vb] w fun e w' => ∃ v, e = .returned (.tuple #[v, .nilIface]) ∧ NatV w' v (X * Y) ∧ Below w.heap.size w w' := by
  obtain ⟨ao, n, c, b, o, f, rfl, S, t, rfl, hn⟩ := ha
  obtain ⟨bo, m, cb, bb, ob, G, rfl, S', t', rfl, hm⟩ := hb
  have h1 := both_any S S'
  rw [verr2_ok hn t hm t'] at h1
  unfold errV at h1
  have HH : Hid (V f n * V G m < B ^ 128) := h
  clear h
  go_enter Tryd.func22, Tryd.ntmps22
  go_wp2_with fail
  refine h1.mono ?_
  rintro e wa ⟨rfl, hba⟩
  have T := multiply_any (S.below hba) (S'.below hba) (by omega) (by omega)
  go_wp2_with fail
  refine T.mono ?_
  rintro e wb ⟨rfl, hbb, F, R, hv⟩
  obtain ⟨nv, hl⟩ := natv_tl R (by unfold maxLen; omega) hv HH.out
  have FT := fit_ok (row_sl0 R (by unfold maxLen; omega)) hl
  go_wp2_with fail
  refine FT.mono ?_
  rintro e wc ⟨rfl, rfl⟩
  go_wp2
  refine bodyPost_ret (v := .tuple #[.slice (some ⟨wa.heap.size, 0, none⟩) (tl F (n + m)) (tl F (n + m)), .nilIface]) (by simp [results, Tryd.results22, go_sem]) rfl ⟨_, rfl, nv, hba.trans (hbb.mono hba.size)⟩

set_option maxHeartbeats 1000000 in
theorem cmp_ok {w : World} {va vb : Value} {X Y : Nat} (ha : NatV w va X) (hb : NatV w vb Y) :
    Calls Tryd.prog 14 #[va, vb] w fun e w' => e = .returned (.tuple #[.int .i64 (ord X Y), .nilIface]) ∧ Below w.heap.size w w' := by
  obtain ⟨ao, n, c, b, o, f, rfl, S, t, rfl, hn⟩ := ha
  obtain ⟨bo, m, cb, bb, ob, G, rfl, S', t', rfl, hm⟩ := hb
  have h1 := both_any S S'
  rw [verr2_ok hn t hm t'] at h1
  unfold errV at h1
  go_enter Tryd.func14, Tryd.ntmps14
  go_wp2_with fail
  refine h1.mono ?_
  rintro e wa ⟨rfl, hba⟩
  have T := compare_any (S.below hba) (S'.below hba) t t'
  go_wp2_with fail
  refine T.mono ?_
  rintro e wb ⟨rfl, hbb⟩
  go_wp2
  refine bodyPost_ret (v := .tuple #[.int .i64 (ord (V f n) (V G m)), .nilIface]) (by simp [results, Tryd.results14, go_sem]) rfl ⟨rfl, hba.trans (hbb.mono hba.size)⟩

/-- A row that was copied into one of noughts. -/
def cpy (f : Nat → Nat) (n : Nat) : Nat → Nat := fun i => if i < n then f i else 0
theorem cpy_Ws {f : Nat → Nat} {n : Nat} (h : Ws f) : Ws (cpy f n) := by intro i; unfold cpy; split; exact h i; exact B_pos
theorem cpy_V {f : Nat → Nat} {n N : Nat} (h : n ≤ N) : V (cpy f n) N = V f n := by
  rw [V_zeros (f := cpy f n) h (fun i a _ => by unfold cpy; rw [if_neg (by omega)])]
  exact V_congr fun i hi => by unfold cpy; rw [if_pos hi]

theorem size_u64 : (Tryd.prog.info? 35).map (·.size) = some 1 := by kernel_rfl
theorem block_setRow {w : World} {g : Nat} {cs : Array Value} {k : Nat} (h : k ≠ g) : (w.setRow g cs).heap[k]? = w.heap[k]? := by
  simp only [World.setRow, Array.getElem?_modify]
  rw [if_neg (by omega)]
theorem size_setRow (w : World) (g : Nat) (cs : Array Value) : (w.setRow g cs).heap.size = w.heap.size := by simp [World.setRow]

/-- copy(z, a): the words of a lie at the begin of the row. -/
theorem copy_run {w : World} {g N : Nat} {F : Nat → Nat} (R : Row w g N F) {ao : Option Addr} {n c b o cz : Nat} {f : Nat → Nat} (S : Sl w ao n c b o f) (hn : n ≤ N) :
    ∃ w2, (Builtin.copy_ #[23, 23] 3 #[.slice (some ⟨g, 0, none⟩) N cz, .slice ao n c]).run Tryd.prog w = .ok (.int .i64 (n : Int)) w2 ∧ Row w2 g N (fun i => if i < n then f i else F i) ∧ w.grownBy w2 (some g) := by
  have hws : Ws (fun i => if i < n then f i else F i) := by intro i; show (if i < n then f i else F i) < B; split; exact S.ws i; exact R.ws i
  by_cases h0 : n = 0
  · subst h0
    refine ⟨w, run_copy_none w _ _ 3 35 _ _ _ _ _ _ und_nat size_u64 (by simp), ⟨R.row.congr fun i hi => ?_, hws⟩, World.grownBy.refl _ _⟩
    rw [if_neg (by omega)]
  · obtain rfl := S.addr (by omega)
    obtain ⟨cur, hg, hs, hc⟩ := R.row
    have hlen : ((List.range n).map fun i => Value.int .u64 (f i : Int)).length = n := by simp
    have e := run_copy_row (P := Tryd.prog) w 23 23 3 35 g 0 N cz ⟨b, o, none⟩ n c cur 35 ((List.range n).map fun i => Value.int .u64 (f i : Int)) und_nat size_u64 hg (by rw [hlen]; exact (Nat.min_eq_left hn).symm)
      (fun j v hv => by
        rw [List.getElem?_map] at hv
        have hj : j < n := by
          rcases Nat.lt_or_ge j n with q | q
          · exact q
          · rw [List.getElem?_eq_none (by simpa using q)] at hv; cases hv
        rw [List.getElem?_range hj] at hv
        have := Option.some.inj hv
        rw [← this]
        have q := S.cell j hj
        by_cases z : j = 0
        · subst z; simpa [Addr.add] using q
        · simpa [Addr.add, z] using q) (by rw [hlen, hs]; omega) (by intro v hv; obtain ⟨i, _, rfl⟩ := List.mem_map.1 hv; rfl)
    rw [hlen] at e
    refine ⟨_, e, ⟨⟨_, setRow_heap w g cur _ 35 (0, 0) hg, ?_, fun i hi => ?_⟩, hws⟩, ⟨rfl, rfl, rfl, by rw [size_setRow]; exact Nat.le_refl _, fun k hk hne => block_setRow (fun q => hne (by rw [q]))⟩⟩
    · simp [hs]; omega
    · have hcl : cur.toList.length = N := by simpa using hs
      simp only [List.take_zero, List.nil_append, Nat.zero_add, List.getElem?_toArray]
      by_cases q : i < n
      · rw [if_pos q, List.getElem?_append_left (by rw [hlen]; exact q), List.getElem?_map, List.getElem?_range q]
        rfl
      · rw [if_neg q, List.getElem?_append_right (by rw [hlen]; omega), hlen, List.getElem?_drop, show n + (i - n) = i by omega]
        simpa using hc i hi

theorem made_row (w : World) (n : Nat) : Row (w.alloc (.cells (madeCells #[.int .u64 0] n) 35)) w.heap.size n (fun _ => 0) := ⟨World.rowIs_made _ _ _ _, fun _ => B_pos⟩

set_option maxRecDepth 100000 in
set_option maxHeartbeats 1000000 in
theorem sub_ok {w : World} {va vb : Value} {X Y : Nat} (ha : NatV w va X) (hb : NatV w vb Y) (h : Y ≤ X) :
    Calls Tryd.prog 12 #[va, vb] w fun e w' => ∃ v, e = .returned (.tuple #[v, .nilIface]) ∧ NatV w' v (X - Y) ∧ Below w.heap.size w w' := by
  obtain ⟨ao, n, c, b, o, f, rfl, S, t, rfl, hn⟩ := ha
  obtain ⟨bo, m, cb, bb, ob, G, rfl, S', t', rfl, hm⟩ := hb
  have h1 := both_any S S'
  rw [verr2_ok hn t hm t'] at h1
  unfold errV at h1
  have hmk := run_make_row' (P := Tryd.prog) 23 35 (.int .u64 0) 8 und_nat info_u64 rfl .i64 .i64 n (by omega) (by omega)
  have HH : Hid (V G m ≤ V f n) := h
  have hq : ¬ ord (V f n) (V G m) < 0 := by unfold ord; rw [if_neg (by omega)]; split <;> omega
  clear h
  go_enter Tryd.func12, Tryd.ntmps12
  go_wp2_with fail
  refine h1.mono ?_
  rintro e wa ⟨rfl, hba⟩
  have T := compare_any (S.below hba) (S'.below hba) t t'
  generalize ord (V f n) (V G m) = q at *
  go_wp2_with fail
  refine T.mono ?_
  rintro e wb ⟨rfl, hbb⟩
  have hb1 : Below w.heap.size w wb := hba.trans (hbb.mono hba.size)
  have S1 := S.below hb1
  have S1' := S'.below hb1
  have bA : Below wb.heap.size wb (wb.alloc (.cells (madeCells #[.int .u64 0] n) 35)) := (Below.refl _ _).alloc (Nat.le_refl _) _
  obtain ⟨w2, hcp, R2, hg2⟩ := copy_run (cz := n) (made_row wb n) (S1.below bA) (Nat.le_refl n)
  have b2 : Below wb.heap.size wb w2 := below_grown bA hg2 (Nat.le_refl _)
  have hmn : m ≤ n := by
    rcases Nat.lt_or_ge n m with z | z
    · have := len_lt S.ws t' z; have := HH.out; omega
    · exact z
  have eV : V (fun i => (fun i => if i < n then f i else 0) (0 + i)) n = V f n := V_congr fun i hi => by show (if 0 + i < n then f (0 + i) else 0) = f i; rw [Nat.zero_add, if_pos hi]
  have D := decrease_any (o := 0) (n := n) (c := n) R2 (by omega) (Nat.le_refl _) (by unfold maxLen; omega) (S1'.below b2) (fun q => Nat.ne_of_lt (S1'.blk q)) hmn (by rw [eV]; exact HH.out)
  rw [eV] at D
  have b3 : Below w.heap.size w w2 := hb1.trans (b2.mono hb1.size)
  have hsz := hb1.size
  clear R2 hg2 bA b2 eV
  go_wp2_with fail
  refine D.mono ?_
  rintro e w3 ⟨rfl, hg3, F, R3, _, hv⟩
  have b4 : Below w.heap.size w w3 := below_grown b3 hg3 hsz
  have e0 : (fun i => F (0 + i)) = F := funext fun i => by rw [Nat.zero_add]
  rw [e0] at hv
  obtain ⟨nv, hl⟩ := natv_tl R3 (by unfold maxLen; omega) (X := V f n - V G m) (by omega) (by have := V_lt S.ws n; have : B ^ n ≤ B ^ 128 := Nat.pow_le_pow_right B_pos hn; omega)
  have TT := trim_any (row_sl0 R3 (by unfold maxLen; omega))
  go_wp2_with fail
  refine TT.mono ?_
  rintro e w4 ⟨rfl, rfl⟩
  go_wp2
  refine bodyPost_ret (v := .tuple #[.slice (some ⟨wb.heap.size, 0, none⟩) (tl F n) (tl F n), .nilIface]) (by simp [results, Tryd.results12, go_sem]) rfl ⟨_, rfl, nv, b4⟩

end Go.Proofs.YtkkgancmodhghaaDoor
