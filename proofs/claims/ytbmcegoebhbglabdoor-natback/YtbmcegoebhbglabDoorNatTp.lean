/-
  What the call of nat.timesPlus answers.
-/
import Derived.Test.YtbmcegoebhbglabDoorNatRe
import Derived.Deep.RegionWith
namespace Go.Proofs.YtbmcegoebhbglabDoor
open Go.RowKit

theorem put_first {y n : Nat} : put (fun _ => 0) 0 y n = if n = 0 then y else 0 := by
  by_cases h : n = 0
  · subst h; rw [put_at, if_pos rfl]
  · rw [put_ne h, if_neg h]
theorem first_sum (y : Nat) : ∀ n, V (put (fun _ => 0) 0 y) n = if n = 0 then 0 else y
  | 0 => rfl
  | n + 1 => by
    rw [V_succ, first_sum y n, put_first]
    by_cases h : n = 0
    · subst h; simp
    · simp [h]
theorem fun_zero (F : Nat → Nat) : (fun i => F (0 + i)) = F := funext fun i => by rw [Nat.zero_add]
theorem sum_room {D y v n x : Nat} {f F2 : Nat → Nat} (hD : D = put (fun _ => 0) 0 y n) (hy : y < B) (hv : v < B) (h : V (fun i => F2 (0 + i)) n + v * B ^ n = V (fun i => put (fun _ => 0) 0 y (0 + i)) n + V f n * x) : D + v < 18446744073709551616 := by
  have e : (18446744073709551616 : Nat) = B := rfl
  rw [e]
  rw [put_first] at hD
  by_cases z : n = 0
  · subst z
    rw [V_zero, V_zero, V_zero] at h
    simp at h hD
    omega
  · rw [if_neg z] at hD
    omega
theorem plus_sum {D y v n x : Nat} {f F2 : Nat → Nat} (hD : D = put (fun _ => 0) 0 y n) (h : V (fun i => F2 (0 + i)) n + v * B ^ n = V (fun i => put (fun _ => 0) 0 y (0 + i)) n + V f n * x) : V (put F2 n (D + v)) (n + 1) = V f n * x + y := by
  rw [V_succ, V_put_low (Nat.le_refl _), put_at]
  rw [fun_zero, fun_zero, first_sum] at h
  rw [put_first] at hD
  by_cases z : n = 0
  · subst z
    rw [V_zero, V_zero] at *
    simp at h hD ⊢
    omega
  · rw [if_neg z] at h hD
    subst hD
    rw [Nat.zero_add]
    omega

set_option maxRecDepth 100000 in
set_option maxHeartbeats 1000000 in
theorem plus_any {w : World} {ao : Option Addr} {n c b o : Nat} {f : Nat → Nat} (S : Sl w ao n c b o f) (hn : n ≤ 1000) (x y : Nat) (hx : x < B) (hy : y < B) :
    Calls Tryd.prog 39 #[.slice ao n c, .int .u64 (x : Int), .int .u64 (y : Int)] w fun e w' => e = .returned (.slice (some ⟨w.heap.size, 0, none⟩) (n + 1) (n + 1)) ∧ Below w.heap.size w w' ∧
      ∃ F, Row w' w.heap.size (n + 1) F ∧ V F (n + 1) = V f n * x + y := by
  have hmk := run_make_row' (P := Tryd.prog) 27 49 (.int .u64 0) 8 und_nat info_u64 rfl .i64 .i64 (n + 1) (by omega) (by omega)
  simp only [Int.natCast_add, Int.natCast_one] at hmk
  have i0 : (0 : Int) ≤ (n : Int) := by omega
  have i1 : (n : Int) ≤ (n : Int) + 1 := by omega
  have i2 : (n : Int) < (n : Int) + 1 := by omega
  have HS : Hid (Sl w ao n c b o f) := S
  clear S
  have R0 := (made_row w (n + 1))
  have c0 := R0.row.cell (i := 0) (by omega)
  have f0 := R0.row.frozen 0
  have HR0 : Hid (Row (w.alloc (.cells (madeCells #[.int .u64 0] (n + 1)) 49)) w.heap.size (n + 1) (fun _ => 0)) := R0
  clear R0
  go_enter Tryd.func39, Tryd.ntmps39
  go_wp2_with fail
  have eU : (w.alloc (.cells (madeCells #[.int .u64 0] (n + 1)) 49)).setCell ⟨w.heap.size, 0, none⟩ (.int .u64 (y : Int)) = w.alloc (.cells ((madeCells #[.int .u64 0] (n + 1)).setIfInBounds 0 (.int .u64 (y : Int))) 49) := by simp [go_sem]
  obtain ⟨U, hV⟩ : ∃ U, U = w.alloc (.cells ((madeCells #[.int .u64 0] (n + 1)).setIfInBounds 0 (.int .u64 (y : Int))) 49) := ⟨_, rfl⟩
  rw [← hV]
  have hU := eU.trans hV.symm
  have RU : Row U w.heap.size (n + 1) (put (fun _ => 0) 0 y) := by rw [← hU]; exact HR0.out.set 0 hy
  have BU : Below w.heap.size w U := by rw [← hU]; exact ((Below.refl _ _).alloc (Nat.le_refl _) _).setCell (Nat.le_refl _) _
  have cU := RU.row.cell (i := n) (by omega)
  obtain ⟨D, hD⟩ : ∃ D, D = put (fun _ => 0) 0 y n := ⟨_, rfl⟩
  have cU' : U.cell? ⟨w.heap.size, n, none⟩ = some (.int .u64 (D : Int)) := by rw [hD]; exact cU
  have HD : Hid (D = put (fun _ => 0) 0 y n) := hD
  have HU : Hid (Row U w.heap.size (n + 1) (put (fun _ => 0) 0 y) ∧ Below w.heap.size w U) := ⟨RU, BU⟩
  clear hU hV eU RU BU cU hD c0 f0 hmk
  go_region_with
    (first
      | (go_at_call 65; refine (times_any (g := w.heap.size) (o := 0) (zo := some ⟨w.heap.size, 0, none⟩) (n := n) (c := n + 1) HU.out.1.drew (HS.out.below HU.out.2.drew) (fun q => ⟨rfl, Nat.ne_of_lt (HS.out.blk q)⟩) (by omega) (Nat.le_refl _) x hx).mono ?_; rintro e wa ⟨v, F2, rfl, hvB, hg, R2, hfr, hvv⟩; have cz : wa.cell? ⟨w.heap.size, n, none⟩ = some (.int .u64 (D : Int)) := (by rw [R2.row.cell (i := n) (by omega), hfr n (Or.inr (by omega)), HD.out]); have fz := R2.row.frozen n; have HG : Hid (Below w.heap.size w wa ∧ Row wa w.heap.size (n + 1) F2 ∧ (∀ i, i < 0 ∨ 0 + n ≤ i → F2 i = put (fun _ => 0) 0 y i) ∧ V (fun i => F2 (0 + i)) n + v * B ^ n = V (fun i => put (fun _ => 0) 0 y (0 + i)) n + V f n * x ∧ v < B) := ⟨below_grown HU.out.2.drew hg (Nat.le_refl _), R2, hfr, hvv, hvB⟩; have hDv : D + v < 18446744073709551616 := (sum_room HD.out hy hvB hvv); clear R2 hfr hvv hg hvB))
  all_goals go_wp2
  all_goals go_ret
  all_goals
   obtain ⟨g1, g2, g3, g4, g5⟩ := HG.out
   refine ⟨rfl, g1.setCell (Nat.le_refl _) _, put F2 n (D + v), ?_, ?_⟩
   · have ew : IntKind.u64.wrap ((D : Int) + (v : Int)) = ((D + v : Nat) : Int) := by rw [IntKind.wrap_u64]; omega
     rw [ew]
     exact g2.set n (r := D + v) hDv
   · exact plus_sum HD.out g4

end Go.Proofs.YtbmcegoebhbglabDoor
