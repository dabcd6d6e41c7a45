/-
  What the document's Words answers: a number as words, or that they are too many.
-/
import Derived.Test.YtkkgancmodhghaaDoorBigA
import Derived.Test.YtkkgancmodhghaaDoorNatE
import Derived.Test.YtkkgancmodhghaaDoorNatJ
namespace Go.Proofs.YtkkgancmodhghaaDoor
open Go.RowKit

theorem und_wordsB : Tryd.prog.underlying 22 = some (.slice 35) := by kernel_rfl
theorem pair_or {x y : Nat} (hx : x < Big.B) (hy : y < Big.B) : bits .or .u64 (x : Int) ((y : Int) * 4294967296) = ((x + y * Big.B : Nat) : Int) := by
  have e := up_lo (x := y) (z := x) (p := 32) (by omega) hx
  have w : IntKind.u64.wrap ((y : Int) * 2 ^ 32) = (y : Int) * 4294967296 := by
    rw [IntKind.wrap_u64]; unfold Big.B at hy; omega
  rw [w] at e
  rw [e]
  unfold Big.B B at *
  omega

/-- What is answered of a number as words. -/
def wR (X : Nat) : Nat := if X < B ^ 128 then X else 0
def wE (X : Nat) : Nat := if X < B ^ 128 then 0 else 20

set_option maxRecDepth 100000 in
set_option maxHeartbeats 2000000 in
theorem words_big {w : World} {ao : Option Addr} {n c b o : Nat} {g : Nat → Nat} (S : Big.Sl w ao n c b o g) (t : Big.Top g n) (hn : n ≤ 10000) :
    Calls Tryd.prog 47 #[.slice ao n c] w fun e w' => ∃ v, e = .returned (.tuple #[v, .int .i64 (wE (Big.V g n) : Int)]) ∧ NatV w' v (wR (Big.V g n)) ∧ Below w.heap.size w w' := by
  obtain ⟨i0, hi, hz0, hz1, hz2⟩ := info_parts info_u64
  have HS : Hid (Big.Sl w ao n c b o g) := S
  have HP : Hid (Ws (pairs g n) ∧ Top (pairs g n) ((n + 1) / 2) ∧ V (pairs g n) ((n + 1) / 2) = Big.V g n) := ⟨pairs_Ws S.ws, pairs_Top t, pairs_V g n⟩
  clear S t
  go_enter Tryd.func47, Tryd.ntmps47
  go_wp2
  go_loopw [4, 5] (fun v i wr => ∃ k : Nat, i = .int .i64 (((2 * k : Nat) : Nat) : Int) ∧ 2 * k ≤ n + 1 ∧ wr.ownsRow w.heap.size 35 1 v k (dV .u64 (pairs g n) k) ∧ Below w.heap.size w wr) (fun _ i _ => n + 2 - (intOf i).toNat)
  case atStart => exact ⟨0, rfl, by omega, World.ownsRow_nil _ _ _ _, Below.refl _ _⟩
  case round =>
    obtain ⟨k, rfl, hk, hown, hbl⟩ := hrel
    have hsz := hbl.size
    by_cases c1 : 2 * k < n
    · obtain rfl := HS.out.addr (by omega)
      have hc := (HS.out.below hbl).cell (2 * k) c1
      have bf := HS.out.ws (2 * k)
      have bg := HS.out.ws (2 * k + 1)
      by_cases c2 : 2 * k + 1 < n
      · have hc' := (HS.out.below hbl).cell (2 * k + 1) c2
        have hor := pair_or bf bg
        have HW : Hid (g (2 * k) + g (2 * k + 1) * Big.B = pairs g n k) := by
          show _ = _
          unfold pairs; rw [cut_in c1, cut_in c2]
        generalize g (2 * k) + g (2 * k + 1) * Big.B = r at *
        unfold Big.B at bf bg
        generalize hj : 2 * k = j at *
        go_wp2_with (first
          | (at_builtin; refine wpList_append_own _ rfl _ _ 22 rfl w.heap.size 35 i0 (.int .u64 0) 1 8 und_wordsB hi hz0 hz1 hz2 rfl (by decide) _ _ _ rfl (hown.alloc _) ⟨wr.heap.size, 0, none⟩ 1 1 [.int .u64 (r : Int)] rfl rfl (World.news_of_block (cs := #[.int .u64 (r : Int)]) (t := 35) (fr := (0, 0)) (heap_alloc_new wr _)) (by simp [Value.oneCell']) (by unfold maxLen; omega) (by omega) (by rw [World.size_alloc]; omega) ?_)
          | go_in)
        intro v' w3 hown' hgrow hnil
        have hb3 : Below w.heap.size w w3 := (hbl.alloc (by omega) _).grown hgrow (by rw [World.size_alloc]; omega) (fun q hq => (hown.lt q hq).1)
        have HO3 : Hid (w3.ownsRow w.heap.size 35 1 v' (k + 1) (dV .u64 (pairs g n) (k + 1)) ∧ Below w.heap.size w w3) := ⟨by rw [dV_succ, ← HW.out]; exact hown', hb3⟩
        clear hown' hb3 hgrow hnil hown hbl
        go_wp2
        go_roundw
        case rel => exact ⟨k + 1, by go_num, by omega, HO3.out.1, HO3.out.2⟩
        case measure => simp [intOf]; omega
      · have HW : Hid (g (2 * k) = pairs g n k) := by
          show _ = _
          unfold pairs; rw [cut_in c1, cut_out c2, Nat.zero_mul, Nat.add_zero]
        unfold Big.B at bf bg
        generalize g (2 * k) = r at *
        generalize hj : 2 * k = j at *
        go_wp2_with (first
          | (at_builtin; refine wpList_append_own _ rfl _ _ 22 rfl w.heap.size 35 i0 (.int .u64 0) 1 8 und_wordsB hi hz0 hz1 hz2 rfl (by decide) _ _ _ rfl (hown.alloc _) ⟨wr.heap.size, 0, none⟩ 1 1 [.int .u64 (r : Int)] rfl rfl (World.news_of_block (cs := #[.int .u64 (r : Int)]) (t := 35) (fr := (0, 0)) (heap_alloc_new wr _)) (by simp [Value.oneCell']) (by unfold maxLen; omega) (by omega) (by rw [World.size_alloc]; omega) ?_)
          | go_in)
        intro v' w3 hown' hgrow hnil
        have hb3 : Below w.heap.size w w3 := (hbl.alloc (by omega) _).grown hgrow (by rw [World.size_alloc]; omega) (fun q hq => (hown.lt q hq).1)
        have HO3 : Hid (w3.ownsRow w.heap.size 35 1 v' (k + 1) (dV .u64 (pairs g n) (k + 1)) ∧ Below w.heap.size w w3) := ⟨by rw [dV_succ, ← HW.out]; exact hown', hb3⟩
        clear hown' hb3 hgrow hnil hown hbl
        go_wp2
        go_roundw
        case rel => exact ⟨k + 1, by go_num, by omega, HO3.out.1, HO3.out.2⟩
        case measure => simp [intOf]; omega
    · obtain rfl : k = (n + 1) / 2 := by omega
      obtain ⟨ao', c', b', rfl, S3, _⟩ := own_sl hown HP.out.1
      generalize hj : (n + 1) / 2 = j at *
      clear hown
      by_cases c3 : 128 < j
      · have HX : Hid (¬ Big.V g n < B ^ 128) := by
          show ¬ _
          intro q
          have := len_le HP.out.2.1 (by rw [HP.out.2.2]; exact q)
          omega
        have c3' : (128 : Int) < (j : Int) := by omega
        go_wp2
        refine bodyPost_ret (v := .tuple #[.slice none 0 0, .int .i64 20]) (by simp [results, Tryd.results47, go_sem]) rfl ⟨.slice none 0 0, ?_, ?_, hbl⟩
        · unfold wE; rw [if_neg HX.out]; rfl
        · unfold wR; rw [if_neg HX.out]; exact natv_nil _
      · have HX : Hid (Big.V g n < B ^ 128) := by
          show _ < _
          rw [← HP.out.2.2]
          exact Nat.lt_of_lt_of_le (V_lt HP.out.1 _) (Nat.pow_le_pow_right B_pos (by omega))
        have c3' : ¬ (128 : Int) < (j : Int) := by omega
        go_wp2
        refine bodyPost_ret (v := .tuple #[.slice ao' j c', .int .i64 0]) (by simp [results, Tryd.results47, go_sem]) rfl ⟨.slice ao' j c', ?_, ?_, hbl⟩
        · unfold wE; rw [if_pos HX.out]; rfl
        · unfold wR; rw [if_pos HX.out]; exact ⟨_, _, _, _, _, _, rfl, S3, HP.out.2.1, HP.out.2.2, by omega⟩

theorem words_any {w : World} {va : Value} {X : Nat} (ha : Big.NatV w va X) (hX : Fits 1000 X) :
    Calls Tryd.prog 47 #[va] w fun e w' => ∃ v, e = .returned (.tuple #[v, .int .i64 (wE X : Int)]) ∧ NatV w' v (wR X) ∧ Below w.heap.size w w' := by
  obtain ⟨ao, n, c, b, o, f, rfl, S, t, rfl⟩ := ha
  have := big_len t hX
  exact words_big S t (by omega)

end Go.Proofs.YtkkgancmodhghaaDoor
