/-
  What the document's Add of layer 13 answers: the sum of two numbers.
-/
import Derived.Test.YtohbggdkopmpfaaDoorPwS
namespace Go.Proofs.YtohbggdkopmpfaaDoor
open Go.RowKit

set_option maxRecDepth 100000 in
set_option maxHeartbeats 2000000 in
theorem dadd_big {w : World} {ao : Option Addr} {n c b o : Nat} {f : Nat → Nat} (S : Big.D.Sl w ao n c b o f) {bo : Option Addr} {m cb bb ob : Nat} {g : Nat → Nat} (S' : Big.D.Sl w bo m cb bb ob g) (hn : n ≤ 10000) (hm : m ≤ 10000) :
    Calls Tryd.prog 50 #[.slice ao n c, .slice bo m cb] w fun e w' => ∃ v, e = .returned v ∧ Big.D.NewV w' w.heap.size v (Big.V f n + Big.V g m) ∧ Below w.heap.size w w' := by
  obtain ⟨i0, hi, hz0, hz1, hz2⟩ := info_parts Big.D.info_u64
  have HS : Hid (Big.D.Sl w ao n c b o f) := S
  have HS' : Hid (Big.D.Sl w bo m cb bb ob g) := S'
  clear S S'
  go_enter Tryd.func50, Tryd.ntmps50
  go_wp2
  go_loopw [5, 6, 7] (fun v cy i wr => ∃ (k x : Nat) (F : Nat → Nat), cy = .int .u64 (x : Int) ∧ i = .int .i64 (k : Int) ∧ k ≤ max n m ∧ x ≤ 1 ∧ Big.Ws F ∧ wr.ownsRow w.heap.size 22 1 v k (dV .u64 F k) ∧ Below w.heap.size w wr ∧ Big.V F k + x * Big.B ^ k = Big.V (cut f n) k + Big.V (cut g m) k) (fun _ _ i _ => max n m - (intOf i).toNat)
  case atStart => exact ⟨0, 0, fun _ => 0, rfl, rfl, Nat.zero_le _, by omega, fun _ => Big.B_pos, World.ownsRow_nil _ _ _ _, Below.refl _ _, rfl⟩
  case round =>
    obtain ⟨k, x, F, rfl, rfl, hk, hx, hF, hown, hbl, hv⟩ := hrel
    have hsz := hbl.size
    have st := Big.sum_step (x := cut f n k) (y := cut g m k) hv
    have HV : Hid (Big.V F k + x * Big.B ^ k = Big.V (cut f n) k + Big.V (cut g m) k) := hv
    have bf := HS.out.ws k
    have bg := HS'.out.ws k
    unfold Big.B at bf bg
    clear hv
    by_cases c1 : k < n <;> by_cases c2 : k < m
    · skip
      rw [cut_in c1, cut_in c2] at st
      obtain rfl := HS.out.addr (by omega)
      have hc := (HS.out.below hbl).cell k c1
      obtain rfl := HS'.out.addr (by omega)
      have hc' := (HS'.out.below hbl).cell k c2
      have e1 : ((x : Int) + (f k : Int) + (g k : Int)) % 4294967296 = (((f k + g k + x) % Big.B : Nat) : Int) := by unfold Big.B; omega
      have e2 : ((x : Int) + (f k : Int) + (g k : Int)) / 4294967296 = (((f k + g k + x) / Big.B : Nat) : Int) := by unfold Big.B; omega
      have hr : (f k + g k + x) % Big.B < Big.B := Nat.mod_lt _ Big.B_pos
      have hq : (f k + g k + x) / Big.B ≤ 1 := by unfold Big.B; omega
      have HST := (show Hid _ from st)
      clear st
      generalize (f k + g k + x) % Big.B = r at *
      generalize (f k + g k + x) / Big.B = q at *
      go_wp2_with (first
        | (at_builtin; refine wpList_append_own _ rfl _ _ 66 rfl w.heap.size 22 i0 (.int .u64 0) 1 8 Big.D.und_big13 hi hz0 hz1 hz2 rfl (by decide) _ _ _ rfl (hown.alloc _) ⟨wr.heap.size, 0, none⟩ 1 1 [.int .u64 (r : Int)] rfl rfl (World.news_of_block (cs := #[.int .u64 (r : Int)]) (t := 22) (fr := (0, 0)) (heap_alloc_new wr _)) (by simp [Value.oneCell']) (by unfold maxLen; omega) (by omega) (by rw [World.size_alloc]; omega) ?_)
        | go_in)
      intro v' w3 hown' hgrow hnil
      have hb3 : Below w.heap.size w w3 := (hbl.alloc (by omega) _).grown hgrow (by rw [World.size_alloc]; omega) (fun q hq => (hown.lt q hq).1)
      have HO3 : Hid (w3.ownsRow w.heap.size 22 1 v' (k + 1) (dV .u64 (Big.put F k r) (k + 1)) ∧ Below w.heap.size w w3) := ⟨by rw [dV_put]; exact hown', hb3⟩
      clear hown' hb3 hgrow hnil hown hbl
      go_wp2
      go_roundw
      case rel =>
        refine ⟨k + 1, q, Big.put F k r, by rw [e2], by go_num, by omega, hq, Big.put_Ws hF hr, HO3.out.1, HO3.out.2, ?_⟩
        rw [V_putB, Big.V_succ, Big.V_succ, Nat.pow_succ, cut_in c1, cut_in c2]
        exact HST.out
      case measure => simp [intOf]; omega
    · skip
      rw [cut_in c1, cut_out c2] at st
      obtain rfl := HS.out.addr (by omega)
      have hc := (HS.out.below hbl).cell k c1
      have e1 : ((x : Int) + (f k : Int)) % 4294967296 = (((f k + 0 + x) % Big.B : Nat) : Int) := by unfold Big.B; omega
      have e2 : ((x : Int) + (f k : Int)) / 4294967296 = (((f k + 0 + x) / Big.B : Nat) : Int) := by unfold Big.B; omega
      have hr : (f k + 0 + x) % Big.B < Big.B := Nat.mod_lt _ Big.B_pos
      have hq : (f k + 0 + x) / Big.B ≤ 1 := by unfold Big.B; omega
      have HST := (show Hid _ from st)
      clear st
      generalize (f k + 0 + x) % Big.B = r at *
      generalize (f k + 0 + x) / Big.B = q at *
      go_wp2_with (first
        | (at_builtin; refine wpList_append_own _ rfl _ _ 66 rfl w.heap.size 22 i0 (.int .u64 0) 1 8 Big.D.und_big13 hi hz0 hz1 hz2 rfl (by decide) _ _ _ rfl (hown.alloc _) ⟨wr.heap.size, 0, none⟩ 1 1 [.int .u64 (r : Int)] rfl rfl (World.news_of_block (cs := #[.int .u64 (r : Int)]) (t := 22) (fr := (0, 0)) (heap_alloc_new wr _)) (by simp [Value.oneCell']) (by unfold maxLen; omega) (by omega) (by rw [World.size_alloc]; omega) ?_)
        | go_in)
      intro v' w3 hown' hgrow hnil
      have hb3 : Below w.heap.size w w3 := (hbl.alloc (by omega) _).grown hgrow (by rw [World.size_alloc]; omega) (fun q hq => (hown.lt q hq).1)
      have HO3 : Hid (w3.ownsRow w.heap.size 22 1 v' (k + 1) (dV .u64 (Big.put F k r) (k + 1)) ∧ Below w.heap.size w w3) := ⟨by rw [dV_put]; exact hown', hb3⟩
      clear hown' hb3 hgrow hnil hown hbl
      go_wp2
      go_roundw
      case rel =>
        refine ⟨k + 1, q, Big.put F k r, by rw [e2], by go_num, by omega, hq, Big.put_Ws hF hr, HO3.out.1, HO3.out.2, ?_⟩
        rw [V_putB, Big.V_succ, Big.V_succ, Nat.pow_succ, cut_in c1, cut_out c2]
        exact HST.out
      case measure => simp [intOf]; omega
    · skip
      rw [cut_out c1, cut_in c2] at st
      obtain rfl := HS'.out.addr (by omega)
      have hc' := (HS'.out.below hbl).cell k c2
      have e1 : ((x : Int) + (g k : Int)) % 4294967296 = (((0 + g k + x) % Big.B : Nat) : Int) := by unfold Big.B; omega
      have e2 : ((x : Int) + (g k : Int)) / 4294967296 = (((0 + g k + x) / Big.B : Nat) : Int) := by unfold Big.B; omega
      have hr : (0 + g k + x) % Big.B < Big.B := Nat.mod_lt _ Big.B_pos
      have hq : (0 + g k + x) / Big.B ≤ 1 := by unfold Big.B; omega
      have HST := (show Hid _ from st)
      clear st
      generalize (0 + g k + x) % Big.B = r at *
      generalize (0 + g k + x) / Big.B = q at *
      go_wp2_with (first
        | (at_builtin; refine wpList_append_own _ rfl _ _ 66 rfl w.heap.size 22 i0 (.int .u64 0) 1 8 Big.D.und_big13 hi hz0 hz1 hz2 rfl (by decide) _ _ _ rfl (hown.alloc _) ⟨wr.heap.size, 0, none⟩ 1 1 [.int .u64 (r : Int)] rfl rfl (World.news_of_block (cs := #[.int .u64 (r : Int)]) (t := 22) (fr := (0, 0)) (heap_alloc_new wr _)) (by simp [Value.oneCell']) (by unfold maxLen; omega) (by omega) (by rw [World.size_alloc]; omega) ?_)
        | go_in)
      intro v' w3 hown' hgrow hnil
      have hb3 : Below w.heap.size w w3 := (hbl.alloc (by omega) _).grown hgrow (by rw [World.size_alloc]; omega) (fun q hq => (hown.lt q hq).1)
      have HO3 : Hid (w3.ownsRow w.heap.size 22 1 v' (k + 1) (dV .u64 (Big.put F k r) (k + 1)) ∧ Below w.heap.size w w3) := ⟨by rw [dV_put]; exact hown', hb3⟩
      clear hown' hb3 hgrow hnil hown hbl
      go_wp2
      go_roundw
      case rel =>
        refine ⟨k + 1, q, Big.put F k r, by rw [e2], by go_num, by omega, hq, Big.put_Ws hF hr, HO3.out.1, HO3.out.2, ?_⟩
        rw [V_putB, Big.V_succ, Big.V_succ, Nat.pow_succ, cut_out c1, cut_in c2]
        exact HST.out
      case measure => simp [intOf]; omega
    · skip
      have HE : Hid (Big.V (Big.put F k x) (k + 1) = Big.V f n + Big.V g m) := by
        show _ = _
        rw [V_putB, HV.out, cut_V (by omega), cut_V (by omega)]
      have hw : Big.Ws (Big.put F k x) := Big.put_Ws hF (by unfold Big.B; omega)
      clear st
      go_wp2_with (first
        | (at_builtin; refine wpList_append_own _ rfl _ _ 66 rfl w.heap.size 22 i0 (.int .u64 0) 1 8 Big.D.und_big13 hi hz0 hz1 hz2 rfl (by decide) _ _ _ rfl (hown.alloc _) ⟨wr.heap.size, 0, none⟩ 1 1 [.int .u64 (x : Int)] rfl rfl (World.news_of_block (cs := #[.int .u64 (x : Int)]) (t := 22) (fr := (0, 0)) (heap_alloc_new wr _)) (by simp [Value.oneCell']) (by unfold maxLen; omega) (by omega) (by rw [World.size_alloc]; omega) ?_)
        | go_in)
      intro v' w3 hown' hgrow hnil
      have hb3 : Below w.heap.size w w3 := (hbl.alloc (by omega) _).grown hgrow (by rw [World.size_alloc]; omega) (fun q hq => (hown.lt q hq).1)
      rw [← dV_put] at hown'
      obtain ⟨ao', c', b', rfl, S3, hnw⟩ := Big.D.own_sl hown' hw
      have T := Big.D.trim_any S3
      have NV := S3.trimmedN hnw
      clear hnw
      rw [HE.out] at NV
      clear hown' hgrow hnil hown hbl
      go_wp2_with fail
      refine T.mono ?_
      rintro e wa ⟨rfl, rfl⟩
      go_wp2
      go_ret
      exact ⟨_, rfl, NV, hb3⟩
theorem dadd_new {w : World} {va vb : Value} {X Y : Nat} (ha : Big.D.NatV w va X) (hb : Big.D.NatV w vb Y) (hX : Fits 1000 X) (hY : Fits 1000 Y) :
    Calls Tryd.prog 50 #[va, vb] w fun e w' => ∃ v, e = .returned v ∧ Big.D.NewV w' w.heap.size v (X + Y) ∧ Below w.heap.size w w' := by
  obtain ⟨ao, n, c, b, o, f, rfl, S, t, rfl⟩ := ha
  obtain ⟨bo, m, cb, bb, ob, g, rfl, S', t', rfl⟩ := hb
  have := big_len t hX
  have := big_len t' hY
  exact dadd_big S S' (by omega) (by omega)

end Go.Proofs.YtohbggdkopmpfaaDoor
