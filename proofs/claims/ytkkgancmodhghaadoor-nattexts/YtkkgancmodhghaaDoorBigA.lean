/-
  What the document's Plus answers: the sum of two numbers.
-/
import Derived.Test.YtkkgancmodhghaaDoorBigO
namespace Go.Proofs.YtkkgancmodhghaaDoor
open Go.RowKit

theorem cut_in {g : Nat → Nat} {n i : Nat} (h : i < n) : cut g n i = g i := by unfold cut; rw [if_pos h]
theorem cut_out {g : Nat → Nat} {n i : Nat} (h : ¬ i < n) : cut g n i = 0 := by unfold cut; rw [if_neg h]
theorem cut_V {g : Nat → Nat} {n k : Nat} (h : n ≤ k) : Big.V (cut g n) k = Big.V g n := by
  rw [Big.V_zeros (f := cut g n) h (fun i a _ => cut_out (by omega))]
  exact Big.V_congr fun i hi => cut_in hi
theorem dV_put (K : IntKind) (F : Nat → Nat) (k r : Nat) : dV K (Big.put F k r) (k + 1) = dV K F k ++ [.int K (r : Int)] := by
  rw [dV_succ, Big.put_at, dV_congr (G := F) (fun i hi => Big.put_ne (by omega))]
theorem V_putB (F : Nat → Nat) (k r : Nat) : Big.V (Big.put F k r) (k + 1) = Big.V F k + r * Big.B ^ k := by
  rw [Big.V_succ, Big.put_at, Big.V_put_low (Nat.le_refl _)]

set_option maxRecDepth 100000 in
set_option maxHeartbeats 2000000 in
theorem plus_big {w : World} {ao : Option Addr} {n c b o : Nat} {f : Nat → Nat} (S : Big.Sl w ao n c b o f) {bo : Option Addr} {m cb bb ob : Nat} {g : Nat → Nat} (S' : Big.Sl w bo m cb bb ob g) (hn : n ≤ 10000) (hm : m ≤ 10000) :
    Calls Tryd.prog 48 #[.slice ao n c, .slice bo m cb] w fun e w' => ∃ v, e = .returned v ∧ Big.NatV w' v (Big.V f n + Big.V g m) ∧ Below w.heap.size w w' := by
  obtain ⟨i0, hi, hz0, hz1, hz2⟩ := info_parts Big.info_u32
  have HS : Hid (Big.Sl w ao n c b o f) := S
  have HS' : Hid (Big.Sl w bo m cb bb ob g) := S'
  clear S S'
  go_enter Tryd.func48, Tryd.ntmps48
  go_wp2
  go_loopw [5, 6, 7] (fun v cy i wr => ∃ (k x : Nat) (F : Nat → Nat), cy = .int .u64 (x : Int) ∧ i = .int .i64 (k : Int) ∧ k ≤ max n m ∧ x ≤ 1 ∧ Big.Ws F ∧ wr.ownsRow w.heap.size 116 1 v k (dV .u32 F k) ∧ Below w.heap.size w wr ∧ Big.V F k + x * Big.B ^ k = Big.V (cut f n) k + Big.V (cut g m) k) (fun _ _ i _ => max n m - (intOf i).toNat)
  case atStart => exact ⟨0, 0, fun _ => 0, rfl, rfl, Nat.zero_le _, by omega, fun _ => Big.B_pos, World.ownsRow_nil _ _ _ _, Below.refl _ _, rfl⟩
  case round =>
    obtain ⟨k, x, F, rfl, rfl, hk, hx, hF, hown, hbl, hv⟩ := hrel
    have hsz := hbl.size
    have st := Big.sum_step (x := cut f n k) (y := cut g m k) hv
    have HV : Hid (Big.V F k + x * Big.B ^ k = Big.V (cut f n) k + Big.V (cut g m) k) := hv
    have bf := HS.out.ws k
    have bg := HS'.out.ws k
    unfold Big.B at bf bg
    clear hv
    by_cases c1 : k < n <;> by_cases c2 : k < m
    · skip
      rw [cut_in c1, cut_in c2] at st
      obtain rfl := HS.out.addr (by omega)
      have hc := (HS.out.below hbl).cell k c1
      obtain rfl := HS'.out.addr (by omega)
      have hc' := (HS'.out.below hbl).cell k c2
      have e1 : IntKind.u32.wrap ((x : Int) + (f k : Int) + (g k : Int)) = (((f k + g k + x) % Big.B : Nat) : Int) := by rw [IntKind.wrap_u32]; unfold Big.B; omega
      have e2 : ((x : Int) + (f k : Int) + (g k : Int)) / 4294967296 = (((f k + g k + x) / Big.B : Nat) : Int) := by unfold Big.B; omega
      have hr : (f k + g k + x) % Big.B < Big.B := Nat.mod_lt _ Big.B_pos
      have hq : (f k + g k + x) / Big.B ≤ 1 := by unfold Big.B; omega
      have HST := (show Hid _ from st)
      clear st
      generalize (f k + g k + x) % Big.B = r at *
      generalize (f k + g k + x) / Big.B = q at *
      go_wp2_with (first
        | (at_builtin; refine wpList_append_own _ rfl _ _ 78 rfl w.heap.size 116 i0 (.int .u32 0) 1 4 Big.und_big hi hz0 hz1 hz2 rfl (by decide) _ _ _ rfl (hown.alloc _) ⟨wr.heap.size, 0, none⟩ 1 1 [.int .u32 (r : Int)] rfl rfl (World.news_of_block (cs := #[.int .u32 (r : Int)]) (t := 116) (fr := (0, 0)) (heap_alloc_new wr _)) (by simp [Value.oneCell']) (by unfold maxLen; omega) (by omega) (by rw [World.size_alloc]; omega) ?_)
        | go_in)
      intro v' w3 hown' hgrow hnil
      have hb3 : Below w.heap.size w w3 := (hbl.alloc (by omega) _).grown hgrow (by rw [World.size_alloc]; omega) (fun q hq => (hown.lt q hq).1)
      have HO3 : Hid (w3.ownsRow w.heap.size 116 1 v' (k + 1) (dV .u32 (Big.put F k r) (k + 1)) ∧ Below w.heap.size w w3) := ⟨by rw [dV_put]; exact hown', hb3⟩
      clear hown' hb3 hgrow hnil hown hbl
      go_wp2
      go_roundw
      case rel =>
        refine ⟨k + 1, q, Big.put F k r, rfl, by go_num, by omega, hq, Big.put_Ws hF hr, HO3.out.1, HO3.out.2, ?_⟩
        rw [V_putB, Big.V_succ, Big.V_succ, Nat.pow_succ, cut_in c1, cut_in c2]
        exact HST.out
      case measure => simp [intOf]; omega
    · skip
      rw [cut_in c1, cut_out c2] at st
      obtain rfl := HS.out.addr (by omega)
      have hc := (HS.out.below hbl).cell k c1
      have e1 : IntKind.u32.wrap ((x : Int) + (f k : Int)) = (((f k + 0 + x) % Big.B : Nat) : Int) := by rw [IntKind.wrap_u32]; unfold Big.B; omega
      have e2 : ((x : Int) + (f k : Int)) / 4294967296 = (((f k + 0 + x) / Big.B : Nat) : Int) := by unfold Big.B; omega
      have hr : (f k + 0 + x) % Big.B < Big.B := Nat.mod_lt _ Big.B_pos
      have hq : (f k + 0 + x) / Big.B ≤ 1 := by unfold Big.B; omega
      have HST := (show Hid _ from st)
      clear st
      generalize (f k + 0 + x) % Big.B = r at *
      generalize (f k + 0 + x) / Big.B = q at *
      go_wp2_with (first
        | (at_builtin; refine wpList_append_own _ rfl _ _ 78 rfl w.heap.size 116 i0 (.int .u32 0) 1 4 Big.und_big hi hz0 hz1 hz2 rfl (by decide) _ _ _ rfl (hown.alloc _) ⟨wr.heap.size, 0, none⟩ 1 1 [.int .u32 (r : Int)] rfl rfl (World.news_of_block (cs := #[.int .u32 (r : Int)]) (t := 116) (fr := (0, 0)) (heap_alloc_new wr _)) (by simp [Value.oneCell']) (by unfold maxLen; omega) (by omega) (by rw [World.size_alloc]; omega) ?_)
        | go_in)
      intro v' w3 hown' hgrow hnil
      have hb3 : Below w.heap.size w w3 := (hbl.alloc (by omega) _).grown hgrow (by rw [World.size_alloc]; omega) (fun q hq => (hown.lt q hq).1)
      have HO3 : Hid (w3.ownsRow w.heap.size 116 1 v' (k + 1) (dV .u32 (Big.put F k r) (k + 1)) ∧ Below w.heap.size w w3) := ⟨by rw [dV_put]; exact hown', hb3⟩
      clear hown' hb3 hgrow hnil hown hbl
      go_wp2
      go_roundw
      case rel =>
        refine ⟨k + 1, q, Big.put F k r, rfl, by go_num, by omega, hq, Big.put_Ws hF hr, HO3.out.1, HO3.out.2, ?_⟩
        rw [V_putB, Big.V_succ, Big.V_succ, Nat.pow_succ, cut_in c1, cut_out c2]
        exact HST.out
      case measure => simp [intOf]; omega
    · skip
      rw [cut_out c1, cut_in c2] at st
      obtain rfl := HS'.out.addr (by omega)
      have hc' := (HS'.out.below hbl).cell k c2
      have e1 : IntKind.u32.wrap ((x : Int) + (g k : Int)) = (((0 + g k + x) % Big.B : Nat) : Int) := by rw [IntKind.wrap_u32]; unfold Big.B; omega
      have e2 : ((x : Int) + (g k : Int)) / 4294967296 = (((0 + g k + x) / Big.B : Nat) : Int) := by unfold Big.B; omega
      have hr : (0 + g k + x) % Big.B < Big.B := Nat.mod_lt _ Big.B_pos
      have hq : (0 + g k + x) / Big.B ≤ 1 := by unfold Big.B; omega
      have HST := (show Hid _ from st)
      clear st
      generalize (0 + g k + x) % Big.B = r at *
      generalize (0 + g k + x) / Big.B = q at *
      go_wp2_with (first
        | (at_builtin; refine wpList_append_own _ rfl _ _ 78 rfl w.heap.size 116 i0 (.int .u32 0) 1 4 Big.und_big hi hz0 hz1 hz2 rfl (by decide) _ _ _ rfl (hown.alloc _) ⟨wr.heap.size, 0, none⟩ 1 1 [.int .u32 (r : Int)] rfl rfl (World.news_of_block (cs := #[.int .u32 (r : Int)]) (t := 116) (fr := (0, 0)) (heap_alloc_new wr _)) (by simp [Value.oneCell']) (by unfold maxLen; omega) (by omega) (by rw [World.size_alloc]; omega) ?_)
        | go_in)
      intro v' w3 hown' hgrow hnil
      have hb3 : Below w.heap.size w w3 := (hbl.alloc (by omega) _).grown hgrow (by rw [World.size_alloc]; omega) (fun q hq => (hown.lt q hq).1)
      have HO3 : Hid (w3.ownsRow w.heap.size 116 1 v' (k + 1) (dV .u32 (Big.put F k r) (k + 1)) ∧ Below w.heap.size w w3) := ⟨by rw [dV_put]; exact hown', hb3⟩
      clear hown' hb3 hgrow hnil hown hbl
      go_wp2
      go_roundw
      case rel =>
        refine ⟨k + 1, q, Big.put F k r, rfl, by go_num, by omega, hq, Big.put_Ws hF hr, HO3.out.1, HO3.out.2, ?_⟩
        rw [V_putB, Big.V_succ, Big.V_succ, Nat.pow_succ, cut_out c1, cut_in c2]
        exact HST.out
      case measure => simp [intOf]; omega
    · skip
      have e1 : IntKind.u32.wrap (x : Int) = (x : Int) := by rw [IntKind.wrap_u32]; omega
      have HE : Hid (Big.V (Big.put F k x) (k + 1) = Big.V f n + Big.V g m) := by
        show _ = _
        rw [V_putB, HV.out, cut_V (by omega), cut_V (by omega)]
      have hw : Big.Ws (Big.put F k x) := Big.put_Ws hF (by unfold Big.B; omega)
      clear st
      go_wp2_with (first
        | (at_builtin; refine wpList_append_own _ rfl _ _ 78 rfl w.heap.size 116 i0 (.int .u32 0) 1 4 Big.und_big hi hz0 hz1 hz2 rfl (by decide) _ _ _ rfl (hown.alloc _) ⟨wr.heap.size, 0, none⟩ 1 1 [.int .u32 (x : Int)] rfl rfl (World.news_of_block (cs := #[.int .u32 (x : Int)]) (t := 116) (fr := (0, 0)) (heap_alloc_new wr _)) (by simp [Value.oneCell']) (by unfold maxLen; omega) (by omega) (by rw [World.size_alloc]; omega) ?_)
        | go_in)
      intro v' w3 hown' hgrow hnil
      have hb3 : Below w.heap.size w w3 := (hbl.alloc (by omega) _).grown hgrow (by rw [World.size_alloc]; omega) (fun q hq => (hown.lt q hq).1)
      rw [← dV_put] at hown'
      obtain ⟨ao', c', b', rfl, S3, _⟩ := Big.own_sl hown' hw
      have T := Big.trim_any S3
      have NV := S3.trimmed
      rw [HE.out] at NV
      clear hown' hgrow hnil hown hbl
      go_wp2_with fail
      refine T.mono ?_
      rintro e wa ⟨rfl, rfl⟩
      go_wp2
      go_ret
      exact ⟨_, rfl, NV, hb3⟩

/-- A number of at most L digits. -/
def Fits (L X : Nat) : Prop := ∃ k, k ≤ L ∧ X < Big.B ^ k
theorem Fits.up {L M X : Nat} (h : Fits L X) (hl : L ≤ M) : Fits M X := by
  obtain ⟨k, a, b⟩ := h
  exact ⟨k, Nat.le_trans a hl, b⟩
theorem Fits.le {L X Y : Nat} (h : Fits L X) (hl : Y ≤ X) : Fits L Y := by
  obtain ⟨k, a, b⟩ := h
  exact ⟨k, a, Nat.lt_of_le_of_lt hl b⟩
theorem Fits.lt {L X : Nat} (h : Fits L X) : X < Big.B ^ L := by
  obtain ⟨k, a, b⟩ := h
  exact Nat.lt_of_lt_of_le b (Nat.pow_le_pow_right Big.B_pos a)
theorem Fits.sum {L X Y : Nat} (h : Fits L X) (k : Fits L Y) : Fits (L + 1) (X + Y) := by
  refine ⟨L + 1, Nat.le_refl _, ?_⟩
  have a := h.lt
  have b := k.lt
  have c : 2 * Big.B ^ L ≤ Big.B ^ (L + 1) := by
    rw [Nat.pow_succ, Nat.mul_comm]; exact Nat.mul_le_mul_left _ (by decide)
  omega
theorem Fits.mul {L M X Y : Nat} (h : Fits L X) (k : Fits M Y) : Fits (L + M) (X * Y) := by
  refine ⟨L + M, Nat.le_refl _, ?_⟩
  rw [Nat.pow_add]
  exact Nat.mul_lt_mul'' h.lt k.lt
theorem Fits.word {n X : Nat} (h : X < B ^ n) : Fits (2 * n) X := ⟨2 * n, Nat.le_refl _, by rw [← BB_pow]; exact h⟩
/-- The length of a number below a power. -/
theorem big_len {f : Nat → Nat} {n L : Nat} (t : Big.Top f n) (h : Fits L (Big.V f n)) : n ≤ L := Big.len_le t h.lt
theorem plus_any {w : World} {va vb : Value} {X Y : Nat} (ha : Big.NatV w va X) (hb : Big.NatV w vb Y) (hX : Fits 1000 X) (hY : Fits 1000 Y) :
    Calls Tryd.prog 48 #[va, vb] w fun e w' => ∃ v, e = .returned v ∧ Big.NatV w' v (X + Y) ∧ Below w.heap.size w w' := by
  obtain ⟨ao, n, c, b, o, f, rfl, S, t, rfl⟩ := ha
  obtain ⟨bo, m, cb, bb, ob, g, rfl, S', t', rfl⟩ := hb
  have := big_len t hX
  have := big_len t' hY
  exact plus_big S S' (by omega) (by omega)

end Go.Proofs.YtkkgancmodhghaaDoor
