/-
  Numbers of many words: what the program's calls and the document's answer.
-/
import Derived.Test.YtealnajogkeckaaDoorRn2
namespace Go.Proofs.YtealnajogkeckaaDoor
open Go.RowKit

theorem lo32 (x : Nat) : IntKind.u32.wrap (x : Int) = ((x % Big.B : Nat) : Int) := by
  rw [IntKind.wrap_u32]; unfold Big.B; omega
theorem hi32 {x : Nat} (h : x < B) : IntKind.u32.wrap ((x : Int) / 4294967296) = ((x / Big.B : Nat) : Int) := by
  rw [IntKind.wrap_u32]; unfold Big.B; unfold B at h; omega
set_option maxRecDepth 100000 in
set_option maxHeartbeats 2000000 in
theorem rof_any {w : World} {ao : Option Addr} {n c b o : Nat} {f : Nat → Nat} (S : Sl w ao n c b o f) (hn : n ≤ 1000) :
    Calls Tryd.prog 37 #[.slice ao n c] w fun e w' => ∃ v, e = .returned v ∧ Big.NatV w' v (V f n) ∧ Below w.heap.size w w' := by
  obtain ⟨i0, hi, hz0, hz1, hz2⟩ := info_parts Big.info_u32
  have HS : Hid (Sl w ao n c b o f) := S
  clear S
  go_enter Tryd.func37, Tryd.ntmps37
  go_wp2
  go_loopw [3, 4] (fun v i wr => ∃ k : Nat, i = .int .i64 (k : Int) ∧ k ≤ n ∧ wr.ownsRow w.heap.size 114 1 v (2 * k) (dV .u32 (halves f) (2 * k)) ∧ Below w.heap.size w wr) (fun _ i _ => n - (intOf i).toNat)
  case atStart => exact ⟨0, rfl, Nat.zero_le _, World.ownsRow_nil _ _ _ _, Below.refl _ _⟩
  case round =>
    obtain ⟨k, rfl, hk, hown, hbl⟩ := hrel
    have hsz := hbl.size
    by_cases c1 : k < n
    · obtain rfl := HS.out.addr (by omega)
      have hc := (HS.out.below hbl).cell k c1
      have hbk := HS.out.blk (by omega)
      have ne : ∀ q, u3.ownBlock = some q → b ≠ q := fun q hq => Nat.ne_of_lt (Nat.lt_of_lt_of_le hbk (hown.lt q hq).1)
      have e1 := lo32 (f k)
      have e2 := hi32 (HS.out.ws k)
      have ik0 : (0 : Int) ≤ (k : Int) := by omega
      have ik1 : (k : Int) < (n : Int) := by omega
      have HQ : Hid (f k % Big.B = halves f (2 * k) ∧ f k / Big.B = halves f (2 * k + 1)) := ⟨(halves_even f k).symm, (halves_odd f k).symm⟩
      generalize f k % Big.B = lo at *
      generalize f k / Big.B = hi' at *
      have HO : Hid (wr.ownsRow w.heap.size 114 1 u3 (2 * k) (dV .u32 (halves f) (2 * k)) ∧ Below w.heap.size w wr) := ⟨hown, hbl⟩
      clear hown hbl
      go_wp2
      go_region_held3 (fun w' => w'.cell? ⟨b, o + k, none⟩ = some (.int .u64 (f k : Int)))
        (first
          | go_keep
          | (rw [hgrow.cell_far _ (by simp; omega) (fun q => ne _ q.symm rfl)]; assumption))
        ((refine step_append_lies _ (by rfl) _ _ _ (by rfl) w.heap.size 114 i0 (.int .u32 0) 1 4 Big.und_big hi hz0 hz1 hz2 rfl (by omega) u3 (2 * k) (dV .u32 (halves f) (2 * k)) (by rfl) ((HO.out.1.alloc _).drew)
            ⟨wr.heap.size, 0, none⟩ 2 2 [.int .u32 (lo : Int), .int .u32 (hi' : Int)] (by rfl) (by rfl) (World.news_of_block (cs := #[.int .u32 (lo : Int), .int .u32 (hi' : Int)]) (t := 114) (fr := (0, 0)) (heap_alloc_new wr _)) (by simp [Value.oneCell'])
            (by omega) (by unfold maxLen; omega) (by omega) (by simp; omega) (wr.heap.size + 1) (by simp) ?_; intro gg cap w1 hown1 hgrow hat hlt))
      have hb3 : Below w.heap.size w w1 := ((HO.out.2.alloc hsz _).drew).grown hgrow (by simp; omega) (fun q hq => (HO.out.1.lt q hq).1)
      have HO3 : Hid (w1.ownsRow w.heap.size 114 1 (.slice (some ⟨gg, 0, none⟩) (2 * k + 2) cap) (2 * k + 2) (dV .u32 (halves f) (2 * (k + 1))) ∧ Below w.heap.size w w1) := by
        refine ⟨?_, hb3⟩
        have q := hown1
        rw [HQ.out.1, HQ.out.2] at q
        rw [show 2 * (k + 1) = 2 * k + 1 + 1 by omega, dV_succ, dV_succ, List.append_assoc]
        exact q
      clear hown1 hgrow hat hlt hb3
      go_wp2
      go_roundw
      case rel => exact ⟨k + 1, by go_num, by omega, HO3.out.1, HO3.out.2⟩
      case measure => simp [intOf]; omega
    · obtain rfl : k = n := by omega
      obtain ⟨ao', c', b', rfl, S', _⟩ := Big.own_sl hown (halves_Ws HS.out.ws)
      have T := Big.trim_any S'
      go_wp2_with fail
      refine T.mono ?_
      rintro e wa ⟨rfl, rfl⟩
      go_wp2
      go_ret
      refine ⟨_, rfl, ?_, hbl⟩
      have q := S'.trimmed
      rw [halves_V] at q
      exact q
theorem cut_in {g : Nat → Nat} {n i : Nat} (h : i < n) : cut g n i = g i := by unfold cut; rw [if_pos h]
theorem cut_out {g : Nat → Nat} {n i : Nat} (h : ¬ i < n) : cut g n i = 0 := by unfold cut; rw [if_neg h]
theorem cut_V {g : Nat → Nat} {n k : Nat} (h : n ≤ k) : Big.V (cut g n) k = Big.V g n := by
  rw [Big.V_zeros (f := cut g n) h (fun i a _ => cut_out (by omega))]
  exact Big.V_congr fun i hi => cut_in hi
theorem dV_put (K : IntKind) (F : Nat → Nat) (k r : Nat) : dV K (Big.put F k r) (k + 1) = dV K F k ++ [.int K (r : Int)] := by
  rw [dV_succ, Big.put_at, dV_congr (G := F) (fun i hi => Big.put_ne (by omega))]
theorem V_putB (F : Nat → Nat) (k r : Nat) : Big.V (Big.put F k r) (k + 1) = Big.V F k + r * Big.B ^ k := by
  rw [Big.V_succ, Big.put_at, Big.V_put_low (Nat.le_refl _)]
set_option maxRecDepth 100000 in
set_option maxHeartbeats 2000000 in
theorem plus_big {w : World} {ao : Option Addr} {n c b o : Nat} {f : Nat → Nat} (S : Big.Sl w ao n c b o f) {bo : Option Addr} {m cb bb ob : Nat} {g : Nat → Nat} (S' : Big.Sl w bo m cb bb ob g) (hn : n ≤ 10000) (hm : m ≤ 10000) :
    Calls Tryd.prog 90 #[.slice ao n c, .slice bo m cb] w fun e w' => ∃ v, e = .returned v ∧ Big.NatV w' v (Big.V f n + Big.V g m) ∧ Below w.heap.size w w' := by
  obtain ⟨i0, hi, hz0, hz1, hz2⟩ := info_parts Big.info_u32
  have HS : Hid (Big.Sl w ao n c b o f) := S
  have HS' : Hid (Big.Sl w bo m cb bb ob g) := S'
  clear S S'
  go_enter Tryd.func90, Tryd.ntmps90
  go_wp2
  go_loopw [5, 6, 7] (fun v cy i wr => ∃ (k x : Nat) (F : Nat → Nat), cy = .int .u64 (x : Int) ∧ i = .int .i64 (k : Int) ∧ k ≤ max n m ∧ x ≤ 1 ∧ Big.Ws F ∧ wr.ownsRow w.heap.size 114 1 v k (dV .u32 F k) ∧ Below w.heap.size w wr ∧ Big.V F k + x * Big.B ^ k = Big.V (cut f n) k + Big.V (cut g m) k) (fun _ _ i _ => max n m - (intOf i).toNat)
  case atStart => exact ⟨0, 0, fun _ => 0, rfl, rfl, Nat.zero_le _, by omega, fun _ => Big.B_pos, World.ownsRow_nil _ _ _ _, Below.refl _ _, rfl⟩
  case round =>
    obtain ⟨k, x, F, rfl, rfl, hk, hx, hF, hown, hbl, hv⟩ := hrel
    have hsz := hbl.size
    have st := Big.sum_step (x := cut f n k) (y := cut g m k) hv
    have HV : Hid (Big.V F k + x * Big.B ^ k = Big.V (cut f n) k + Big.V (cut g m) k) := hv
    have bf := HS.out.ws k
    have bg := HS'.out.ws k
    unfold Big.B at bf bg
    clear hv
    by_cases c1 : k < n <;> by_cases c2 : k < m
    · skip
      rw [cut_in c1, cut_in c2] at st
      obtain rfl := HS.out.addr (by omega)
      have hc := (HS.out.below hbl).cell k c1
      obtain rfl := HS'.out.addr (by omega)
      have hc' := (HS'.out.below hbl).cell k c2
      have e1 : IntKind.u32.wrap ((x : Int) + (f k : Int) + (g k : Int)) = (((f k + g k + x) % Big.B : Nat) : Int) := by rw [IntKind.wrap_u32]; unfold Big.B; omega
      have e2 : ((x : Int) + (f k : Int) + (g k : Int)) / 4294967296 = (((f k + g k + x) / Big.B : Nat) : Int) := by unfold Big.B; omega
      have hr : (f k + g k + x) % Big.B < Big.B := Nat.mod_lt _ Big.B_pos
      have hq : (f k + g k + x) / Big.B ≤ 1 := by unfold Big.B; omega
      have HST := (show Hid _ from st)
      clear st
      generalize (f k + g k + x) % Big.B = r at *
      generalize (f k + g k + x) / Big.B = q at *
      go_wp2_with (first
        | (at_builtin; refine wpList_append_own _ rfl _ _ 74 rfl w.heap.size 114 i0 (.int .u32 0) 1 4 Big.und_big hi hz0 hz1 hz2 rfl (by decide) _ _ _ rfl (hown.alloc _) ⟨wr.heap.size, 0, none⟩ 1 1 [.int .u32 (r : Int)] rfl rfl (World.news_of_block (cs := #[.int .u32 (r : Int)]) (t := 114) (fr := (0, 0)) (heap_alloc_new wr _)) (by simp [Value.oneCell']) (by unfold maxLen; omega) (by omega) (by rw [World.size_alloc]; omega) ?_)
        | go_in)
      intro v' w3 hown' hgrow hnil
      have hb3 : Below w.heap.size w w3 := (hbl.alloc (by omega) _).grown hgrow (by rw [World.size_alloc]; omega) (fun q hq => (hown.lt q hq).1)
      have HO3 : Hid (w3.ownsRow w.heap.size 114 1 v' (k + 1) (dV .u32 (Big.put F k r) (k + 1)) ∧ Below w.heap.size w w3) := ⟨by rw [dV_put]; exact hown', hb3⟩
      clear hown' hb3 hgrow hnil hown hbl
      go_wp2
      go_roundw
      case rel =>
        refine ⟨k + 1, q, Big.put F k r, rfl, by go_num, by omega, hq, Big.put_Ws hF hr, HO3.out.1, HO3.out.2, ?_⟩
        rw [V_putB, Big.V_succ, Big.V_succ, Nat.pow_succ, cut_in c1, cut_in c2]
        exact HST.out
      case measure => simp [intOf]; omega
    · skip
      rw [cut_in c1, cut_out c2] at st
      obtain rfl := HS.out.addr (by omega)
      have hc := (HS.out.below hbl).cell k c1
      have e1 : IntKind.u32.wrap ((x : Int) + (f k : Int)) = (((f k + 0 + x) % Big.B : Nat) : Int) := by rw [IntKind.wrap_u32]; unfold Big.B; omega
      have e2 : ((x : Int) + (f k : Int)) / 4294967296 = (((f k + 0 + x) / Big.B : Nat) : Int) := by unfold Big.B; omega
      have hr : (f k + 0 + x) % Big.B < Big.B := Nat.mod_lt _ Big.B_pos
      have hq : (f k + 0 + x) / Big.B ≤ 1 := by unfold Big.B; omega
      have HST := (show Hid _ from st)
      clear st
      generalize (f k + 0 + x) % Big.B = r at *
      generalize (f k + 0 + x) / Big.B = q at *
      go_wp2_with (first
        | (at_builtin; refine wpList_append_own _ rfl _ _ 74 rfl w.heap.size 114 i0 (.int .u32 0) 1 4 Big.und_big hi hz0 hz1 hz2 rfl (by decide) _ _ _ rfl (hown.alloc _) ⟨wr.heap.size, 0, none⟩ 1 1 [.int .u32 (r : Int)] rfl rfl (World.news_of_block (cs := #[.int .u32 (r : Int)]) (t := 114) (fr := (0, 0)) (heap_alloc_new wr _)) (by simp [Value.oneCell']) (by unfold maxLen; omega) (by omega) (by rw [World.size_alloc]; omega) ?_)
        | go_in)
      intro v' w3 hown' hgrow hnil
      have hb3 : Below w.heap.size w w3 := (hbl.alloc (by omega) _).grown hgrow (by rw [World.size_alloc]; omega) (fun q hq => (hown.lt q hq).1)
      have HO3 : Hid (w3.ownsRow w.heap.size 114 1 v' (k + 1) (dV .u32 (Big.put F k r) (k + 1)) ∧ Below w.heap.size w w3) := ⟨by rw [dV_put]; exact hown', hb3⟩
      clear hown' hb3 hgrow hnil hown hbl
      go_wp2
      go_roundw
      case rel =>
        refine ⟨k + 1, q, Big.put F k r, rfl, by go_num, by omega, hq, Big.put_Ws hF hr, HO3.out.1, HO3.out.2, ?_⟩
        rw [V_putB, Big.V_succ, Big.V_succ, Nat.pow_succ, cut_in c1, cut_out c2]
        exact HST.out
      case measure => simp [intOf]; omega
    · skip
      rw [cut_out c1, cut_in c2] at st
      obtain rfl := HS'.out.addr (by omega)
      have hc' := (HS'.out.below hbl).cell k c2
      have e1 : IntKind.u32.wrap ((x : Int) + (g k : Int)) = (((0 + g k + x) % Big.B : Nat) : Int) := by rw [IntKind.wrap_u32]; unfold Big.B; omega
      have e2 : ((x : Int) + (g k : Int)) / 4294967296 = (((0 + g k + x) / Big.B : Nat) : Int) := by unfold Big.B; omega
      have hr : (0 + g k + x) % Big.B < Big.B := Nat.mod_lt _ Big.B_pos
      have hq : (0 + g k + x) / Big.B ≤ 1 := by unfold Big.B; omega
      have HST := (show Hid _ from st)
      clear st
      generalize (0 + g k + x) % Big.B = r at *
      generalize (0 + g k + x) / Big.B = q at *
      go_wp2_with (first
        | (at_builtin; refine wpList_append_own _ rfl _ _ 74 rfl w.heap.size 114 i0 (.int .u32 0) 1 4 Big.und_big hi hz0 hz1 hz2 rfl (by decide) _ _ _ rfl (hown.alloc _) ⟨wr.heap.size, 0, none⟩ 1 1 [.int .u32 (r : Int)] rfl rfl (World.news_of_block (cs := #[.int .u32 (r : Int)]) (t := 114) (fr := (0, 0)) (heap_alloc_new wr _)) (by simp [Value.oneCell']) (by unfold maxLen; omega) (by omega) (by rw [World.size_alloc]; omega) ?_)
        | go_in)
      intro v' w3 hown' hgrow hnil
      have hb3 : Below w.heap.size w w3 := (hbl.alloc (by omega) _).grown hgrow (by rw [World.size_alloc]; omega) (fun q hq => (hown.lt q hq).1)
      have HO3 : Hid (w3.ownsRow w.heap.size 114 1 v' (k + 1) (dV .u32 (Big.put F k r) (k + 1)) ∧ Below w.heap.size w w3) := ⟨by rw [dV_put]; exact hown', hb3⟩
      clear hown' hb3 hgrow hnil hown hbl
      go_wp2
      go_roundw
      case rel =>
        refine ⟨k + 1, q, Big.put F k r, rfl, by go_num, by omega, hq, Big.put_Ws hF hr, HO3.out.1, HO3.out.2, ?_⟩
        rw [V_putB, Big.V_succ, Big.V_succ, Nat.pow_succ, cut_out c1, cut_in c2]
        exact HST.out
      case measure => simp [intOf]; omega
    · skip
      have e1 : IntKind.u32.wrap (x : Int) = (x : Int) := by rw [IntKind.wrap_u32]; omega
      have HE : Hid (Big.V (Big.put F k x) (k + 1) = Big.V f n + Big.V g m) := by
        show _ = _
        rw [V_putB, HV.out, cut_V (by omega), cut_V (by omega)]
      have hw : Big.Ws (Big.put F k x) := Big.put_Ws hF (by unfold Big.B; omega)
      clear st
      go_wp2_with (first
        | (at_builtin; refine wpList_append_own _ rfl _ _ 74 rfl w.heap.size 114 i0 (.int .u32 0) 1 4 Big.und_big hi hz0 hz1 hz2 rfl (by decide) _ _ _ rfl (hown.alloc _) ⟨wr.heap.size, 0, none⟩ 1 1 [.int .u32 (x : Int)] rfl rfl (World.news_of_block (cs := #[.int .u32 (x : Int)]) (t := 114) (fr := (0, 0)) (heap_alloc_new wr _)) (by simp [Value.oneCell']) (by unfold maxLen; omega) (by omega) (by rw [World.size_alloc]; omega) ?_)
        | go_in)
      intro v' w3 hown' hgrow hnil
      have hb3 : Below w.heap.size w w3 := (hbl.alloc (by omega) _).grown hgrow (by rw [World.size_alloc]; omega) (fun q hq => (hown.lt q hq).1)
      rw [← dV_put] at hown'
      obtain ⟨ao', c', b', rfl, S3, _⟩ := Big.own_sl hown' hw
      have T := Big.trim_any S3
      have NV := S3.trimmed
      rw [HE.out] at NV
      clear hown' hgrow hnil hown hbl
      go_wp2_with fail
      refine T.mono ?_
      rintro e wa ⟨rfl, rfl⟩
      go_wp2
      go_ret
      exact ⟨_, rfl, NV, hb3⟩
/-- A number of at most L digits. -/
def Fits (L X : Nat) : Prop := ∃ k, k ≤ L ∧ X < Big.B ^ k
theorem Fits.up {L M X : Nat} (h : Fits L X) (hl : L ≤ M) : Fits M X := by
  obtain ⟨k, a, b⟩ := h
  exact ⟨k, Nat.le_trans a hl, b⟩
theorem Fits.le {L X Y : Nat} (h : Fits L X) (hl : Y ≤ X) : Fits L Y := by
  obtain ⟨k, a, b⟩ := h
  exact ⟨k, a, Nat.lt_of_le_of_lt hl b⟩
theorem Fits.lt {L X : Nat} (h : Fits L X) : X < Big.B ^ L := by
  obtain ⟨k, a, b⟩ := h
  exact Nat.lt_of_lt_of_le b (Nat.pow_le_pow_right Big.B_pos a)
theorem Fits.sum {L X Y : Nat} (h : Fits L X) (k : Fits L Y) : Fits (L + 1) (X + Y) := by
  refine ⟨L + 1, Nat.le_refl _, ?_⟩
  have a := h.lt
  have b := k.lt
  have c : 2 * Big.B ^ L ≤ Big.B ^ (L + 1) := by
    rw [Nat.pow_succ, Nat.mul_comm]; exact Nat.mul_le_mul_left _ (by decide)
  omega
theorem Fits.mul {L M X Y : Nat} (h : Fits L X) (k : Fits M Y) : Fits (L + M) (X * Y) := by
  refine ⟨L + M, Nat.le_refl _, ?_⟩
  rw [Nat.pow_add]
  exact Nat.mul_lt_mul'' h.lt k.lt
theorem Fits.word {n X : Nat} (h : X < B ^ n) : Fits (2 * n) X := ⟨2 * n, Nat.le_refl _, by rw [← BB_pow]; exact h⟩
/-- The length of a number below a power. -/
theorem big_len {f : Nat → Nat} {n L : Nat} (t : Big.Top f n) (h : Fits L (Big.V f n)) : n ≤ L := Big.len_le t h.lt
theorem plus_any {w : World} {va vb : Value} {X Y : Nat} (ha : Big.NatV w va X) (hb : Big.NatV w vb Y) (hX : Fits 1000 X) (hY : Fits 1000 Y) :
    Calls Tryd.prog 90 #[va, vb] w fun e w' => ∃ v, e = .returned v ∧ Big.NatV w' v (X + Y) ∧ Below w.heap.size w w' := by
  obtain ⟨ao, n, c, b, o, f, rfl, S, t, rfl⟩ := ha
  obtain ⟨bo, m, cb, bb, ob, g, rfl, S', t', rfl⟩ := hb
  have := big_len t hX
  have := big_len t' hY
  exact plus_big S S' (by omega) (by omega)
set_option maxRecDepth 100000 in
set_option maxHeartbeats 2000000 in
theorem minus_big {w : World} {ao : Option Addr} {n c b o : Nat} {f : Nat → Nat} (S : Big.Sl w ao n c b o f) {bo : Option Addr} {m cb bb ob : Nat} {g : Nat → Nat} (S' : Big.Sl w bo m cb bb ob g) (hn : n ≤ 10000) (hmn : m ≤ n) (hle : Big.V g m ≤ Big.V f n) :
    Calls Tryd.prog 108 #[.slice ao n c, .slice bo m cb] w fun e w' => ∃ v, e = .returned v ∧ Big.NewV w' w.heap.size v (Big.V f n - Big.V g m) ∧ Below w.heap.size w w' := by
  obtain ⟨i0, hi, hz0, hz1, hz2⟩ := info_parts Big.info_u32
  have HS : Hid (Big.Sl w ao n c b o f) := S
  have HS' : Hid (Big.Sl w bo m cb bb ob g) := S'
  have HLE : Hid (Big.V g m ≤ Big.V f n) := hle
  clear S S' hle
  go_enter Tryd.func108, Tryd.ntmps108
  go_wp2
  go_loopw [5, 6, 7] (fun v cy i wr => ∃ (k x : Nat) (F : Nat → Nat), cy = .int .i64 (x : Int) ∧ i = .int .i64 (k : Int) ∧ k ≤ n ∧ x ≤ 1 ∧ Big.Ws F ∧ wr.ownsRow w.heap.size 114 1 v k (dV .u32 F k) ∧ Below w.heap.size w wr ∧ Big.V F k + Big.V (cut g m) k = Big.V f k + x * Big.B ^ k) (fun _ _ i _ => n - (intOf i).toNat)
  case atStart => exact ⟨0, 0, fun _ => 0, rfl, rfl, Nat.zero_le _, by omega, fun _ => Big.B_pos, World.ownsRow_nil _ _ _ _, Below.refl _ _, rfl⟩
  case round =>
    obtain ⟨k, x, F, rfl, rfl, hk, hx, hF, hown, hbl, hv⟩ := hrel
    have hsz := hbl.size
    have HV : Hid (Big.V F k + Big.V (cut g m) k = Big.V f k + x * Big.B ^ k) := hv
    have bf := HS.out.ws k
    have bg := HS'.out.ws k
    unfold Big.B at bf bg
    clear hv
    by_cases c1 : k < n
    · obtain rfl := HS.out.addr (by omega)
      have hc := (HS.out.below hbl).cell k c1
      by_cases c2 : k < m
      · by_cases c3 : f k < g k + x
        · skip
          obtain rfl := HS'.out.addr (by omega)
          have hc' := (HS'.out.below hbl).cell k c2
          obtain ⟨r, hr⟩ : ∃ r : Nat, r = f k + 4294967296 - g k - x := ⟨_, rfl⟩
          have st := Big.sub_step (y := g k) (x := f k) (l := r) (d := 1) (β := Big.B) HV.out (by unfold Big.B; omega)
          have hrB : r < Big.B := by unfold Big.B; omega
          have e1 : IntKind.u32.wrap ((f k : Int) - (x : Int) - (g k : Int) + 4294967296) = (r : Int) := by rw [IntKind.wrap_u32]; omega
          have hlt : (f k : Int) - (x : Int) - (g k : Int) < 0 := by omega
          have HST := (show Hid _ from st)
          clear st hr
          go_wp2_with (first
            | (at_builtin; refine wpList_append_own _ rfl _ _ 74 rfl w.heap.size 114 i0 (.int .u32 0) 1 4 Big.und_big hi hz0 hz1 hz2 rfl (by decide) _ _ _ rfl (hown.alloc _) ⟨wr.heap.size, 0, none⟩ 1 1 [.int .u32 (r : Int)] rfl rfl (World.news_of_block (cs := #[.int .u32 (r : Int)]) (t := 114) (fr := (0, 0)) (heap_alloc_new wr _)) (by simp [Value.oneCell']) (by unfold maxLen; omega) (by omega) (by rw [World.size_alloc]; omega) ?_)
            | go_in)
          intro v' w3 hown' hgrow hnil
          have hb3 : Below w.heap.size w w3 := (hbl.alloc (by omega) _).grown hgrow (by rw [World.size_alloc]; omega) (fun q hq => (hown.lt q hq).1)
          have HO3 : Hid (w3.ownsRow w.heap.size 114 1 v' (k + 1) (dV .u32 (Big.put F k r) (k + 1)) ∧ Below w.heap.size w w3) := ⟨by rw [dV_put]; exact hown', hb3⟩
          clear hown' hb3 hgrow hnil hown hbl
          go_wp2
          go_roundw
          case rel =>
            refine ⟨k + 1, 1, Big.put F k r, rfl, by go_num, by omega, by omega, Big.put_Ws hF hrB, HO3.out.1, HO3.out.2, ?_⟩
            rw [V_putB, Big.V_succ, Big.V_succ, Nat.pow_succ, cut_in c2]
            exact HST.out
          case measure => simp [intOf]; omega
        · skip
          obtain rfl := HS'.out.addr (by omega)
          have hc' := (HS'.out.below hbl).cell k c2
          obtain ⟨r, hr⟩ : ∃ r : Nat, r = f k - g k - x := ⟨_, rfl⟩
          have st := Big.sub_step (y := g k) (x := f k) (l := r) (d := 0) (β := Big.B) HV.out (by unfold Big.B; omega)
          have hrB : r < Big.B := by unfold Big.B; omega
          have e1 : IntKind.u32.wrap ((f k : Int) - (x : Int) - (g k : Int)) = (r : Int) := by rw [IntKind.wrap_u32]; omega
          have hlt : ¬ (f k : Int) - (x : Int) - (g k : Int) < 0 := by omega
          have HST := (show Hid _ from st)
          clear st hr
          go_wp2_with (first
            | (at_builtin; refine wpList_append_own _ rfl _ _ 74 rfl w.heap.size 114 i0 (.int .u32 0) 1 4 Big.und_big hi hz0 hz1 hz2 rfl (by decide) _ _ _ rfl (hown.alloc _) ⟨wr.heap.size, 0, none⟩ 1 1 [.int .u32 (r : Int)] rfl rfl (World.news_of_block (cs := #[.int .u32 (r : Int)]) (t := 114) (fr := (0, 0)) (heap_alloc_new wr _)) (by simp [Value.oneCell']) (by unfold maxLen; omega) (by omega) (by rw [World.size_alloc]; omega) ?_)
            | go_in)
          intro v' w3 hown' hgrow hnil
          have hb3 : Below w.heap.size w w3 := (hbl.alloc (by omega) _).grown hgrow (by rw [World.size_alloc]; omega) (fun q hq => (hown.lt q hq).1)
          have HO3 : Hid (w3.ownsRow w.heap.size 114 1 v' (k + 1) (dV .u32 (Big.put F k r) (k + 1)) ∧ Below w.heap.size w w3) := ⟨by rw [dV_put]; exact hown', hb3⟩
          clear hown' hb3 hgrow hnil hown hbl
          go_wp2
          go_roundw
          case rel =>
            refine ⟨k + 1, 0, Big.put F k r, rfl, by go_num, by omega, by omega, Big.put_Ws hF hrB, HO3.out.1, HO3.out.2, ?_⟩
            rw [V_putB, Big.V_succ, Big.V_succ, Nat.pow_succ, cut_in c2]
            exact HST.out
          case measure => simp [intOf]; omega
      · by_cases c3 : f k < x
        · skip
          obtain ⟨r, hr⟩ : ∃ r : Nat, r = f k + 4294967296 - 0 - x := ⟨_, rfl⟩
          have st := Big.sub_step (y := 0) (x := f k) (l := r) (d := 1) (β := Big.B) HV.out (by unfold Big.B; omega)
          have hrB : r < Big.B := by unfold Big.B; omega
          have e1 : IntKind.u32.wrap ((f k : Int) - (x : Int) + 4294967296) = (r : Int) := by rw [IntKind.wrap_u32]; omega
          have hlt : (f k : Int) - (x : Int) < 0 := by omega
          have HST := (show Hid _ from st)
          clear st hr
          go_wp2_with (first
            | (at_builtin; refine wpList_append_own _ rfl _ _ 74 rfl w.heap.size 114 i0 (.int .u32 0) 1 4 Big.und_big hi hz0 hz1 hz2 rfl (by decide) _ _ _ rfl (hown.alloc _) ⟨wr.heap.size, 0, none⟩ 1 1 [.int .u32 (r : Int)] rfl rfl (World.news_of_block (cs := #[.int .u32 (r : Int)]) (t := 114) (fr := (0, 0)) (heap_alloc_new wr _)) (by simp [Value.oneCell']) (by unfold maxLen; omega) (by omega) (by rw [World.size_alloc]; omega) ?_)
            | go_in)
          intro v' w3 hown' hgrow hnil
          have hb3 : Below w.heap.size w w3 := (hbl.alloc (by omega) _).grown hgrow (by rw [World.size_alloc]; omega) (fun q hq => (hown.lt q hq).1)
          have HO3 : Hid (w3.ownsRow w.heap.size 114 1 v' (k + 1) (dV .u32 (Big.put F k r) (k + 1)) ∧ Below w.heap.size w w3) := ⟨by rw [dV_put]; exact hown', hb3⟩
          clear hown' hb3 hgrow hnil hown hbl
          go_wp2
          go_roundw
          case rel =>
            refine ⟨k + 1, 1, Big.put F k r, rfl, by go_num, by omega, by omega, Big.put_Ws hF hrB, HO3.out.1, HO3.out.2, ?_⟩
            rw [V_putB, Big.V_succ, Big.V_succ, Nat.pow_succ, cut_out c2]
            exact HST.out
          case measure => simp [intOf]; omega
        · skip
          obtain ⟨r, hr⟩ : ∃ r : Nat, r = f k - 0 - x := ⟨_, rfl⟩
          have st := Big.sub_step (y := 0) (x := f k) (l := r) (d := 0) (β := Big.B) HV.out (by unfold Big.B; omega)
          have hrB : r < Big.B := by unfold Big.B; omega
          have e1 : IntKind.u32.wrap ((f k : Int) - (x : Int)) = (r : Int) := by rw [IntKind.wrap_u32]; omega
          have hlt : ¬ (f k : Int) - (x : Int) < 0 := by omega
          have HST := (show Hid _ from st)
          clear st hr
          go_wp2_with (first
            | (at_builtin; refine wpList_append_own _ rfl _ _ 74 rfl w.heap.size 114 i0 (.int .u32 0) 1 4 Big.und_big hi hz0 hz1 hz2 rfl (by decide) _ _ _ rfl (hown.alloc _) ⟨wr.heap.size, 0, none⟩ 1 1 [.int .u32 (r : Int)] rfl rfl (World.news_of_block (cs := #[.int .u32 (r : Int)]) (t := 114) (fr := (0, 0)) (heap_alloc_new wr _)) (by simp [Value.oneCell']) (by unfold maxLen; omega) (by omega) (by rw [World.size_alloc]; omega) ?_)
            | go_in)
          intro v' w3 hown' hgrow hnil
          have hb3 : Below w.heap.size w w3 := (hbl.alloc (by omega) _).grown hgrow (by rw [World.size_alloc]; omega) (fun q hq => (hown.lt q hq).1)
          have HO3 : Hid (w3.ownsRow w.heap.size 114 1 v' (k + 1) (dV .u32 (Big.put F k r) (k + 1)) ∧ Below w.heap.size w w3) := ⟨by rw [dV_put]; exact hown', hb3⟩
          clear hown' hb3 hgrow hnil hown hbl
          go_wp2
          go_roundw
          case rel =>
            refine ⟨k + 1, 0, Big.put F k r, rfl, by go_num, by omega, by omega, Big.put_Ws hF hrB, HO3.out.1, HO3.out.2, ?_⟩
            rw [V_putB, Big.V_succ, Big.V_succ, Nat.pow_succ, cut_out c2]
            exact HST.out
          case measure => simp [intOf]; omega
    · obtain rfl : k = n := by omega
      have HE : Hid (Big.V F k = Big.V f k - Big.V g m) := by
        show _ = _
        have a := HV.out
        have b := HLE.out
        have l1 := Big.V_lt hF k
        rw [cut_V (by omega)] at a
        rcases (by omega : x = 0 ∨ x = 1) with rfl | rfl
        · omega
        · omega
      obtain ⟨ao', c', b', rfl, S3, hnw⟩ := Big.own_sl hown hF
      have T := Big.trim_any S3
      have NV := S3.trimmedN hnw
      rw [HE.out] at NV
      clear hown hnw
      go_wp2_with fail
      refine T.mono ?_
      rintro e wa ⟨rfl, rfl⟩
      go_wp2
      go_ret
      exact ⟨_, rfl, NV, hbl⟩
theorem big_le_len {f g : Nat → Nat} {m n : Nat} (hf : Big.Ws f) (tg : Big.Top g m) (h : Big.V g m ≤ Big.V f n) : m ≤ n := by
  rcases Nat.lt_or_ge n m with z | z
  · have := Big.len_lt hf tg z; omega
  · exact z
theorem minus_new {w : World} {va vb : Value} {X Y : Nat} (ha : Big.NatV w va X) (hb : Big.NatV w vb Y) (hX : Fits 1000 X) (hle : Y ≤ X) :
    Calls Tryd.prog 108 #[va, vb] w fun e w' => ∃ v, e = .returned v ∧ Big.NewV w' w.heap.size v (X - Y) ∧ Below w.heap.size w w' := by
  obtain ⟨ao, n, c, b, o, f, rfl, S, t, rfl⟩ := ha
  obtain ⟨bo, m, cb, bb, ob, g, rfl, S', t', rfl⟩ := hb
  have := big_len t hX
  exact minus_big S S' (by omega) (big_le_len S.ws t' hle) hle
set_option maxRecDepth 100000 in
set_option maxHeartbeats 1000000 in
theorem bcmp_any {w : World} {ao : Option Addr} {n c b o : Nat} {f : Nat → Nat} (S : Big.Sl w ao n c b o f) {ao' : Option Addr} {n' c' b' o' : Nat} {f' : Nat → Nat} (S' : Big.Sl w ao' n' c' b' o' f') (t : Big.Top f n) (t' : Big.Top f' n') :
    Calls Tryd.prog 88 #[.slice ao n c, .slice ao' n' c'] w fun e w' => e = .returned (.int .i64 (ord (Big.V f n) (Big.V f' n'))) ∧ Below w.heap.size w w' := by
  have hn : n ≤ maxLen := Nat.le_trans S.le S.cap
  have hn' : n' ≤ maxLen := Nat.le_trans S'.le S'.cap
  unfold maxLen at hn hn'
  rcases Nat.lt_trichotomy n n' with d | d | d
  · have e := ord_lt (Big.len_lt S.ws t' d)
    rw [e]
    have d1 : ((n : Int) == (n' : Int)) = false := beq_eq_false_iff_ne.mpr (by omega)
    clear e
    go_enter Tryd.func88, Tryd.ntmps88
    go_wp2
    go_ret
    exact ⟨rfl, Below.refl _ _⟩
  · subst d
    have HS : Hid (Big.Sl w ao n c b o f) := S
    have HS' : Hid (Big.Sl w ao' n c' b' o' f') := S'
    clear S S' t t'
    go_enter Tryd.func88, Tryd.ntmps88
    go_wp2
    go_loopw [5] (fun i wr => ∃ k : Nat, i = .int .i64 ((k : Int) - 1) ∧ k ≤ n ∧ Below w.heap.size w wr ∧ ∀ j, k ≤ j → j < n → f j = f' j) (fun i _ => (intOf i + 1).toNat)
    case atStart => exact ⟨n, rfl, Nat.le_refl _, Below.refl _ _, fun j a b => absurd a (by omega)⟩
    case round =>
      obtain ⟨k, rfl, hk, al, heq⟩ := hrel
      have HA : Hid (Below w.heap.size w wr) := al
      have HE : Hid (∀ j, k ≤ j → j < n → f j = f' j) := heq
      clear heq
      by_cases c1 : 0 < k
      · obtain rfl := HS.out.addr (by omega)
        obtain rfl := HS'.out.addr (by omega)
        have hc := (HS.out.below al).cell (k - 1) (by omega)
        have hc' := (HS'.out.below al).cell (k - 1) (by omega)
        clear al
        have ix : ((k : Int) - 1).toNat = k - 1 := by omega
        rcases Nat.lt_trichotomy (f (k - 1)) (f' (k - 1)) with q | q | q
        · have r := ord_lt (Big.V_lt_at HS.out.ws q (n := n) (by omega) (fun j a b => HE.out j (by omega) b))
          have HR : Hid (ord (Big.V f n) (Big.V f' n) = -1) := r
          have q2 : ((f (k - 1) : Nat) : Int) < ((f' (k - 1) : Nat) : Int) := by omega
          clear r q
          go_wp2
          go_region
          all_goals
            go_wp2
            go_ret
            exact ⟨by rw [HR.out]; rfl, HA.out.drew⟩
        · have q1 : ¬ ((f (k - 1) : Nat) : Int) < ((f' (k - 1) : Nat) : Int) := by omega
          have q2 : ¬ ((f' (k - 1) : Nat) : Int) < ((f (k - 1) : Nat) : Int) := by omega
          have HQ : Hid (f (k - 1) = f' (k - 1)) := q
          clear q
          go_wp2
          go_region
          all_goals
            go_wp2
            go_region
            all_goals
              go_wp2
              go_roundw
              case rel =>
                refine ⟨k - 1, by go_num, by omega, HA.out.drew.drew, fun j a b => ?_⟩
                by_cases z : j = k - 1
                · rw [z]; exact HQ.out
                · exact HE.out j (by omega) b
              case measure => simp [intOf]; omega
        · have r := ord_gt (Big.V_lt_at HS'.out.ws q (n := n) (by omega) (fun j a b => (HE.out j (by omega) b).symm))
          have HR : Hid (ord (Big.V f n) (Big.V f' n) = 1) := r
          have q1 : ¬ ((f (k - 1) : Nat) : Int) < ((f' (k - 1) : Nat) : Int) := by omega
          have q2 : ((f' (k - 1) : Nat) : Int) < ((f (k - 1) : Nat) : Int) := by omega
          clear r q
          go_wp2
          go_region
          all_goals
            go_wp2
            go_region
            all_goals
              go_wp2
              go_ret
              exact ⟨by rw [HR.out]; rfl, HA.out.drew.drew⟩
      · obtain rfl : k = 0 := by omega
        have HR : Hid (ord (Big.V f n) (Big.V f' n) = 0) := ord_eq (Big.V_congr fun i hi => HE.out i (Nat.zero_le _) hi)
        clear HE c1
        go_wp2
        go_ret
        exact ⟨by rw [HR.out]; rfl, HA.out⟩
  · have e := ord_gt (Big.len_lt S'.ws t d)
    rw [e]
    have d1 : ((n : Int) == (n' : Int)) = false := beq_eq_false_iff_ne.mpr (by omega)
    clear e
    go_enter Tryd.func88, Tryd.ntmps88
    go_wp2
    go_ret
    exact ⟨rfl, Below.refl _ _⟩
theorem bcmp_nat {w : World} {va vb : Value} {X Y : Nat} (ha : Big.NatV w va X) (hb : Big.NatV w vb Y) :
    Calls Tryd.prog 88 #[va, vb] w fun e w' => e = .returned (.int .i64 (ord X Y)) ∧ Below w.heap.size w w' := by
  obtain ⟨ao, n, c, b, o, f, rfl, S, t, rfl⟩ := ha
  obtain ⟨bo, m, cb, bb, ob, g, rfl, S', t', rfl⟩ := hb
  exact bcmp_any S S' t t'
theorem und_wordsB : Tryd.prog.underlying 22 = some (.slice 27) := by kernel_rfl
theorem pair_or {x y : Nat} (hx : x < Big.B) (hy : y < Big.B) : bits .or .u64 (x : Int) ((y : Int) * 4294967296) = ((x + y * Big.B : Nat) : Int) := by
  have e := up_lo (x := y) (z := x) (p := 32) (by omega) hx
  have w : IntKind.u64.wrap ((y : Int) * 2 ^ 32) = (y : Int) * 4294967296 := by
    rw [IntKind.wrap_u64]; unfold Big.B at hy; omega
  rw [w] at e
  rw [e]
  unfold Big.B B at *
  omega
/-- What is answered of a number as words. -/
def wR (X : Nat) : Nat := if X < B ^ 128 then X else 0
def wE (X : Nat) : Nat := if X < B ^ 128 then 0 else 20
set_option maxRecDepth 100000 in
set_option maxHeartbeats 2000000 in
theorem words_big {w : World} {ao : Option Addr} {n c b o : Nat} {g : Nat → Nat} (S : Big.Sl w ao n c b o g) (t : Big.Top g n) (hn : n ≤ 10000) :
    Calls Tryd.prog 43 #[.slice ao n c] w fun e w' => ∃ v, e = .returned (.tuple #[v, .int .i64 (wE (Big.V g n) : Int)]) ∧ NatV w' v (wR (Big.V g n)) ∧ Below w.heap.size w w' := by
  obtain ⟨i0, hi, hz0, hz1, hz2⟩ := info_parts info_u64
  have HS : Hid (Big.Sl w ao n c b o g) := S
  have HP : Hid (Ws (pairs g n) ∧ Top (pairs g n) ((n + 1) / 2) ∧ V (pairs g n) ((n + 1) / 2) = Big.V g n) := ⟨pairs_Ws S.ws, pairs_Top t, pairs_V g n⟩
  clear S t
  go_enter Tryd.func43, Tryd.ntmps43
  go_wp2
  go_loopw [4, 5] (fun v i wr => ∃ k : Nat, i = .int .i64 (((2 * k : Nat) : Nat) : Int) ∧ 2 * k ≤ n + 1 ∧ wr.ownsRow w.heap.size 27 1 v k (dV .u64 (pairs g n) k) ∧ Below w.heap.size w wr) (fun _ i _ => n + 2 - (intOf i).toNat)
  case atStart => exact ⟨0, rfl, by omega, World.ownsRow_nil _ _ _ _, Below.refl _ _⟩
  case round =>
    obtain ⟨k, rfl, hk, hown, hbl⟩ := hrel
    have hsz := hbl.size
    by_cases c1 : 2 * k < n
    · obtain rfl := HS.out.addr (by omega)
      have hc := (HS.out.below hbl).cell (2 * k) c1
      have bf := HS.out.ws (2 * k)
      have bg := HS.out.ws (2 * k + 1)
      by_cases c2 : 2 * k + 1 < n
      · have hc' := (HS.out.below hbl).cell (2 * k + 1) c2
        have hor := pair_or bf bg
        have HW : Hid (g (2 * k) + g (2 * k + 1) * Big.B = pairs g n k) := by
          show _ = _
          unfold pairs; rw [cut_in c1, cut_in c2]
        generalize g (2 * k) + g (2 * k + 1) * Big.B = r at *
        unfold Big.B at bf bg
        generalize hj : 2 * k = j at *
        go_wp2_with (first
          | (at_builtin; refine wpList_append_own _ rfl _ _ 22 rfl w.heap.size 27 i0 (.int .u64 0) 1 8 und_wordsB hi hz0 hz1 hz2 rfl (by decide) _ _ _ rfl (hown.alloc _) ⟨wr.heap.size, 0, none⟩ 1 1 [.int .u64 (r : Int)] rfl rfl (World.news_of_block (cs := #[.int .u64 (r : Int)]) (t := 27) (fr := (0, 0)) (heap_alloc_new wr _)) (by simp [Value.oneCell']) (by unfold maxLen; omega) (by omega) (by rw [World.size_alloc]; omega) ?_)
          | go_in)
        intro v' w3 hown' hgrow hnil
        have hb3 : Below w.heap.size w w3 := (hbl.alloc (by omega) _).grown hgrow (by rw [World.size_alloc]; omega) (fun q hq => (hown.lt q hq).1)
        have HO3 : Hid (w3.ownsRow w.heap.size 27 1 v' (k + 1) (dV .u64 (pairs g n) (k + 1)) ∧ Below w.heap.size w w3) := ⟨by rw [dV_succ, ← HW.out]; exact hown', hb3⟩
        clear hown' hb3 hgrow hnil hown hbl
        go_wp2
        go_roundw
        case rel => exact ⟨k + 1, by go_num, by omega, HO3.out.1, HO3.out.2⟩
        case measure => simp [intOf]; omega
      · have HW : Hid (g (2 * k) = pairs g n k) := by
          show _ = _
          unfold pairs; rw [cut_in c1, cut_out c2, Nat.zero_mul, Nat.add_zero]
        unfold Big.B at bf bg
        generalize g (2 * k) = r at *
        generalize hj : 2 * k = j at *
        go_wp2_with (first
          | (at_builtin; refine wpList_append_own _ rfl _ _ 22 rfl w.heap.size 27 i0 (.int .u64 0) 1 8 und_wordsB hi hz0 hz1 hz2 rfl (by decide) _ _ _ rfl (hown.alloc _) ⟨wr.heap.size, 0, none⟩ 1 1 [.int .u64 (r : Int)] rfl rfl (World.news_of_block (cs := #[.int .u64 (r : Int)]) (t := 27) (fr := (0, 0)) (heap_alloc_new wr _)) (by simp [Value.oneCell']) (by unfold maxLen; omega) (by omega) (by rw [World.size_alloc]; omega) ?_)
          | go_in)
        intro v' w3 hown' hgrow hnil
        have hb3 : Below w.heap.size w w3 := (hbl.alloc (by omega) _).grown hgrow (by rw [World.size_alloc]; omega) (fun q hq => (hown.lt q hq).1)
        have HO3 : Hid (w3.ownsRow w.heap.size 27 1 v' (k + 1) (dV .u64 (pairs g n) (k + 1)) ∧ Below w.heap.size w w3) := ⟨by rw [dV_succ, ← HW.out]; exact hown', hb3⟩
        clear hown' hb3 hgrow hnil hown hbl
        go_wp2
        go_roundw
        case rel => exact ⟨k + 1, by go_num, by omega, HO3.out.1, HO3.out.2⟩
        case measure => simp [intOf]; omega
    · obtain rfl : k = (n + 1) / 2 := by omega
      obtain ⟨ao', c', b', rfl, S3, _⟩ := own_sl hown HP.out.1
      generalize hj : (n + 1) / 2 = j at *
      clear hown
      by_cases c3 : 128 < j
      · have HX : Hid (¬ Big.V g n < B ^ 128) := by
          show ¬ _
          intro q
          have := len_le HP.out.2.1 (by rw [HP.out.2.2]; exact q)
          omega
        have c3' : (128 : Int) < (j : Int) := by omega
        go_wp2
        refine bodyPost_ret (v := .tuple #[.slice none 0 0, .int .i64 20]) (by simp [results, Tryd.results43, go_sem]) rfl ⟨.slice none 0 0, ?_, ?_, hbl⟩
        · unfold wE; rw [if_neg HX.out]; rfl
        · unfold wR; rw [if_neg HX.out]; exact natv_nil _
      · have HX : Hid (Big.V g n < B ^ 128) := by
          show _ < _
          rw [← HP.out.2.2]
          exact Nat.lt_of_lt_of_le (V_lt HP.out.1 _) (Nat.pow_le_pow_right B_pos (by omega))
        have c3' : ¬ (128 : Int) < (j : Int) := by omega
        go_wp2
        refine bodyPost_ret (v := .tuple #[.slice ao' j c', .int .i64 0]) (by simp [results, Tryd.results43, go_sem]) rfl ⟨.slice ao' j c', ?_, ?_, hbl⟩
        · unfold wE; rw [if_pos HX.out]; rfl
        · unfold wR; rw [if_pos HX.out]; exact ⟨_, _, _, _, _, _, rfl, S3, HP.out.2.1, HP.out.2.2, by omega⟩
theorem words_any {w : World} {va : Value} {X : Nat} (ha : Big.NatV w va X) (hX : Fits 1000 X) :
    Calls Tryd.prog 43 #[va] w fun e w' => ∃ v, e = .returned (.tuple #[v, .int .i64 (wE X : Int)]) ∧ NatV w' v (wR X) ∧ Below w.heap.size w w' := by
  obtain ⟨ao, n, c, b, o, f, rfl, S, t, rfl⟩ := ha
  have := big_len t hX
  exact words_big S t (by omega)
/-- What a call of two numbers answers where neither is refused: the number R, or the error E. -/
def num2 (k r : Nat) : Nat := if k = 0 then r else 0
theorem num2_zero (r : Nat) : num2 0 r = r := rfl
theorem num2_bad {k : Nat} (h : k ≠ 0) (r : Nat) : num2 k r = 0 := by unfold num2; rw [if_neg h]
theorem verr_nat {f : Nat → Nat} {n : Nat} (h : verr f n = 0) : n ≤ 128 ∧ Top f n := by
  unfold verr at h
  by_cases q : 128 < n
  · rw [if_pos q] at h; omega
  · rw [if_neg q] at h
    refine ⟨by omega, ?_⟩
    by_cases z : n = 0
    · exact Or.inl z
    · right
      intro e
      rw [if_pos ⟨by omega, e⟩] at h
      omega
theorem natv_mk {w : World} {ao : Option Addr} {n c b o : Nat} {f : Nat → Nat} (S : Sl w ao n c b o f) (h : verr f n = 0) : NatV w (.slice ao n c) (V f n) := by
  obtain ⟨a, t⟩ := verr_nat h
  exact ⟨_, _, _, _, _, _, rfl, S, t, rfl, a⟩
theorem errV_succ {k : Nat} (h : k ≠ 0) : errV k = .iface 76 (.int .i64 (k : Int)) := by
  cases k with
  | zero => exact absurd rfl h
  | succ k => rfl
set_option maxRecDepth 100000 in
theorem num_any (k : Nat) (w : World) : Calls Tryd.prog 12 #[errV k] w fun e w' => e = .returned (.int .i64 (k : Int)) ∧ w' = w := by
  by_cases h : k = 0
  · subst h; exact num2_nil w
  · rw [errV_succ h]; exact num2_errno _ w
theorem word_none {w : World} {ao : Option Addr} {c b o : Nat} {f : Nat → Nat} (S : Sl w ao 0 c b o f) (h : verr f 0 = 0) :
    Calls Tryd.prog 63 #[.slice ao 0 c] w fun e w' => e = .returned (.tuple #[.int .u64 0, .bool true]) ∧ Below w.heap.size w w' := by
  have h1 := valid_any S
  rw [h] at h1
  unfold errV at h1
  go_enter Tryd.func63, Tryd.ntmps63
  go_wp2_with fail
  refine h1.mono ?_
  rintro e wa ⟨rfl, hba⟩
  go_wp2
  refine bodyPost_ret (v := .tuple #[.int .u64 0, .bool true]) (by simp [results, Tryd.results63, go_sem]) rfl ⟨rfl, hba⟩
theorem word_one {w : World} {ao : Option Addr} {c b o : Nat} {f : Nat → Nat} (S : Sl w ao 1 c b o f) (h : verr f 1 = 0) :
    Calls Tryd.prog 63 #[.slice ao 1 c] w fun e w' => e = .returned (.tuple #[.int .u64 (f 0 : Int), .bool true]) ∧ Below w.heap.size w w' := by
  have h1 := valid_any S
  rw [h] at h1
  unfold errV at h1
  obtain rfl := S.addr (by omega)
  have HS : Hid (Sl w (some ⟨b, o, none⟩) 1 c b o f) := S
  clear S
  go_enter Tryd.func63, Tryd.ntmps63
  go_wp2_with fail
  refine h1.mono ?_
  rintro e wa ⟨rfl, hba⟩
  have hc := (HS.out.below hba).cell 0 (by omega)
  rw [Nat.add_zero] at hc
  go_wp2
  refine bodyPost_ret (v := .tuple #[.int .u64 (f 0 : Int), .bool true]) (by simp [results, Tryd.results63, go_sem]) rfl ⟨rfl, hba⟩
theorem D_two : Big.B = 2 ^ 32 := by decide
theorem D_pow (k : Nat) : Big.B ^ k = 2 ^ (32 * k) := by rw [Nat.pow_mul, D_two]
/-- How many binary digits. -/
def bl (X : Nat) : Nat := if X = 0 then 0 else Nat.log2 X + 1
theorem bl_of {X L : Nat} (h1 : 2 ^ L ≤ X) (h2 : X < 2 ^ (L + 1)) : bl X = L + 1 := by
  have hp : 0 < 2 ^ L := Nat.pow_pos (by omega)
  have h0 : X ≠ 0 := by omega
  unfold bl
  rw [if_neg h0, (Nat.log2_eq_iff h0).2 ⟨h1, h2⟩]
theorem bl_lt (X : Nat) : X < 2 ^ bl X := by
  unfold bl
  split
  · rename_i h; rw [h]; decide
  · exact Nat.lt_log2_self
theorem bl_le {X : Nat} (h : X ≠ 0) : 2 ^ (bl X - 1) ≤ X := by
  unfold bl
  rw [if_neg h, Nat.add_sub_cancel]
  exact Nat.log2_self_le h
theorem bl_pos {X : Nat} (h : X ≠ 0) : 0 < bl X := by unfold bl; rw [if_neg h]; omega
theorem bl_zero : bl 0 = 0 := rfl
theorem bl_mono_le {X L : Nat} (h : X < 2 ^ L) : bl X ≤ L := by
  by_cases z : X = 0
  · subst z; rw [bl_zero]; omega
  · rcases Nat.lt_or_ge L (bl X) with q | q
    · have a := bl_le z
      have b : 2 ^ L ≤ 2 ^ (bl X - 1) := Nat.pow_le_pow_right (by omega) (by omega)
      omega
    · exact q
/-- The length out of the highest digit's. -/
theorem bl_top {f : Nat → Nat} (hf : Big.Ws f) {n j : Nat} (h1 : 2 ^ j ≤ f n) (h2 : f n < 2 ^ (j + 1)) : bl (Big.V f (n + 1)) = 32 * n + j + 1 := by
  have lo := Big.V_lt hf n
  rw [D_pow] at lo
  have e : Big.V f (n + 1) = Big.V f n + f n * 2 ^ (32 * n) := by rw [Big.V_succ, D_pow]
  rw [e]
  refine bl_of ?_ ?_
  · rw [Nat.pow_add, Nat.mul_comm (2 ^ (32 * n))]
    have := Nat.mul_le_mul_right (2 ^ (32 * n)) h1
    omega
  · rw [Nat.add_assoc, Nat.pow_add, Nat.mul_comm (2 ^ (32 * n))]
    have := Nat.mul_le_mul_right (2 ^ (32 * n)) (Nat.succ_le_of_lt h2)
    rw [Nat.succ_mul] at this
    omega
/-- One bit. -/
def tb (X i : Nat) : Bool := decide (X / 2 ^ i % 2 = 1)
theorem tb_one {X i : Nat} (h : X / 2 ^ i % 2 = 1) : tb X i = true := decide_eq_true h
theorem tb_none {X i : Nat} (h : X / 2 ^ i % 2 ≠ 1) : tb X i = false := decide_eq_false h
theorem tb_big {X i : Nat} (h : X < 2 ^ i) : tb X i = false := tb_none (by rw [Nat.div_eq_of_lt h]; decide)
/-- A number from its digit at the place q on. -/
theorem V_from {f : Nat → Nat} (hf : Big.Ws f) {n q : Nat} (hq : q < n) : ∃ H, Big.V f n / Big.B ^ q = f q + Big.B * H := by
  refine ⟨Big.V (fun i => f (q + 1 + i)) (n - (q + 1)), ?_⟩
  have s := Big.V_split f (q + 1) (n - (q + 1))
  rw [show q + 1 + (n - (q + 1)) = n by omega, Big.V_succ, Nat.pow_succ] at s
  have e : Big.V f n = Big.V f q + (f q + Big.B * Big.V (fun i => f (q + 1 + i)) (n - (q + 1))) * Big.B ^ q := by
    rw [s]
    generalize Big.V (fun i => f (q + 1 + i)) (n - (q + 1)) = h
    generalize Big.B ^ q = p
    generalize Big.B = d
    grind
  rw [e, Nat.add_mul_div_right _ _ (Big.Bp_pos q), Nat.div_eq_of_lt (Big.V_lt hf q), Nat.zero_add]
theorem part_gen {x d H p t : Nat} (hp : 0 < p) (e : d = 2 * t * p) : (x + d * H) / p % 2 = x / p % 2 := by
  rw [e, show 2 * t * p * H = p * (2 * (t * H)) by grind, Nat.add_mul_div_left _ _ hp]
  omega
theorem bit_at {f : Nat → Nat} (hf : Big.Ws f) {n q p : Nat} (hq : q < n) (hp : p < 32) : Big.V f n / 2 ^ (32 * q + p) % 2 = f q / 2 ^ p % 2 := by
  obtain ⟨H, h⟩ := V_from hf hq
  rw [Nat.pow_add, ← D_pow, ← Nat.div_div_eq_div_mul, h]
  refine part_gen (t := 2 ^ (31 - p)) (Nat.pow_pos (by omega)) ?_
  rw [D_two, Nat.mul_assoc, ← Nat.pow_add, show 31 - p + p = 31 by omega, ← Nat.pow_succ']
/-- Digits of a number by division. -/
def dg (Y k : Nat) : Nat := Y / Big.B ^ k % Big.B
theorem dg_Ws (Y : Nat) : Big.Ws (dg Y) := fun _ => Nat.mod_lt _ Big.B_pos
theorem dg_V (Y : Nat) : ∀ m, Big.V (dg Y) m = Y % Big.B ^ m
  | 0 => by rw [Nat.pow_zero, Nat.mod_one]; rfl
  | m + 1 => by rw [Big.V_succ, dg_V Y m, Nat.mod_pow_succ, Nat.mul_comm]; rfl
theorem downB_gen {x d H p t : Nat} (hp : 0 < p) (e : d = t * p) : (x + d * d * H) / p % d = x / p % d := by
  have e2 : d * d * H = p * (d * (t * H)) := by rw [show d * d = d * (t * p) by rw [← e]]; grind
  rw [e2, Nat.add_mul_div_left _ _ hp, Nat.add_mul_mod_self_left]
/-- A digit of what is shifted down: out of two digits. -/
theorem down_at {f : Nat → Nat} (hf : Big.Ws f) {n q p k : Nat} (hq : q + k < n) (hp : p < 32) :
    dg (Big.V f n / 2 ^ (32 * q + p)) k = (f (q + k) + cut f n (q + k + 1) * Big.B) / 2 ^ p % Big.B := by
  unfold dg
  have e1 : Big.V f n / 2 ^ (32 * q + p) / Big.B ^ k = Big.V f n / Big.B ^ (q + k) / 2 ^ p := by
    rw [Nat.div_div_eq_div_mul, Nat.div_div_eq_div_mul, Nat.pow_add, Nat.pow_add, ← D_pow]
    congr 1
    generalize Big.B ^ q = a
    generalize Big.B ^ k = b
    generalize 2 ^ p = c
    grind
  rw [e1]
  obtain ⟨H, h⟩ := V_from hf hq
  have hc : Big.V f n / Big.B ^ (q + k) = f (q + k) + cut f n (q + k + 1) * Big.B + Big.B * Big.B * (H / Big.B) := by
    by_cases c : q + k + 1 < n
    · obtain ⟨H2, h2⟩ := V_from hf c
      have hh : H = f (q + k + 1) + Big.B * H2 := by
        have a := congrArg (· / Big.B) h
        have b := Nat.add_mul_div_left (f (q + k)) H Big.B_pos
        rw [Nat.div_eq_of_lt (hf _), Nat.zero_add] at b
        simp only [b] at a
        rw [Nat.div_div_eq_div_mul, ← Nat.pow_succ, h2] at a
        exact a.symm
      have hd : H / Big.B = H2 := by rw [hh, Nat.add_mul_div_left _ _ Big.B_pos, Nat.div_eq_of_lt (hf _), Nat.zero_add]
      have cc : cut f n (q + k + 1) = f (q + k + 1) := by unfold cut; rw [if_pos c]
      rw [h, hd, cc, hh]
      generalize Big.B = d
      grind
    · have cc : cut f n (q + k + 1) = 0 := by unfold cut; rw [if_neg c]
      have hl : Big.V f n / Big.B ^ (q + k) < Big.B := by
        rw [Nat.div_lt_iff_lt_mul (Big.Bp_pos _), ← Nat.pow_succ', show (q + k).succ = n by omega]
        exact Big.V_lt hf n
      have h0 : H = 0 := by
        rcases Nat.eq_zero_or_pos H with z | z
        · exact z
        · have := Nat.mul_le_mul_left Big.B z
          rw [h] at hl
          omega
      rw [h, h0, cc, Nat.zero_div]
      omega
  rw [hc]
  refine downB_gen (t := 2 ^ (32 - p)) (Nat.pow_pos (by omega)) ?_
  rw [D_two, ← Nat.pow_add, show 32 - p + p = 32 by omega]
theorem down_fits {f : Nat → Nat} (hf : Big.Ws f) {n q p : Nat} (hq : q < n) : Big.V f n / 2 ^ (32 * q + p) < Big.B ^ (n - q) := by
  rw [Nat.pow_add, ← D_pow, ← Nat.div_div_eq_div_mul]
  refine Nat.lt_of_le_of_lt (Nat.div_le_self _ _) ?_
  rw [Nat.div_lt_iff_lt_mul (Big.Bp_pos _), ← Nat.pow_add, show n - q + q = n by omega]
  exact Big.V_lt hf n
/-- The lowest bits: one place more. -/
theorem low_step {X k : Nat} (h : X % 2 ^ k = 0) : X % 2 ^ (k + 1) = 2 ^ k * (X / 2 ^ k % 2) := by
  rw [Nat.mod_pow_succ, h, Nat.zero_add]
theorem low_mono {X a b : Nat} (h : X % 2 ^ b = 0) (hab : a ≤ b) : X % 2 ^ a = 0 :=
  Nat.mod_eq_zero_of_dvd (Nat.dvd_trans (Nat.pow_dvd_pow 2 hab) (Nat.dvd_of_mod_eq_zero h))
end Go.Proofs.YtealnajogkeckaaDoor
