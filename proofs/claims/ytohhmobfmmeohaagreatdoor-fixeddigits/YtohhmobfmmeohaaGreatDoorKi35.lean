/-
  Holds: VEx1 VEx2 VEx3c.
-/
import Derived.Laws.BitsAllLaws
import Derived.Test.YtohhmobfmmeohaaGreatDoorChecked
import Derived.Lib.ItoaNum
import Derived.Laws.Externs
import Derived.WalkKit
import Derived.WalkSpells
import Derived.WalkLawsBesides
import Derived.Lib.Mul64
import Derived.Lib.TrailingZeros
import Derived.Deep.OwnRows
import Derived.Laws.CopyOwn
import Derived.BigQuiet
import Derived.Deep.RegionHeld3
import Derived.Deep.LoopGhost
import Derived.Deep.AppendLies
import Derived.Deep.DeepCutAuto
import Derived.Stop.Asserts
import Derived.RowKitTokens
import Derived.Lib.Strings
import Derived.Lib.BufferWrite
import Derived.Lib.ConvBytes
import Derived.Test.YtohhmobfmmeohaaGreatDoorRows
import Derived.Test.YtohhmobfmmeohaaGreatDoorKi16
import Derived.Test.YtohhmobfmmeohaaGreatDoorKi19
import Derived.Test.YtohhmobfmmeohaaGreatDoorKi21
set_option maxRecDepth 100000
set_option maxHeartbeats 4000000
namespace Go.Proofs.YtohhmobfmmeohaaGreatDoor
open Go.RowKit
theorem lo32 (x : Nat) : IntKind.u32.wrap (x : Int) = ((x % Big.B : Nat) : Int) := by
 rw [IntKind.wrap_u32]; unfold Big.B; omega
theorem hi32 {x : Nat} (h : x < B) : IntKind.u32.wrap ((x : Int) / 4294967296) = ((x / Big.B : Nat) : Int) := by
 rw [IntKind.wrap_u32]; unfold Big.B; unfold B at h; omega
theorem rofA_any {w : World} {ao : Option Addr} {n c b o : Nat} {f : Nat → Nat} (S : Sl w ao n c b o f) (hn : n ≤ 1000) :
 Calls Tryz.prog 22 #[.slice ao n c] w fun e w' => ∃ v, e = .returned v ∧ Big.NatV w' v (V f n) ∧ Below w.heap.size w w' := by
 obtain ⟨i0, hi, hz0, hz1, hz2⟩ := info_parts Big.info_u32
 have HS : Hid (Sl w ao n c b o f) := S
 clear S
 go_enter Tryz.func22, Tryz.ntmps22
 go_wp2
 go_loopw [3, 4] (fun v i wr => ∃ k : Nat, i = .int .i64 (k : Int) ∧ k ≤ n ∧ wr.ownsRow w.heap.size 70 1 v (2 * k) (dV .u32 (halves f) (2 * k)) ∧ Below w.heap.size w wr) (fun _ i _ => n - (intOf i).toNat)
 case atStart => exact ⟨0, rfl, Nat.zero_le _, World.ownsRow_nil _ _ _ _, Below.refl _ _⟩
 case round =>
  obtain ⟨k, rfl, hk, hown, hbl⟩ := hrel
  have hsz := hbl.size
  by_cases c1 : k < n
  · obtain rfl := HS.out.addr (by omega)
    have hc := (HS.out.below hbl).cell k c1
    have hbk := HS.out.blk (by omega)
    have ne : ∀ q, u3.ownBlock = some q → b ≠ q := fun q hq => Nat.ne_of_lt (Nat.lt_of_lt_of_le hbk (hown.lt q hq).1)
    have e1 := lo32 (f k)
    have e2 := hi32 (HS.out.ws k)
    have ik0 : (0 : Int) ≤ (k : Int) := by omega
    have ik1 : (k : Int) < (n : Int) := by omega
    have HQ : Hid (f k % Big.B = halves f (2 * k) ∧ f k / Big.B = halves f (2 * k + 1)) := ⟨(halves_even f k).symm, (halves_odd f k).symm⟩
    generalize f k % Big.B = lo at *
    generalize f k / Big.B = hi' at *
    have HO : Hid (wr.ownsRow w.heap.size 70 1 u3 (2 * k) (dV .u32 (halves f) (2 * k)) ∧ Below w.heap.size w wr) := ⟨hown, hbl⟩
    clear hown hbl
    go_wp2
    go_region_held3 (fun w' => w'.cell? ⟨b, o + k, none⟩ = some (.int .u64 (f k : Int)))
     (first
      | go_keep
      | (rw [hgrow.cell_far _ (by simp; omega) (fun q => ne _ q.symm rfl)]; assumption))
     ((refine step_append_lies _ (by rfl) _ _ _ (by rfl) w.heap.size 70 i0 (.int .u32 0) 1 4 Big.und_big hi hz0 hz1 hz2 rfl (by omega) u3 (2 * k) (dV .u32 (halves f) (2 * k)) (by rfl) ((HO.out.1.alloc _).drew)
            ⟨wr.heap.size, 0, none⟩ 2 2 [.int .u32 (lo : Int), .int .u32 (hi' : Int)] (by rfl) (by rfl) (World.news_of_block (cs := #[.int .u32 (lo : Int), .int .u32 (hi' : Int)]) (t := 70) (fr := (0, 0)) (heap_alloc_new wr _)) (by simp [Value.oneCell'])
            (by omega) (by unfold maxLen; omega) (by omega) (by simp; omega) (wr.heap.size + 1) (by simp) ?_; intro gg cap w1 hown1 hgrow hat hlt))
    have hb3 : Below w.heap.size w w1 := ((HO.out.2.alloc hsz _).drew).grown hgrow (by simp; omega) (fun q hq => (HO.out.1.lt q hq).1)
    have HO3 : Hid (w1.ownsRow w.heap.size 70 1 (.slice (some ⟨gg, 0, none⟩) (2 * k + 2) cap) (2 * k + 2) (dV .u32 (halves f) (2 * (k + 1))) ∧ Below w.heap.size w w1) := by
     refine ⟨?_, hb3⟩
     have q := hown1
     rw [HQ.out.1, HQ.out.2] at q
     rw [show 2 * (k + 1) = 2 * k + 1 + 1 by omega, dV_succ, dV_succ, List.append_assoc]
     exact q
    clear hown1 hgrow hat hlt hb3
    go_wp2
    go_roundw
    case rel => exact ⟨k + 1, by go_num, by omega, HO3.out.1, HO3.out.2⟩
    case measure => simp [intOf]; omega
  · obtain rfl : k = n := by omega
    obtain ⟨ao', c', b', rfl, S', _⟩ := Big.own_sl hown (halves_Ws HS.out.ws)
    have T := Big.trim_any S'
    go_wp2_with fail
    refine T.mono ?_
    rintro e wa ⟨rfl, rfl⟩
    go_wp2
    go_ret
    refine ⟨_, rfl, ?_, hbl⟩
    have q := S'.trimmed
    rw [halves_V] at q
    exact q
theorem plus_big {w : World} {ao : Option Addr} {n c b o : Nat} {f : Nat → Nat} (S : Big.Sl w ao n c b o f) {bo : Option Addr} {m cb bb ob : Nat} {g : Nat → Nat} (S' : Big.Sl w bo m cb bb ob g) (hn : n ≤ 10000) (hm : m ≤ 10000) :
 Calls Tryz.prog 75 #[.slice ao n c, .slice bo m cb] w fun e w' => ∃ v, e = .returned v ∧ Big.NatV w' v (Big.V f n + Big.V g m) ∧ Below w.heap.size w w' := by
 obtain ⟨i0, hi, hz0, hz1, hz2⟩ := info_parts Big.info_u32
 have HS : Hid (Big.Sl w ao n c b o f) := S
 have HS' : Hid (Big.Sl w bo m cb bb ob g) := S'
 clear S S'
 go_enter Tryz.func75, Tryz.ntmps75
 go_wp2
 go_loopw [5, 6, 7] (fun v cy i wr => ∃ (k x : Nat) (F : Nat → Nat), cy = .int .u64 (x : Int) ∧ i = .int .i64 (k : Int) ∧ k ≤ max n m ∧ x ≤ 1 ∧ Big.Ws F ∧ wr.ownsRow w.heap.size 70 1 v k (dV .u32 F k) ∧ Below w.heap.size w wr ∧ Big.V F k + x * Big.B ^ k = Big.V (cut f n) k + Big.V (cut g m) k) (fun _ _ i _ => max n m - (intOf i).toNat)
 case atStart => exact ⟨0, 0, fun _ => 0, rfl, rfl, Nat.zero_le _, by omega, fun _ => Big.B_pos, World.ownsRow_nil _ _ _ _, Below.refl _ _, rfl⟩
 case round =>
  obtain ⟨k, x, F, rfl, rfl, hk, hx, hF, hown, hbl, hv⟩ := hrel
  have hsz := hbl.size
  have st := Big.sum_step (x := cut f n k) (y := cut g m k) hv
  have HV : Hid (Big.V F k + x * Big.B ^ k = Big.V (cut f n) k + Big.V (cut g m) k) := hv
  have bf := HS.out.ws k
  have bg := HS'.out.ws k
  unfold Big.B at bf bg
  clear hv
  by_cases c1 : k < n <;> by_cases c2 : k < m
  · skip
    rw [cut_in c1, cut_in c2] at st
    obtain rfl := HS.out.addr (by omega)
    have hc := (HS.out.below hbl).cell k c1
    obtain rfl := HS'.out.addr (by omega)
    have hc' := (HS'.out.below hbl).cell k c2
    have e1 : IntKind.u32.wrap ((x : Int) + (f k : Int) + (g k : Int)) = (((f k + g k + x) % Big.B : Nat) : Int) := by rw [IntKind.wrap_u32]; unfold Big.B; omega
    have e2 : ((x : Int) + (f k : Int) + (g k : Int)) / 4294967296 = (((f k + g k + x) / Big.B : Nat) : Int) := by unfold Big.B; omega
    have hr : (f k + g k + x) % Big.B < Big.B := Nat.mod_lt _ Big.B_pos
    have hq : (f k + g k + x) / Big.B ≤ 1 := by unfold Big.B; omega
    have HST := (show Hid _ from st)
    clear st
    generalize (f k + g k + x) % Big.B = r at *
    generalize (f k + g k + x) / Big.B = q at *
    go_wp2_with (first
     | (at_builtin; refine wpList_append_own _ rfl _ _ 46 rfl w.heap.size 70 i0 (.int .u32 0) 1 4 Big.und_big hi hz0 hz1 hz2 rfl (by decide) _ _ _ rfl (hown.alloc _) ⟨wr.heap.size, 0, none⟩ 1 1 [.int .u32 (r : Int)] rfl rfl (World.news_of_block (cs := #[.int .u32 (r : Int)]) (t := 70) (fr := (0, 0)) (heap_alloc_new wr _)) (by simp [Value.oneCell']) (by unfold maxLen; omega) (by omega) (by rw [World.size_alloc]; omega) ?_)
     | go_in)
    intro v' w3 hown' hgrow hnil
    have hb3 : Below w.heap.size w w3 := (hbl.alloc (by omega) _).grown hgrow (by rw [World.size_alloc]; omega) (fun q hq => (hown.lt q hq).1)
    have HO3 : Hid (w3.ownsRow w.heap.size 70 1 v' (k + 1) (dV .u32 (Big.put F k r) (k + 1)) ∧ Below w.heap.size w w3) := ⟨by rw [dV_put]; exact hown', hb3⟩
    clear hown' hb3 hgrow hnil hown hbl
    go_wp2
    go_roundw
    case rel =>
     refine ⟨k + 1, q, Big.put F k r, rfl, by go_num, by omega, hq, Big.put_Ws hF hr, HO3.out.1, HO3.out.2, ?_⟩
     rw [V_putB, Big.V_succ, Big.V_succ, Nat.pow_succ, cut_in c1, cut_in c2]
     exact HST.out
    case measure => simp [intOf]; omega
  · skip
    rw [cut_in c1, cut_out c2] at st
    obtain rfl := HS.out.addr (by omega)
    have hc := (HS.out.below hbl).cell k c1
    have e1 : IntKind.u32.wrap ((x : Int) + (f k : Int)) = (((f k + 0 + x) % Big.B : Nat) : Int) := by rw [IntKind.wrap_u32]; unfold Big.B; omega
    have e2 : ((x : Int) + (f k : Int)) / 4294967296 = (((f k + 0 + x) / Big.B : Nat) : Int) := by unfold Big.B; omega
    have hr : (f k + 0 + x) % Big.B < Big.B := Nat.mod_lt _ Big.B_pos
    have hq : (f k + 0 + x) / Big.B ≤ 1 := by unfold Big.B; omega
    have HST := (show Hid _ from st)
    clear st
    generalize (f k + 0 + x) % Big.B = r at *
    generalize (f k + 0 + x) / Big.B = q at *
    go_wp2_with (first
     | (at_builtin; refine wpList_append_own _ rfl _ _ 46 rfl w.heap.size 70 i0 (.int .u32 0) 1 4 Big.und_big hi hz0 hz1 hz2 rfl (by decide) _ _ _ rfl (hown.alloc _) ⟨wr.heap.size, 0, none⟩ 1 1 [.int .u32 (r : Int)] rfl rfl (World.news_of_block (cs := #[.int .u32 (r : Int)]) (t := 70) (fr := (0, 0)) (heap_alloc_new wr _)) (by simp [Value.oneCell']) (by unfold maxLen; omega) (by omega) (by rw [World.size_alloc]; omega) ?_)
     | go_in)
    intro v' w3 hown' hgrow hnil
    have hb3 : Below w.heap.size w w3 := (hbl.alloc (by omega) _).grown hgrow (by rw [World.size_alloc]; omega) (fun q hq => (hown.lt q hq).1)
    have HO3 : Hid (w3.ownsRow w.heap.size 70 1 v' (k + 1) (dV .u32 (Big.put F k r) (k + 1)) ∧ Below w.heap.size w w3) := ⟨by rw [dV_put]; exact hown', hb3⟩
    clear hown' hb3 hgrow hnil hown hbl
    go_wp2
    go_roundw
    case rel =>
     refine ⟨k + 1, q, Big.put F k r, rfl, by go_num, by omega, hq, Big.put_Ws hF hr, HO3.out.1, HO3.out.2, ?_⟩
     rw [V_putB, Big.V_succ, Big.V_succ, Nat.pow_succ, cut_in c1, cut_out c2]
     exact HST.out
    case measure => simp [intOf]; omega
  · skip
    rw [cut_out c1, cut_in c2] at st
    obtain rfl := HS'.out.addr (by omega)
    have hc' := (HS'.out.below hbl).cell k c2
    have e1 : IntKind.u32.wrap ((x : Int) + (g k : Int)) = (((0 + g k + x) % Big.B : Nat) : Int) := by rw [IntKind.wrap_u32]; unfold Big.B; omega
    have e2 : ((x : Int) + (g k : Int)) / 4294967296 = (((0 + g k + x) / Big.B : Nat) : Int) := by unfold Big.B; omega
    have hr : (0 + g k + x) % Big.B < Big.B := Nat.mod_lt _ Big.B_pos
    have hq : (0 + g k + x) / Big.B ≤ 1 := by unfold Big.B; omega
    have HST := (show Hid _ from st)
    clear st
    generalize (0 + g k + x) % Big.B = r at *
    generalize (0 + g k + x) / Big.B = q at *
    go_wp2_with (first
     | (at_builtin; refine wpList_append_own _ rfl _ _ 46 rfl w.heap.size 70 i0 (.int .u32 0) 1 4 Big.und_big hi hz0 hz1 hz2 rfl (by decide) _ _ _ rfl (hown.alloc _) ⟨wr.heap.size, 0, none⟩ 1 1 [.int .u32 (r : Int)] rfl rfl (World.news_of_block (cs := #[.int .u32 (r : Int)]) (t := 70) (fr := (0, 0)) (heap_alloc_new wr _)) (by simp [Value.oneCell']) (by unfold maxLen; omega) (by omega) (by rw [World.size_alloc]; omega) ?_)
     | go_in)
    intro v' w3 hown' hgrow hnil
    have hb3 : Below w.heap.size w w3 := (hbl.alloc (by omega) _).grown hgrow (by rw [World.size_alloc]; omega) (fun q hq => (hown.lt q hq).1)
    have HO3 : Hid (w3.ownsRow w.heap.size 70 1 v' (k + 1) (dV .u32 (Big.put F k r) (k + 1)) ∧ Below w.heap.size w w3) := ⟨by rw [dV_put]; exact hown', hb3⟩
    clear hown' hb3 hgrow hnil hown hbl
    go_wp2
    go_roundw
    case rel =>
     refine ⟨k + 1, q, Big.put F k r, rfl, by go_num, by omega, hq, Big.put_Ws hF hr, HO3.out.1, HO3.out.2, ?_⟩
     rw [V_putB, Big.V_succ, Big.V_succ, Nat.pow_succ, cut_out c1, cut_in c2]
     exact HST.out
    case measure => simp [intOf]; omega
  · skip
    have e1 : IntKind.u32.wrap (x : Int) = (x : Int) := by rw [IntKind.wrap_u32]; omega
    have HE : Hid (Big.V (Big.put F k x) (k + 1) = Big.V f n + Big.V g m) := by
     show _ = _
     rw [V_putB, HV.out, cut_V (by omega), cut_V (by omega)]
    have hw : Big.Ws (Big.put F k x) := Big.put_Ws hF (by unfold Big.B; omega)
    clear st
    go_wp2_with (first
     | (at_builtin; refine wpList_append_own _ rfl _ _ 46 rfl w.heap.size 70 i0 (.int .u32 0) 1 4 Big.und_big hi hz0 hz1 hz2 rfl (by decide) _ _ _ rfl (hown.alloc _) ⟨wr.heap.size, 0, none⟩ 1 1 [.int .u32 (x : Int)] rfl rfl (World.news_of_block (cs := #[.int .u32 (x : Int)]) (t := 70) (fr := (0, 0)) (heap_alloc_new wr _)) (by simp [Value.oneCell']) (by unfold maxLen; omega) (by omega) (by rw [World.size_alloc]; omega) ?_)
     | go_in)
    intro v' w3 hown' hgrow hnil
    have hb3 : Below w.heap.size w w3 := (hbl.alloc (by omega) _).grown hgrow (by rw [World.size_alloc]; omega) (fun q hq => (hown.lt q hq).1)
    rw [← dV_put] at hown'
    obtain ⟨ao', c', b', rfl, S3, _⟩ := Big.own_sl hown' hw
    have T := Big.trim_any S3
    have NV := S3.trimmed
    rw [HE.out] at NV
    clear hown' hgrow hnil hown hbl
    go_wp2_with fail
    refine T.mono ?_
    rintro e wa ⟨rfl, rfl⟩
    go_wp2
    go_ret
    exact ⟨_, rfl, NV, hb3⟩
theorem plus_any {w : World} {va vb : Value} {X Y : Nat} (ha : Big.NatV w va X) (hb : Big.NatV w vb Y) (hX : Fits 1000 X) (hY : Fits 1000 Y) :
 Calls Tryz.prog 75 #[va, vb] w fun e w' => ∃ v, e = .returned v ∧ Big.NatV w' v (X + Y) ∧ Below w.heap.size w w' := by
 obtain ⟨ao, n, c, b, o, f, rfl, S, t, rfl⟩ := ha
 obtain ⟨bo, m, cb, bb, ob, g, rfl, S', t', rfl⟩ := hb
 have := big_len t hX
 have := big_len t' hY
 exact plus_big S S' (by omega) (by omega)
theorem minus_big {w : World} {ao : Option Addr} {n c b o : Nat} {f : Nat → Nat} (S : Big.Sl w ao n c b o f) {bo : Option Addr} {m cb bb ob : Nat} {g : Nat → Nat} (S' : Big.Sl w bo m cb bb ob g) (hn : n ≤ 10000) (hmn : m ≤ n) (hle : Big.V g m ≤ Big.V f n) :
 Calls Tryz.prog 23 #[.slice ao n c, .slice bo m cb] w fun e w' => ∃ v, e = .returned v ∧ Big.NewV w' w.heap.size v (Big.V f n - Big.V g m) ∧ Below w.heap.size w w' := by
 obtain ⟨i0, hi, hz0, hz1, hz2⟩ := info_parts Big.info_u32
 have HS : Hid (Big.Sl w ao n c b o f) := S
 have HS' : Hid (Big.Sl w bo m cb bb ob g) := S'
 have HLE : Hid (Big.V g m ≤ Big.V f n) := hle
 clear S S' hle
 go_enter Tryz.func23, Tryz.ntmps23
 go_wp2
 go_loopw [5, 6, 7] (fun v cy i wr => ∃ (k x : Nat) (F : Nat → Nat), cy = .int .i64 (x : Int) ∧ i = .int .i64 (k : Int) ∧ k ≤ n ∧ x ≤ 1 ∧ Big.Ws F ∧ wr.ownsRow w.heap.size 70 1 v k (dV .u32 F k) ∧ Below w.heap.size w wr ∧ Big.V F k + Big.V (cut g m) k = Big.V f k + x * Big.B ^ k) (fun _ _ i _ => n - (intOf i).toNat)
 case atStart => exact ⟨0, 0, fun _ => 0, rfl, rfl, Nat.zero_le _, by omega, fun _ => Big.B_pos, World.ownsRow_nil _ _ _ _, Below.refl _ _, rfl⟩
 case round =>
  obtain ⟨k, x, F, rfl, rfl, hk, hx, hF, hown, hbl, hv⟩ := hrel
  have hsz := hbl.size
  have HV : Hid (Big.V F k + Big.V (cut g m) k = Big.V f k + x * Big.B ^ k) := hv
  have bf := HS.out.ws k
  have bg := HS'.out.ws k
  unfold Big.B at bf bg
  clear hv
  by_cases c1 : k < n
  · obtain rfl := HS.out.addr (by omega)
    have hc := (HS.out.below hbl).cell k c1
    by_cases c2 : k < m
    · by_cases c3 : f k < g k + x
      · skip
        obtain rfl := HS'.out.addr (by omega)
        have hc' := (HS'.out.below hbl).cell k c2
        obtain ⟨r, hr⟩ : ∃ r : Nat, r = f k + 4294967296 - g k - x := ⟨_, rfl⟩
        have st := Big.sub_step (y := g k) (x := f k) (l := r) (d := 1) (β := Big.B) HV.out (by unfold Big.B; omega)
        have hrB : r < Big.B := by unfold Big.B; omega
        have e1 : IntKind.u32.wrap ((f k : Int) - (x : Int) - (g k : Int) + 4294967296) = (r : Int) := by rw [IntKind.wrap_u32]; omega
        have hlt : (f k : Int) - (x : Int) - (g k : Int) < 0 := by omega
        have HST := (show Hid _ from st)
        clear st hr
        go_wp2_with (first
         | (at_builtin; refine wpList_append_own _ rfl _ _ 46 rfl w.heap.size 70 i0 (.int .u32 0) 1 4 Big.und_big hi hz0 hz1 hz2 rfl (by decide) _ _ _ rfl (hown.alloc _) ⟨wr.heap.size, 0, none⟩ 1 1 [.int .u32 (r : Int)] rfl rfl (World.news_of_block (cs := #[.int .u32 (r : Int)]) (t := 70) (fr := (0, 0)) (heap_alloc_new wr _)) (by simp [Value.oneCell']) (by unfold maxLen; omega) (by omega) (by rw [World.size_alloc]; omega) ?_)
         | go_in)
        intro v' w3 hown' hgrow hnil
        have hb3 : Below w.heap.size w w3 := (hbl.alloc (by omega) _).grown hgrow (by rw [World.size_alloc]; omega) (fun q hq => (hown.lt q hq).1)
        have HO3 : Hid (w3.ownsRow w.heap.size 70 1 v' (k + 1) (dV .u32 (Big.put F k r) (k + 1)) ∧ Below w.heap.size w w3) := ⟨by rw [dV_put]; exact hown', hb3⟩
        clear hown' hb3 hgrow hnil hown hbl
        go_wp2
        go_roundw
        case rel =>
         refine ⟨k + 1, 1, Big.put F k r, rfl, by go_num, by omega, by omega, Big.put_Ws hF hrB, HO3.out.1, HO3.out.2, ?_⟩
         rw [V_putB, Big.V_succ, Big.V_succ, Nat.pow_succ, cut_in c2]
         exact HST.out
        case measure => simp [intOf]; omega
      · skip
        obtain rfl := HS'.out.addr (by omega)
        have hc' := (HS'.out.below hbl).cell k c2
        obtain ⟨r, hr⟩ : ∃ r : Nat, r = f k - g k - x := ⟨_, rfl⟩
        have st := Big.sub_step (y := g k) (x := f k) (l := r) (d := 0) (β := Big.B) HV.out (by unfold Big.B; omega)
        have hrB : r < Big.B := by unfold Big.B; omega
        have e1 : IntKind.u32.wrap ((f k : Int) - (x : Int) - (g k : Int)) = (r : Int) := by rw [IntKind.wrap_u32]; omega
        have hlt : ¬ (f k : Int) - (x : Int) - (g k : Int) < 0 := by omega
        have HST := (show Hid _ from st)
        clear st hr
        go_wp2_with (first
         | (at_builtin; refine wpList_append_own _ rfl _ _ 46 rfl w.heap.size 70 i0 (.int .u32 0) 1 4 Big.und_big hi hz0 hz1 hz2 rfl (by decide) _ _ _ rfl (hown.alloc _) ⟨wr.heap.size, 0, none⟩ 1 1 [.int .u32 (r : Int)] rfl rfl (World.news_of_block (cs := #[.int .u32 (r : Int)]) (t := 70) (fr := (0, 0)) (heap_alloc_new wr _)) (by simp [Value.oneCell']) (by unfold maxLen; omega) (by omega) (by rw [World.size_alloc]; omega) ?_)
         | go_in)
        intro v' w3 hown' hgrow hnil
        have hb3 : Below w.heap.size w w3 := (hbl.alloc (by omega) _).grown hgrow (by rw [World.size_alloc]; omega) (fun q hq => (hown.lt q hq).1)
        have HO3 : Hid (w3.ownsRow w.heap.size 70 1 v' (k + 1) (dV .u32 (Big.put F k r) (k + 1)) ∧ Below w.heap.size w w3) := ⟨by rw [dV_put]; exact hown', hb3⟩
        clear hown' hb3 hgrow hnil hown hbl
        go_wp2
        go_roundw
        case rel =>
         refine ⟨k + 1, 0, Big.put F k r, rfl, by go_num, by omega, by omega, Big.put_Ws hF hrB, HO3.out.1, HO3.out.2, ?_⟩
         rw [V_putB, Big.V_succ, Big.V_succ, Nat.pow_succ, cut_in c2]
         exact HST.out
        case measure => simp [intOf]; omega
    · by_cases c3 : f k < x
      · skip
        obtain ⟨r, hr⟩ : ∃ r : Nat, r = f k + 4294967296 - 0 - x := ⟨_, rfl⟩
        have st := Big.sub_step (y := 0) (x := f k) (l := r) (d := 1) (β := Big.B) HV.out (by unfold Big.B; omega)
        have hrB : r < Big.B := by unfold Big.B; omega
        have e1 : IntKind.u32.wrap ((f k : Int) - (x : Int) + 4294967296) = (r : Int) := by rw [IntKind.wrap_u32]; omega
        have hlt : (f k : Int) - (x : Int) < 0 := by omega
        have HST := (show Hid _ from st)
        clear st hr
        go_wp2_with (first
         | (at_builtin; refine wpList_append_own _ rfl _ _ 46 rfl w.heap.size 70 i0 (.int .u32 0) 1 4 Big.und_big hi hz0 hz1 hz2 rfl (by decide) _ _ _ rfl (hown.alloc _) ⟨wr.heap.size, 0, none⟩ 1 1 [.int .u32 (r : Int)] rfl rfl (World.news_of_block (cs := #[.int .u32 (r : Int)]) (t := 70) (fr := (0, 0)) (heap_alloc_new wr _)) (by simp [Value.oneCell']) (by unfold maxLen; omega) (by omega) (by rw [World.size_alloc]; omega) ?_)
         | go_in)
        intro v' w3 hown' hgrow hnil
        have hb3 : Below w.heap.size w w3 := (hbl.alloc (by omega) _).grown hgrow (by rw [World.size_alloc]; omega) (fun q hq => (hown.lt q hq).1)
        have HO3 : Hid (w3.ownsRow w.heap.size 70 1 v' (k + 1) (dV .u32 (Big.put F k r) (k + 1)) ∧ Below w.heap.size w w3) := ⟨by rw [dV_put]; exact hown', hb3⟩
        clear hown' hb3 hgrow hnil hown hbl
        go_wp2
        go_roundw
        case rel =>
         refine ⟨k + 1, 1, Big.put F k r, rfl, by go_num, by omega, by omega, Big.put_Ws hF hrB, HO3.out.1, HO3.out.2, ?_⟩
         rw [V_putB, Big.V_succ, Big.V_succ, Nat.pow_succ, cut_out c2]
         exact HST.out
        case measure => simp [intOf]; omega
      · skip
        obtain ⟨r, hr⟩ : ∃ r : Nat, r = f k - 0 - x := ⟨_, rfl⟩
        have st := Big.sub_step (y := 0) (x := f k) (l := r) (d := 0) (β := Big.B) HV.out (by unfold Big.B; omega)
        have hrB : r < Big.B := by unfold Big.B; omega
        have e1 : IntKind.u32.wrap ((f k : Int) - (x : Int)) = (r : Int) := by rw [IntKind.wrap_u32]; omega
        have hlt : ¬ (f k : Int) - (x : Int) < 0 := by omega
        have HST := (show Hid _ from st)
        clear st hr
        go_wp2_with (first
         | (at_builtin; refine wpList_append_own _ rfl _ _ 46 rfl w.heap.size 70 i0 (.int .u32 0) 1 4 Big.und_big hi hz0 hz1 hz2 rfl (by decide) _ _ _ rfl (hown.alloc _) ⟨wr.heap.size, 0, none⟩ 1 1 [.int .u32 (r : Int)] rfl rfl (World.news_of_block (cs := #[.int .u32 (r : Int)]) (t := 70) (fr := (0, 0)) (heap_alloc_new wr _)) (by simp [Value.oneCell']) (by unfold maxLen; omega) (by omega) (by rw [World.size_alloc]; omega) ?_)
         | go_in)
        intro v' w3 hown' hgrow hnil
        have hb3 : Below w.heap.size w w3 := (hbl.alloc (by omega) _).grown hgrow (by rw [World.size_alloc]; omega) (fun q hq => (hown.lt q hq).1)
        have HO3 : Hid (w3.ownsRow w.heap.size 70 1 v' (k + 1) (dV .u32 (Big.put F k r) (k + 1)) ∧ Below w.heap.size w w3) := ⟨by rw [dV_put]; exact hown', hb3⟩
        clear hown' hb3 hgrow hnil hown hbl
        go_wp2
        go_roundw
        case rel =>
         refine ⟨k + 1, 0, Big.put F k r, rfl, by go_num, by omega, by omega, Big.put_Ws hF hrB, HO3.out.1, HO3.out.2, ?_⟩
         rw [V_putB, Big.V_succ, Big.V_succ, Nat.pow_succ, cut_out c2]
         exact HST.out
        case measure => simp [intOf]; omega
  · obtain rfl : k = n := by omega
    have HE : Hid (Big.V F k = Big.V f k - Big.V g m) := by
     show _ = _
     have a := HV.out
     have b := HLE.out
     have l1 := Big.V_lt hF k
     rw [cut_V (by omega)] at a
     rcases (by omega : x = 0 ∨ x = 1) with rfl | rfl
     · omega
     · omega
    obtain ⟨ao', c', b', rfl, S3, hnw⟩ := Big.own_sl hown hF
    have T := Big.trim_any S3
    have NV := S3.trimmedN hnw
    rw [HE.out] at NV
    clear hown hnw
    go_wp2_with fail
    refine T.mono ?_
    rintro e wa ⟨rfl, rfl⟩
    go_wp2
    go_ret
    exact ⟨_, rfl, NV, hbl⟩
theorem minus_new {w : World} {va vb : Value} {X Y : Nat} (ha : Big.NatV w va X) (hb : Big.NatV w vb Y) (hX : Fits 1000 X) (hle : Y ≤ X) :
 Calls Tryz.prog 23 #[va, vb] w fun e w' => ∃ v, e = .returned v ∧ Big.NewV w' w.heap.size v (X - Y) ∧ Below w.heap.size w w' := by
 obtain ⟨ao, n, c, b, o, f, rfl, S, t, rfl⟩ := ha
 obtain ⟨bo, m, cb, bb, ob, g, rfl, S', t', rfl⟩ := hb
 have := big_len t hX
 exact minus_big S S' (by omega) (big_le_len S.ws t' hle) hle
theorem bcmp_any {w : World} {ao : Option Addr} {n c b o : Nat} {f : Nat → Nat} (S : Big.Sl w ao n c b o f) {ao' : Option Addr} {n' c' b' o' : Nat} {f' : Nat → Nat} (S' : Big.Sl w ao' n' c' b' o' f') (t : Big.Top f n) (t' : Big.Top f' n') :
 Calls Tryz.prog 26 #[.slice ao n c, .slice ao' n' c'] w fun e w' => e = .returned (.int .i64 (ord (Big.V f n) (Big.V f' n'))) ∧ Below w.heap.size w w' := by
 have hn : n ≤ maxLen := Nat.le_trans S.le S.cap
 have hn' : n' ≤ maxLen := Nat.le_trans S'.le S'.cap
 unfold maxLen at hn hn'
 rcases Nat.lt_trichotomy n n' with d | d | d
 · have e := ord_lt (Big.len_lt S.ws t' d)
   rw [e]
   have d1 : ((n : Int) == (n' : Int)) = false := beq_eq_false_iff_ne.mpr (by omega)
   clear e
   go_enter Tryz.func26, Tryz.ntmps26
   go_wp2
   go_ret
   exact ⟨rfl, Below.refl _ _⟩
 · subst d
   have HS : Hid (Big.Sl w ao n c b o f) := S
   have HS' : Hid (Big.Sl w ao' n c' b' o' f') := S'
   clear S S' t t'
   go_enter Tryz.func26, Tryz.ntmps26
   go_wp2
   go_loopw [5] (fun i wr => ∃ k : Nat, i = .int .i64 ((k : Int) - 1) ∧ k ≤ n ∧ Below w.heap.size w wr ∧ ∀ j, k ≤ j → j < n → f j = f' j) (fun i _ => (intOf i + 1).toNat)
   case atStart => exact ⟨n, rfl, Nat.le_refl _, Below.refl _ _, fun j a b => absurd a (by omega)⟩
   case round =>
    obtain ⟨k, rfl, hk, al, heq⟩ := hrel
    have HA : Hid (Below w.heap.size w wr) := al
    have HE : Hid (∀ j, k ≤ j → j < n → f j = f' j) := heq
    clear heq
    by_cases c1 : 0 < k
    · obtain rfl := HS.out.addr (by omega)
      obtain rfl := HS'.out.addr (by omega)
      have hc := (HS.out.below al).cell (k - 1) (by omega)
      have hc' := (HS'.out.below al).cell (k - 1) (by omega)
      clear al
      have ix : ((k : Int) - 1).toNat = k - 1 := by omega
      rcases Nat.lt_trichotomy (f (k - 1)) (f' (k - 1)) with q | q | q
      · have r := ord_lt (Big.V_lt_at HS.out.ws q (n := n) (by omega) (fun j a b => HE.out j (by omega) b))
        have HR : Hid (ord (Big.V f n) (Big.V f' n) = -1) := r
        have q2 : ((f (k - 1) : Nat) : Int) < ((f' (k - 1) : Nat) : Int) := by omega
        clear r q
        go_wp2
        go_region
        all_goals
         go_wp2
         go_ret
         exact ⟨by rw [HR.out]; rfl, HA.out.drew⟩
      · have q1 : ¬ ((f (k - 1) : Nat) : Int) < ((f' (k - 1) : Nat) : Int) := by omega
        have q2 : ¬ ((f' (k - 1) : Nat) : Int) < ((f (k - 1) : Nat) : Int) := by omega
        have HQ : Hid (f (k - 1) = f' (k - 1)) := q
        clear q
        go_wp2
        go_region
        all_goals
         go_wp2
         go_region
         all_goals
          go_wp2
          go_roundw
          case rel =>
           refine ⟨k - 1, by go_num, by omega, HA.out.drew.drew, fun j a b => ?_⟩
           by_cases z : j = k - 1
           · rw [z]; exact HQ.out
           · exact HE.out j (by omega) b
          case measure => simp [intOf]; omega
      · have r := ord_gt (Big.V_lt_at HS'.out.ws q (n := n) (by omega) (fun j a b => (HE.out j (by omega) b).symm))
        have HR : Hid (ord (Big.V f n) (Big.V f' n) = 1) := r
        have q1 : ¬ ((f (k - 1) : Nat) : Int) < ((f' (k - 1) : Nat) : Int) := by omega
        have q2 : ((f' (k - 1) : Nat) : Int) < ((f (k - 1) : Nat) : Int) := by omega
        clear r q
        go_wp2
        go_region
        all_goals
         go_wp2
         go_region
         all_goals
          go_wp2
          go_ret
          exact ⟨by rw [HR.out]; rfl, HA.out.drew.drew⟩
    · obtain rfl : k = 0 := by omega
      have HR : Hid (ord (Big.V f n) (Big.V f' n) = 0) := ord_eq (Big.V_congr fun i hi => HE.out i (Nat.zero_le _) hi)
      clear HE c1
      go_wp2
      go_ret
      exact ⟨by rw [HR.out]; rfl, HA.out⟩
 · have e := ord_gt (Big.len_lt S'.ws t d)
   rw [e]
   have d1 : ((n : Int) == (n' : Int)) = false := beq_eq_false_iff_ne.mpr (by omega)
   clear e
   go_enter Tryz.func26, Tryz.ntmps26
   go_wp2
   go_ret
   exact ⟨rfl, Below.refl _ _⟩
theorem bcmp_nat {w : World} {va vb : Value} {X Y : Nat} (ha : Big.NatV w va X) (hb : Big.NatV w vb Y) :
 Calls Tryz.prog 26 #[va, vb] w fun e w' => e = .returned (.int .i64 (ord X Y)) ∧ Below w.heap.size w w' := by
 obtain ⟨ao, n, c, b, o, f, rfl, S, t, rfl⟩ := ha
 obtain ⟨bo, m, cb, bb, ob, g, rfl, S', t', rfl⟩ := hb
 exact bcmp_any S S' t t'
theorem und_wordsB : Tryz.prog.underlying 42 = some (.slice 22) := by kernel_rfl
theorem pair_or {x y : Nat} (hx : x < Big.B) (hy : y < Big.B) : bits .or .u64 (x : Int) ((y : Int) * 4294967296) = ((x + y * Big.B : Nat) : Int) := by
 have e := up_lo (x := y) (z := x) (p := 32) (by omega) hx
 have w : IntKind.u64.wrap ((y : Int) * 2 ^ 32) = (y : Int) * 4294967296 := by
  rw [IntKind.wrap_u64]; unfold Big.B at hy; omega
 rw [w] at e
 rw [e]
 unfold Big.B B at *
 omega
def wR (X : Nat) : Nat := if X < B ^ 128 then X else 0
def wE (X : Nat) : Nat := if X < B ^ 128 then 0 else 20
theorem words_big {w : World} {ao : Option Addr} {n c b o : Nat} {g : Nat → Nat} (S : Big.Sl w ao n c b o g) (t : Big.Top g n) (hn : n ≤ 10000) :
 Calls Tryz.prog 35 #[.slice ao n c] w fun e w' => ∃ v, e = .returned (.tuple #[v, .int .i64 (wE (Big.V g n) : Int)]) ∧ NatV w' v (wR (Big.V g n)) ∧ Below w.heap.size w w' := by
 obtain ⟨i0, hi, hz0, hz1, hz2⟩ := info_parts info_u64
 have HS : Hid (Big.Sl w ao n c b o g) := S
 have HP : Hid (Ws (pairs g n) ∧ Top (pairs g n) ((n + 1) / 2) ∧ V (pairs g n) ((n + 1) / 2) = Big.V g n) := ⟨pairs_Ws S.ws, pairs_Top t, pairs_V g n⟩
 clear S t
 go_enter Tryz.func35, Tryz.ntmps35
 go_wp2
 go_loopw [4, 5] (fun v i wr => ∃ k : Nat, i = .int .i64 (((2 * k : Nat) : Nat) : Int) ∧ 2 * k ≤ n + 1 ∧ wr.ownsRow w.heap.size 22 1 v k (dV .u64 (pairs g n) k) ∧ Below w.heap.size w wr) (fun _ i _ => n + 2 - (intOf i).toNat)
 case atStart => exact ⟨0, rfl, by omega, World.ownsRow_nil _ _ _ _, Below.refl _ _⟩
 case round =>
  obtain ⟨k, rfl, hk, hown, hbl⟩ := hrel
  have hsz := hbl.size
  by_cases c1 : 2 * k < n
  · obtain rfl := HS.out.addr (by omega)
    have hc := (HS.out.below hbl).cell (2 * k) c1
    have bf := HS.out.ws (2 * k)
    have bg := HS.out.ws (2 * k + 1)
    by_cases c2 : 2 * k + 1 < n
    · have hc' := (HS.out.below hbl).cell (2 * k + 1) c2
      have hor := pair_or bf bg
      have HW : Hid (g (2 * k) + g (2 * k + 1) * Big.B = pairs g n k) := by
       show _ = _
       unfold pairs; rw [cut_in c1, cut_in c2]
      generalize g (2 * k) + g (2 * k + 1) * Big.B = r at *
      unfold Big.B at bf bg
      generalize hj : 2 * k = j at *
      go_wp2_with (first
       | (at_builtin; refine wpList_append_own _ rfl _ _ 42 rfl w.heap.size 22 i0 (.int .u64 0) 1 8 und_wordsB hi hz0 hz1 hz2 rfl (by decide) _ _ _ rfl (hown.alloc _) ⟨wr.heap.size, 0, none⟩ 1 1 [.int .u64 (r : Int)] rfl rfl (World.news_of_block (cs := #[.int .u64 (r : Int)]) (t := 22) (fr := (0, 0)) (heap_alloc_new wr _)) (by simp [Value.oneCell']) (by unfold maxLen; omega) (by omega) (by rw [World.size_alloc]; omega) ?_)
       | go_in)
      intro v' w3 hown' hgrow hnil
      have hb3 : Below w.heap.size w w3 := (hbl.alloc (by omega) _).grown hgrow (by rw [World.size_alloc]; omega) (fun q hq => (hown.lt q hq).1)
      have HO3 : Hid (w3.ownsRow w.heap.size 22 1 v' (k + 1) (dV .u64 (pairs g n) (k + 1)) ∧ Below w.heap.size w w3) := ⟨by rw [dV_succ, ← HW.out]; exact hown', hb3⟩
      clear hown' hb3 hgrow hnil hown hbl
      go_wp2
      go_roundw
      case rel => exact ⟨k + 1, by go_num, by omega, HO3.out.1, HO3.out.2⟩
      case measure => simp [intOf]; omega
    · have HW : Hid (g (2 * k) = pairs g n k) := by
       show _ = _
       unfold pairs; rw [cut_in c1, cut_out c2, Nat.zero_mul, Nat.add_zero]
      unfold Big.B at bf bg
      generalize g (2 * k) = r at *
      generalize hj : 2 * k = j at *
      go_wp2_with (first
       | (at_builtin; refine wpList_append_own _ rfl _ _ 42 rfl w.heap.size 22 i0 (.int .u64 0) 1 8 und_wordsB hi hz0 hz1 hz2 rfl (by decide) _ _ _ rfl (hown.alloc _) ⟨wr.heap.size, 0, none⟩ 1 1 [.int .u64 (r : Int)] rfl rfl (World.news_of_block (cs := #[.int .u64 (r : Int)]) (t := 22) (fr := (0, 0)) (heap_alloc_new wr _)) (by simp [Value.oneCell']) (by unfold maxLen; omega) (by omega) (by rw [World.size_alloc]; omega) ?_)
       | go_in)
      intro v' w3 hown' hgrow hnil
      have hb3 : Below w.heap.size w w3 := (hbl.alloc (by omega) _).grown hgrow (by rw [World.size_alloc]; omega) (fun q hq => (hown.lt q hq).1)
      have HO3 : Hid (w3.ownsRow w.heap.size 22 1 v' (k + 1) (dV .u64 (pairs g n) (k + 1)) ∧ Below w.heap.size w w3) := ⟨by rw [dV_succ, ← HW.out]; exact hown', hb3⟩
      clear hown' hb3 hgrow hnil hown hbl
      go_wp2
      go_roundw
      case rel => exact ⟨k + 1, by go_num, by omega, HO3.out.1, HO3.out.2⟩
      case measure => simp [intOf]; omega
  · obtain rfl : k = (n + 1) / 2 := by omega
    obtain ⟨ao', c', b', rfl, S3, _⟩ := own_sl hown HP.out.1
    generalize hj : (n + 1) / 2 = j at *
    clear hown
    by_cases c3 : 128 < j
    · have HX : Hid (¬ Big.V g n < B ^ 128) := by
       show ¬ _
       intro q
       have := len_le HP.out.2.1 (by rw [HP.out.2.2]; exact q)
       omega
      have c3' : (128 : Int) < (j : Int) := by omega
      go_wp2
      refine bodyPost_ret (v := .tuple #[.slice none 0 0, .int .i64 20]) (by simp [results, Tryz.results35, go_sem]) rfl ⟨.slice none 0 0, ?_, ?_, hbl⟩
      · unfold wE; rw [if_neg HX.out]; rfl
      · unfold wR; rw [if_neg HX.out]; exact natv_nil _
    · have HX : Hid (Big.V g n < B ^ 128) := by
       show _ < _
       rw [← HP.out.2.2]
       exact Nat.lt_of_lt_of_le (V_lt HP.out.1 _) (Nat.pow_le_pow_right B_pos (by omega))
      have c3' : ¬ (128 : Int) < (j : Int) := by omega
      go_wp2
      refine bodyPost_ret (v := .tuple #[.slice ao' j c', .int .i64 0]) (by simp [results, Tryz.results35, go_sem]) rfl ⟨.slice ao' j c', ?_, ?_, hbl⟩
      · unfold wE; rw [if_pos HX.out]; rfl
      · unfold wR; rw [if_pos HX.out]; exact ⟨_, _, _, _, _, _, rfl, S3, HP.out.2.1, HP.out.2.2, by omega⟩
theorem words_any {w : World} {va : Value} {X : Nat} (ha : Big.NatV w va X) (hX : Fits 1000 X) :
 Calls Tryz.prog 35 #[va] w fun e w' => ∃ v, e = .returned (.tuple #[v, .int .i64 (wE X : Int)]) ∧ NatV w' v (wR X) ∧ Below w.heap.size w w' := by
 obtain ⟨ao, n, c, b, o, f, rfl, S, t, rfl⟩ := ha
 have := big_len t hX
 exact words_big S t (by omega)
theorem made_dV (q : Nat) : (madeCells #[.int .u32 0] q).toList = dV .u32 (fun _ => 0) q := by
 apply List.ext_getElem?
 intro i
 by_cases h : i < q
 · rw [dV_get h]; simp [madeCells, h, Nat.mod_one]
 · simp [madeCells, dV, h]
theorem up_or {x z p : Nat} (hx : x < Big.B) (hp : p < 32) (hz : z < 2 ^ p) : bits .or .u64 (z : Int) (IntKind.u64.wrap ((x : Int) * 2 ^ p)) = ((x * 2 ^ p + z : Nat) : Int) ∧ x * 2 ^ p + z < B := by
 have e := up_lo (x := x) (z := z) (p := p) (by omega) hz
 have h1 : x * 2 ^ p + z < B := by
  have a : (x + 1) * 2 ^ p ≤ Big.B * 2 ^ p := Nat.mul_le_mul_right _ hx
  have b : Big.B * 2 ^ p ≤ Big.B * Big.B := Nat.mul_le_mul_left _ (by rw [D_two]; exact Nat.pow_le_pow_right (by omega) (by omega))
  rw [← BB] at b
  rw [Nat.add_mul, Nat.one_mul] at a
  omega
 rw [Nat.mod_eq_of_lt (by omega)] at e
 exact ⟨e, h1⟩
theorem up_big {w : World} {ao : Option Addr} {n c b o : Nat} {f : Nat → Nat} (S : Big.Sl w ao n c b o f) (h0 : 0 < n) (hn : n ≤ 1000) (s q p : Nat) (hsq : s = 32 * q + p) (hp : p < 32) (hq : q ≤ 1000) :
 Calls Tryz.prog 50 #[.slice ao n c, .int .i64 (s : Int)] w fun e w' => ∃ v, e = .returned v ∧ Big.NewV w' w.heap.size v (Big.V f n * 2 ^ s) ∧ Below w.heap.size w w' := by
 obtain ⟨i0, hi, hz0, hz1, hz2⟩ := info_parts Big.info_u32
 have hmk := run_make_row' (P := Tryz.prog) 46 70 (.int .u32 0) 4 Big.und_big Big.info_u32 rfl .i64 .i64 q (by omega) (by omega)
 have HS : Hid (Big.Sl w ao n c b o f) := S
 obtain rfl := S.addr h0
 have hz : ((n : Int) == 0) = false := beq_eq_false_iff_ne.mpr (by omega)
 have d1 : (s : Int) / 32 = (q : Int) := by omega
 have d2 : (s : Int) % 32 = (p : Int) := by omega
 have d3 : (s : Int).tdiv 32 = (q : Int) := by rw [Int.tdiv_eq_ediv_of_nonneg (by omega)]; exact d1
 have d4 : (s : Int).tmod 32 = (p : Int) := by rw [Int.tmod_eq_emod_of_nonneg (by omega)]; exact d2
 have hs : s ≤ 33000 := by omega
 have HQ : Hid (s = 32 * q + p) := hsq
 clear S hsq
 go_enter Tryz.func50, Tryz.ntmps50
 go_wp2
 go_loopw [5, 6, 7] (fun v cy i wr => ∃ (k z : Nat) (F : Nat → Nat), cy = .int .u64 (z : Int) ∧ i = .int .i64 (k : Int) ∧ k ≤ n ∧ Hid (z < 2 ^ p) ∧ z < 4294967296 ∧ Big.Ws F ∧ wr.ownsRow w.heap.size 70 1 v (q + k) (dV .u32 F (q + k)) ∧ Below w.heap.size w wr ∧ Hid (Big.V F (q + k) + z * Big.B ^ (q + k) = Big.V f k * 2 ^ s)) (fun _ _ i _ => n - (intOf i).toNat)
 case atStart =>
  refine ⟨0, 0, fun _ => 0, rfl, rfl, Nat.zero_le _, (Nat.pow_pos (by omega) : 0 < 2 ^ p), by omega, fun _ => Big.B_pos, ?_, (Below.refl _ _).alloc (Nat.le_refl _) _, ?_⟩
  · have q1 := World.ownsRow_lit (base := w.heap.size) (e := 70) (size := 1) w (madeCells #[.int .u32 0] q) q (Nat.le_refl _) (by unfold maxLen; omega) (by simp [madeCells])
    rw [made_dV] at q1
    exact q1
  · show Big.V (fun _ => 0) (q + 0) + 0 * _ = Big.V f 0 * _
    rw [Big.V_nought, Big.V_zero]; omega
 case round =>
  obtain ⟨k, z, F, rfl, rfl, hk, HZ, hz2', hF, hown, hbl, HV⟩ := hrel
  have hsz := hbl.size
  by_cases c1 : k < n
  · have hc := (HS.out.below hbl).cell k c1
    have hxB := HS.out.ws k
    obtain ⟨o1, o2⟩ := up_or hxB hp HZ.out
    unfold Big.B at hxB
    have dm := Nat.div_add_mod (f k * 2 ^ p + z) Big.B
    have HST : Hid (Big.V F (q + k) + (f k * 2 ^ p + z) % Big.B * Big.B ^ (q + k) + (f k * 2 ^ p + z) / Big.B * (Big.B ^ (q + k) * Big.B) = Big.V f (k + 1) * 2 ^ s) := by
     show _ = _
     have g := upB_gen (P := Big.B ^ (q + k)) HV.out dm
     rw [g, Big.V_succ, Nat.add_mul, HQ.out, D_pow, D_pow]
     congr 1
     rw [Nat.mul_assoc (f k), ← Nat.pow_add, ← Nat.pow_add]
     congr 2
     omega
    have hqz : Hid ((f k * 2 ^ p + z) / Big.B < 2 ^ p) := by
     show _ < _
     rw [Nat.div_lt_iff_lt_mul Big.B_pos]
     have a : (f k + 1) * 2 ^ p ≤ Big.B * 2 ^ p := Nat.mul_le_mul_right _ (HS.out.ws k)
     rw [Nat.add_mul, Nat.one_mul] at a
     have := HZ.out
     rw [Nat.mul_comm (2 ^ p) Big.B]
     omega
    have hq4 : (f k * 2 ^ p + z) / Big.B < 4294967296 := half_lt o2
    have hr : (f k * 2 ^ p + z) % Big.B < Big.B := Nat.mod_lt _ Big.B_pos
    have e1 := lo32 (f k * 2 ^ p + z)
    have e2 : ((f k * 2 ^ p + z : Nat) : Int) / 4294967296 = (((f k * 2 ^ p + z) / Big.B : Nat) : Int) := by unfold Big.B; omega
    generalize (f k * 2 ^ p + z) % Big.B = r at *
    generalize (f k * 2 ^ p + z) / Big.B = q2 at *
    generalize f k * 2 ^ p + z = y at *
    clear dm
    unfold B at o2
    go_wp2_with (first
     | (at_builtin; refine wpList_append_own _ rfl _ _ 46 rfl w.heap.size 70 i0 (.int .u32 0) 1 4 Big.und_big hi hz0 hz1 hz2 rfl (by decide) _ _ _ rfl (hown.alloc _) ⟨wr.heap.size, 0, none⟩ 1 1 [.int .u32 (r : Int)] rfl rfl (World.news_of_block (cs := #[.int .u32 (r : Int)]) (t := 70) (fr := (0, 0)) (heap_alloc_new wr _)) (by simp [Value.oneCell']) (by unfold maxLen; omega) (by omega) (by rw [World.size_alloc]; omega) ?_)
     | go_in)
    intro v' w3 hown' hgrow hnil
    have hb3 : Below w.heap.size w w3 := (hbl.alloc (by omega) _).grown hgrow (by rw [World.size_alloc]; omega) (fun q hq => (hown.lt q hq).1)
    have HO3 : Hid (w3.ownsRow w.heap.size 70 1 v' (q + (k + 1)) (dV .u32 (Big.put F (q + k) r) (q + (k + 1))) ∧ Below w.heap.size w w3) := ⟨by rw [← Nat.add_assoc, dV_put]; exact hown', hb3⟩
    clear hown' hb3 hgrow hnil hown hbl
    go_wp2
    go_roundw
    case rel =>
     refine ⟨k + 1, q2, Big.put F (q + k) r, rfl, by go_num, by omega, hqz, hq4, Big.put_Ws hF hr, HO3.out.1, HO3.out.2, ?_⟩
     show _ = _
     rw [← Nat.add_assoc, V_putB, Nat.pow_succ]
     exact HST.out
    case measure => simp [intOf]; omega
  · obtain rfl : k = n := by omega
    have e1 : IntKind.u32.wrap (z : Int) = (z : Int) := by rw [IntKind.wrap_u32]; omega
    have HE : Hid (Big.V (Big.put F (q + k) z) (q + k + 1) = Big.V f k * 2 ^ s) := by
     show _ = _
     rw [V_putB, HV.out]
    have hw : Big.Ws (Big.put F (q + k) z) := Big.put_Ws hF (by unfold Big.B; omega)
    go_wp2_with (first
     | (at_builtin; refine wpList_append_own _ rfl _ _ 46 rfl w.heap.size 70 i0 (.int .u32 0) 1 4 Big.und_big hi hz0 hz1 hz2 rfl (by decide) _ _ _ rfl (hown.alloc _) ⟨wr.heap.size, 0, none⟩ 1 1 [.int .u32 (z : Int)] rfl rfl (World.news_of_block (cs := #[.int .u32 (z : Int)]) (t := 70) (fr := (0, 0)) (heap_alloc_new wr _)) (by simp [Value.oneCell']) (by unfold maxLen; omega) (by omega) (by rw [World.size_alloc]; omega) ?_)
     | go_in)
    intro v' w3 hown' hgrow hnil
    have hb3 : Below w.heap.size w w3 := (hbl.alloc (by omega) _).grown hgrow (by rw [World.size_alloc]; omega) (fun q hq => (hown.lt q hq).1)
    rw [← dV_put] at hown'
    obtain ⟨ao', c', b', rfl, S3, hnw⟩ := Big.own_sl hown' hw
    have T := Big.trim_any S3
    have NV := S3.trimmedN hnw
    clear hnw
    rw [HE.out] at NV
    clear hown' hgrow hnil hown hbl
    go_wp2_with fail
    refine T.mono ?_
    rintro e wa ⟨rfl, rfl⟩
    go_wp2
    go_ret
    exact ⟨_, rfl, NV, hb3⟩
theorem up_new {w : World} {va : Value} {X : Nat} (ha : Big.NatV w va X) (hX : Fits 1000 X) (s : Nat) (hs : s ≤ 32000) :
 Calls Tryz.prog 50 #[va, .int .i64 (s : Int)] w fun e w' => ∃ v, e = .returned v ∧ Big.NewV w' w.heap.size v (X * 2 ^ s) ∧ Below w.heap.size w w' := by
 obtain ⟨ao, n, c, b, o, f, rfl, S, t, rfl⟩ := ha
 have hn := big_len t hX
 by_cases h0 : n = 0
 · subst h0
   rw [show Big.V f 0 * 2 ^ s = 0 by rw [Big.V_zero, Nat.zero_mul]]
   clear S t hX
   go_enter Tryz.func50, Tryz.ntmps50
   go_wp2
   go_ret
   exact ⟨_, rfl, Big.newv_nil _ _, Below.refl _ _⟩
 · exact up_big S (by omega) hn s (s / 32) (s % 32) (by omega) (by omega) (by omega)
theorem up_any {w : World} {va : Value} {X : Nat} (ha : Big.NatV w va X) (hX : Fits 1000 X) (s : Nat) (hs : s ≤ 32000) :
 Calls Tryz.prog 50 #[va, .int .i64 (s : Int)] w fun e w' => ∃ v, e = .returned v ∧ Big.NatV w' v (X * 2 ^ s) ∧ Below w.heap.size w w' :=
 (up_new ha hX s hs).mono fun _ _ ⟨v, e, n, b⟩ => ⟨v, e, n.nat, b⟩
theorem Big.Row.set {w : World} {g N : Nat} {F : Nat → Nat} (R : Big.Row w g N F) (i : Nat) {r : Nat} (hr : r < Big.B) : Big.Row (w.setCell ⟨g, i, none⟩ (.int .u32 (r : Int))) g N (Big.put F i r) := by
 refine ⟨(R.row.set i (.int .u32 (r : Int))).congr fun j hj => ?_, Big.put_Ws R.ws hr⟩
 unfold Big.put
 by_cases c : j = i
 · rw [if_pos c, if_pos c]
 · rw [if_neg c, if_neg c]
theorem Big.Row.sl0 {w : World} {g N : Nat} {F : Nat → Nat} (R : Big.Row w g N F) (hN : N ≤ maxLen) : Big.Sl w (some ⟨g, 0, none⟩) N N g 0 F :=
 ⟨Nat.le_refl _, hN, fun _ => rfl, fun _ => R.row.lt, fun i hi => by rw [Nat.zero_add]; exact R.row.cell hi, R.ws⟩
theorem Big.made_row (w : World) (n : Nat) : Big.Row (w.alloc (.cells (madeCells #[.int .u32 0] n) 70)) w.heap.size n (fun _ => 0) := ⟨World.rowIs_made _ _ _ _, fun _ => Big.B_pos⟩
theorem small_nat (x : Nat) (hx : x < B) (w : World) :
 Calls Tryz.prog 21 #[.int .u64 (x : Int)] w fun e w' => ∃ v, e = .returned v ∧ Big.NatV w' v x ∧ Below w.heap.size w w' := by
 have e1 := lo32 x
 have e2 := hi32 hx
 have h1 : x % Big.B < Big.B := Nat.mod_lt _ Big.B_pos
 have h2 : x / Big.B < Big.B := half_lt hx
 have hS : ∀ W : World, Big.Sl (W.alloc (.cells #[.int .u32 ((x % Big.B : Nat) : Int), .int .u32 ((x / Big.B : Nat) : Int)] 70)) (some ⟨W.heap.size, 0, none⟩) 2 2 W.heap.size 0 (halves (fun _ => x)) := fun W =>
  ⟨Nat.le_refl _, by unfold maxLen; omega, fun _ => rfl, fun _ => by simp, fun i hi => by
   rcases (by omega : i = 0 ∨ i = 1) with rfl | rfl
   · simp [halves]
   · simp [halves], halves_Ws (fun _ => hx)⟩
 have hV : Big.V (halves (fun _ => x)) 2 = x := by
  have := halves_V (fun _ => x) 1
  rw [this, V_succ, V_zero, Nat.pow_zero]; omega
 have HS : Hid (∀ W : World, Big.Sl (W.alloc (.cells #[.int .u32 ((x % Big.B : Nat) : Int), .int .u32 ((x / Big.B : Nat) : Int)] 70)) (some ⟨W.heap.size, 0, none⟩) 2 2 W.heap.size 0 (halves (fun _ => x))) := hS
 have HV : Hid (Big.V (halves (fun _ => x)) 2 = x) := hV
 clear hS hV
 generalize x % Big.B = lo at *
 generalize x / Big.B = hi at *
 have T := Big.trim_any (HS.out w)
 have NV := (HS.out w).trimmed
 rw [HV.out] at NV
 go_enter Tryz.func21, Tryz.ntmps21
 go_wp2_with fail
 refine T.mono ?_
 rintro e wa ⟨rfl, rfl⟩
 go_wp2
 go_ret
 exact ⟨_, rfl, NV, (Below.refl _ _).alloc (Nat.le_refl _) _⟩
theorem times_big {w : World} {ao : Option Addr} {n c ba oa : Nat} {f : Nat → Nat} (S : Big.Sl w ao n c ba oa f) {bo : Option Addr} {m cb bb ob : Nat} {g : Nat → Nat} (S' : Big.Sl w bo m cb bb ob g) (hn : n ≤ 1000) (hm : m ≤ 1000) :
 Calls Tryz.prog 19 #[.slice ao n c, .slice bo m cb] w fun e w' => ∃ v, e = .returned v ∧ Big.NatV w' v (Big.V f n * Big.V g m) ∧ Below w.heap.size w w' := by
 have hmk := run_make_row' (P := Tryz.prog) 46 70 (.int .u32 0) 4 Big.und_big Big.info_u32 rfl .i64 .i64 (n + m) (by omega) (by omega)
 simp only [Int.natCast_add] at hmk
 have HS : Hid (Big.Sl w ao n c ba oa f) := S
 have HS' : Hid (Big.Sl w bo m cb bb ob g) := S'
 clear S S'
 go_enter Tryz.func19, Tryz.ntmps19
 go_wp2
 go_loopw [6] (fun i wr => ∃ (k : Nat) (F' : Nat → Nat), i = .int .i64 (k : Int) ∧ k ≤ n ∧ Big.Row wr w.heap.size (n + m) F' ∧ Below w.heap.size w wr ∧ (∀ j, k + m ≤ j → F' j = 0) ∧ Big.V F' (k + m) = Big.V f k * Big.V g m) (fun i _ => n - (intOf i).toNat)
 case atStart => exact ⟨0, fun _ => 0, rfl, Nat.zero_le _, Big.made_row _ _, (Below.refl _ _).alloc (Nat.le_refl _) _, fun _ _ => rfl, by rw [Big.V_nought, Big.V_zero, Nat.zero_mul]⟩
 case round =>
  obtain ⟨k, F', rfl, hk, R', hbl, hz, hv⟩ := hrel
  have HZ : Hid (∀ j, k + m ≤ j → F' j = 0) := hz
  have HV : Hid (Big.V F' (k + m) = Big.V f k * Big.V g m) := hv
  have HB : Hid (Below w.heap.size w wr) := hbl
  have HR : Hid (Big.Row wr w.heap.size (n + m) F') := R'
  clear hz hv
  by_cases c1 : k < n
  · obtain rfl := HS.out.addr (by omega)
    have hxB := HS.out.ws k
    unfold Big.B at hxB
    clear hbl R'
    go_wp2
    go_loopw [7, 8] (fun cy i w2 => ∃ (j v : Nat) (F2 : Nat → Nat), cy = .int .u64 (v : Int) ∧ i = .int .i64 (j : Int) ∧ j ≤ m ∧ v < 4294967296 ∧ Big.Row w2 w.heap.size (n + m) F2 ∧ Below w.heap.size w w2 ∧ (∀ t, t < k ∨ k + j ≤ t → F2 t = F' t) ∧ Big.V (fun t => F2 (k + t)) j + v * Big.B ^ j = Big.V (fun t => F' (k + t)) j + Big.V g j * f k) (fun _ i _ => m - (intOf i).toNat)
    case atStart => exact ⟨0, 0, F', rfl, rfl, Nat.zero_le _, by omega, HR.out, HB.out, fun _ _ => rfl, by simp [Big.V]⟩
    case round =>
     obtain ⟨j, v, F2, rfl, rfl, hj, hv4, R2, hb2, hfr, hVV⟩ := hrel
     have HF : Hid (∀ t, t < k ∨ k + j ≤ t → F2 t = F' t) := hfr
     have HVV : Hid (Big.V (fun t => F2 (k + t)) j + v * Big.B ^ j = Big.V (fun t => F' (k + t)) j + Big.V g j * f k) := hVV
     have HR2 : Hid (Big.Row wr w.heap.size (n + m) F2) := R2
     have HB2 : Hid (Below w.heap.size w wr) := hb2
     clear hfr hVV
     by_cases c2 : j < m
     · obtain rfl := HS'.out.addr (by omega)
       have ca := (HS.out.below hb2).cell k c1
       have cb' := (HS'.out.below hb2).cell j c2
       have cz := R2.row.cell (i := k + j) (by omega)
       have fz := R2.row.frozen (k + j)
       have hyB := HS'.out.ws j
       have hzB := R2.ws (k + j)
       unfold Big.B at hyB hzB
       have pm : ((f k : Nat) : Int) * ((g j : Nat) : Int) = ((f k * g j : Nat) : Int) := by rw [Int.natCast_mul]
       have pl : f k * g j ≤ 18446744065119617025 := Nat.mul_le_mul (show f k ≤ 4294967295 by omega) (show g j ≤ 4294967295 by omega)
       have dm := Nat.div_add_mod (v + F2 (k + j) + f k * g j) Big.B
       have st := times_step (β := Big.B) (y := g j) (z := F2 (k + j)) (l := (v + F2 (k + j) + f k * g j) % Big.B) (d := (v + F2 (k + j) + f k * g j) / Big.B) HVV.out (by rw [Nat.mul_comm _ Big.B]; omega)
       have hr : (v + F2 (k + j) + f k * g j) % Big.B < Big.B := Nat.mod_lt _ Big.B_pos
       have hq : (v + F2 (k + j) + f k * g j) / Big.B < 4294967296 := by unfold Big.B; omega
       have e1 : IntKind.u32.wrap ((v : Int) + ((F2 (k + j) : Nat) : Int) + ((f k * g j : Nat) : Int)) = (((v + F2 (k + j) + f k * g j) % Big.B : Nat) : Int) := by rw [IntKind.wrap_u32]; unfold Big.B; omega
       have e2 : ((v : Int) + ((F2 (k + j) : Nat) : Int) + ((f k * g j : Nat) : Int)) / 4294967296 = (((v + F2 (k + j) + f k * g j) / Big.B : Nat) : Int) := by unfold Big.B; omega
       have HFK : Hid (F2 (k + j) = F' (k + j)) := HF.out _ (Or.inr (by omega))
       have HST := (show Hid _ from st)
       clear st dm R2 hb2
       generalize (v + F2 (k + j) + f k * g j) % Big.B = r at *
       generalize (v + F2 (k + j) + f k * g j) / Big.B = q at *
       generalize f k * g j = P at *
       have i1 : (0 : Int) ≤ (k : Int) + (j : Int) := by omega
       have i2 : (k : Int) + (j : Int) < (n : Int) + (m : Int) := by omega
       have i3 : (k : Int) < (n : Int) := by omega
       have i4 : (j : Int) < (m : Int) := by omega
       have i5 : IntKind.i64.wrap ((k : Int) + (j : Int)) = (k : Int) + (j : Int) := by rw [IntWalk.i64_left, IntWalk.wrap64_in _ ⟨by omega, by omega⟩]
       have i6 : ((k : Int) + (j : Int)).toNat = k + j := by omega
       have u1 : IntKind.u64.wrap ((F2 (k + j) : Nat) : Int) = ((F2 (k + j) : Nat) : Int) := by rw [IntKind.wrap_u64]; omega
       have u2 : IntKind.u64.wrap ((v : Int) + ((F2 (k + j) : Nat) : Int)) = (v : Int) + ((F2 (k + j) : Nat) : Int) := by rw [IntKind.wrap_u64]; omega
       have u3 : IntKind.u64.wrap ((f k : Nat) : Int) = ((f k : Nat) : Int) := by rw [IntKind.wrap_u64]; omega
       have u4 : IntKind.u64.wrap ((g j : Nat) : Int) = ((g j : Nat) : Int) := by rw [IntKind.wrap_u64]; omega
       have u5 : IntKind.u64.wrap (P : Int) = (P : Int) := by rw [IntKind.wrap_u64]; omega
       have u6 : IntKind.u64.wrap ((v : Int) + ((F2 (k + j) : Nat) : Int) + (P : Int)) = (v : Int) + ((F2 (k + j) : Nat) : Int) + (P : Int) := by rw [IntKind.wrap_u64]; omega
       go_wp2
       go_region_held3 (fun w' => w'.cell? ⟨w.heap.size, k + j, none⟩ = some (.int .u32 ((F2 (k + j) : Nat) : Int)) ∧ w'.cell? ⟨ba, oa + k, none⟩ = some (.int .u32 ((f k : Nat) : Int)) ∧ w'.cell? ⟨bb, ob + j, none⟩ = some (.int .u32 ((g j : Nat) : Int))) (go_keep) (fail)
       go_wp2
       go_roundw
       case rel =>
        refine ⟨j + 1, q, Big.put F2 (k + j) r, rfl, by go_num, by omega, hq, HR2.out.drew.set (k + j) hr, HB2.out.drew.setCell (Nat.le_refl _) _, ?_, ?_⟩
        · intro t ht
          rw [Big.put_ne (by omega)]
          exact HF.out t (by omega)
        · have e : Big.V (fun t => Big.put F2 (k + j) r (k + t)) (j + 1) = Big.V (fun t => F2 (k + t)) j + r * Big.B ^ j := by
           rw [Big.V_succ, Big.V_congr (f := fun t => Big.put F2 (k + j) r (k + t)) (g := fun t => F2 (k + t)) (fun i hi => Big.put_ne (by omega)), Big.put_at]
          rw [e, Big.V_succ (fun t => F' (k + t)), Big.V_succ g, Nat.pow_succ]
          have s := HST.out
          rw [HFK.out] at s
          exact s
       case measure => simp [intOf]; omega
     · obtain rfl : j = m := by omega
       have cz := R2.row.cell (i := k + j) (by omega)
       have fz := R2.row.frozen (k + j)
       have e1 : IntKind.u32.wrap (v : Int) = (v : Int) := by rw [IntKind.wrap_u32]; omega
       have hvB : v < Big.B := hv4
       clear R2 hb2
       go_wp2
       go_roundw
       case rel =>
        refine ⟨k + 1, Big.put F2 (k + j) v, by go_num, by omega, HR2.out.set (k + j) hvB, HB2.out.setCell (Nat.le_refl _) _, ?_, ?_⟩
        · intro t ht
          rw [Big.put_ne (by omega), HF.out t (by omega)]
          exact HZ.out t (by omega)
        · have e1 : Big.V (Big.put F2 (k + j) v) (k + 1 + j) = Big.V F2 (k + j) + v * Big.B ^ (k + j) := by
           rw [show k + 1 + j = k + j + 1 by omega, Big.V_succ, Big.V_put_low (Nat.le_refl _), Big.put_at]
          have e2 := Big.V_split F2 k j
          have e3 := Big.V_split F' k j
          have e4 : Big.V F2 k = Big.V F' k := Big.V_congr fun i hi => HF.out i (by omega)
          rw [e4] at e2
          rw [e1, e2, Big.V_succ f k, Nat.pow_add]
          have e5 := mult_gen (p := Big.B ^ k) HVV.out (u := Big.V F' k) (a := Big.V f k) (by rw [← e3]; exact HV.out)
          rw [← e5]
          exact split_gen2
       case measure => simp [intOf]; omega
  · obtain rfl : k = n := by omega
    have T := Big.trim_any (R'.sl0 (by unfold maxLen; omega))
    have NV := (R'.sl0 (by unfold maxLen; omega)).trimmed
    rw [HV.out] at NV
    clear R'
    go_wp2_with fail
    refine T.mono ?_
    rintro e wa ⟨rfl, rfl⟩
    go_wp2
    go_ret
    exact ⟨_, rfl, NV, hbl⟩
theorem times_nat {w : World} {va vb : Value} {X Y : Nat} (ha : Big.NatV w va X) (hb : Big.NatV w vb Y) (hX : Fits 1000 X) (hY : Fits 1000 Y) :
 Calls Tryz.prog 19 #[va, vb] w fun e w' => ∃ v, e = .returned v ∧ Big.NatV w' v (X * Y) ∧ Below w.heap.size w w' := by
 obtain ⟨ao, n, c, b, o, f, rfl, S, t, rfl⟩ := ha
 obtain ⟨bo, m, cb, bb, ob, g, rfl, S', t', rfl⟩ := hb
 exact times_big S S' (big_len t hX) (big_len t' hY)
def Fz (s : Int) (g n f T : Nat) (L : Int) : Prop :=
 (s = 32 ∧ g = 2147483648 ∧ n = 2139095040 ∧ f = 23 ∧ T = 255 ∧ L = -149) ∨ (s = 64 ∧ g = 9223372036854775808 ∧ n = 9218868437227405312 ∧ f = 52 ∧ T = 2047 ∧ L = -1074)
theorem fits_shl {k X s : Nat} (h : Fits k X) : Fits (k + (s / 32 + 1)) (X * 2 ^ s) := h.mul (two_fits (by omega))
end Go.Proofs.YtohhmobfmmeohaaGreatDoor
