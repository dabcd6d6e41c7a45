/-
  What the document's Cmp and sub of layer 13 answer.
-/
import Derived.Test.YtohbggdkopmpfaaDoorPwA
import Derived.RegionTactic
import Derived.ChangeAlike
import Derived.BigRegion
namespace Go.Proofs.YtohbggdkopmpfaaDoor
open Go.RowKit

theorem ord_lt {x y : Nat} (h : x < y) : ord x y = -1 := by unfold ord; rw [if_pos h]
theorem ord_gt {x y : Nat} (h : y < x) : ord x y = 1 := by unfold ord; rw [if_neg (by omega), if_pos h]
theorem ord_eq {x y : Nat} (h : x = y) : ord x y = 0 := by unfold ord; rw [if_neg (by omega), if_neg (by omega)]

set_option maxRecDepth 100000 in
set_option maxHeartbeats 1000000 in
theorem dcmp_big {w : World} {ao : Option Addr} {n c b o : Nat} {f : Nat → Nat} (S : Big.D.Sl w ao n c b o f) {ao' : Option Addr} {n' c' b' o' : Nat} {f' : Nat → Nat} (S' : Big.D.Sl w ao' n' c' b' o' f') (t : Big.Top f n) (t' : Big.Top f' n') :
    Calls Tryd.prog 49 #[.slice ao n c, .slice ao' n' c'] w fun e w' => e = .returned (.int .i64 (ord (Big.V f n) (Big.V f' n'))) ∧ Below w.heap.size w w' := by
  have hn : n ≤ maxLen := Nat.le_trans S.le S.cap
  have hn' : n' ≤ maxLen := Nat.le_trans S'.le S'.cap
  unfold maxLen at hn hn'
  rcases Nat.lt_trichotomy n n' with d | d | d
  · have e := ord_lt (Big.len_lt S.ws t' d)
    rw [e]
    clear e
    go_enter Tryd.func49, Tryd.ntmps49
    go_wp2
    go_ret
    exact ⟨rfl, Below.refl _ _⟩
  · subst d
    have HS : Hid (Big.D.Sl w ao n c b o f) := S
    have HS' : Hid (Big.D.Sl w ao' n c' b' o' f') := S'
    clear S S' t t'
    go_enter Tryd.func49, Tryd.ntmps49
    go_wp2
    go_loopw [5] (fun i wr => ∃ k : Nat, i = .int .i64 ((k : Int) - 1) ∧ k ≤ n ∧ Below w.heap.size w wr ∧ ∀ j, k ≤ j → j < n → f j = f' j) (fun i _ => (intOf i + 1).toNat)
    case atStart => exact ⟨n, rfl, Nat.le_refl _, Below.refl _ _, fun j a b => absurd a (by omega)⟩
    case round =>
      obtain ⟨k, rfl, hk, al, heq⟩ := hrel
      have HA : Hid (Below w.heap.size w wr) := al
      have HE : Hid (∀ j, k ≤ j → j < n → f j = f' j) := heq
      clear heq
      by_cases c1 : 0 < k
      · obtain rfl := HS.out.addr (by omega)
        obtain rfl := HS'.out.addr (by omega)
        have hc := (HS.out.below al).cell (k - 1) (by omega)
        have hc' := (HS'.out.below al).cell (k - 1) (by omega)
        clear al
        have ix : ((k : Int) - 1).toNat = k - 1 := by omega
        rcases Nat.lt_trichotomy (f (k - 1)) (f' (k - 1)) with q | q | q
        · have r := ord_lt (Big.V_lt_at HS.out.ws q (n := n) (by omega) (fun j a b => HE.out j (by omega) b))
          have HR : Hid (ord (Big.V f n) (Big.V f' n) = -1) := r
          have q2 : ((f (k - 1) : Nat) : Int) < ((f' (k - 1) : Nat) : Int) := by omega
          clear r q
          go_wp2
          go_region
          all_goals
            go_wp2
            go_ret
            exact ⟨by rw [HR.out]; rfl, HA.out.drew⟩
        · have q1 : ¬ ((f (k - 1) : Nat) : Int) < ((f' (k - 1) : Nat) : Int) := by omega
          have q2 : ¬ ((f' (k - 1) : Nat) : Int) < ((f (k - 1) : Nat) : Int) := by omega
          have HQ : Hid (f (k - 1) = f' (k - 1)) := q
          clear q
          go_wp2
          go_region
          all_goals
            go_wp2
            go_region
            all_goals
              go_wp2
              go_roundw
              case rel =>
                refine ⟨k - 1, by go_num, by omega, HA.out.drew.drew, fun j a b => ?_⟩
                by_cases z : j = k - 1
                · rw [z]; exact HQ.out
                · exact HE.out j (by omega) b
              case measure => simp [intOf]; omega
        · have r := ord_gt (Big.V_lt_at HS'.out.ws q (n := n) (by omega) (fun j a b => (HE.out j (by omega) b).symm))
          have HR : Hid (ord (Big.V f n) (Big.V f' n) = 1) := r
          have q1 : ¬ ((f (k - 1) : Nat) : Int) < ((f' (k - 1) : Nat) : Int) := by omega
          have q2 : ((f' (k - 1) : Nat) : Int) < ((f (k - 1) : Nat) : Int) := by omega
          clear r q
          go_wp2
          go_region
          all_goals
            go_wp2
            go_region
            all_goals
              go_wp2
              go_ret
              exact ⟨by rw [HR.out]; rfl, HA.out.drew.drew⟩
      · obtain rfl : k = 0 := by omega
        have HR : Hid (ord (Big.V f n) (Big.V f' n) = 0) := ord_eq (Big.V_congr fun i hi => HE.out i (Nat.zero_le _) hi)
        clear HE c1
        go_wp2
        go_ret
        exact ⟨by rw [HR.out]; rfl, HA.out⟩
  · have e := ord_gt (Big.len_lt S'.ws t d)
    rw [e]
    clear e
    go_enter Tryd.func49, Tryd.ntmps49
    go_wp2
    go_ret
    exact ⟨rfl, Below.refl _ _⟩
theorem dcmp_nat {w : World} {va vb : Value} {X Y : Nat} (ha : Big.D.NatV w va X) (hb : Big.D.NatV w vb Y) :
    Calls Tryd.prog 49 #[va, vb] w fun e w' => e = .returned (.int .i64 (ord X Y)) ∧ Below w.heap.size w w' := by
  obtain ⟨ao, n, c, b, o, f, rfl, S, t, rfl⟩ := ha
  obtain ⟨bo, m, cb, bb, ob, g, rfl, S', t', rfl⟩ := hb
  exact dcmp_big S S' t t'
set_option maxRecDepth 100000 in
set_option maxHeartbeats 2000000 in
theorem dsub_big {w : World} {ao : Option Addr} {n c b o : Nat} {f : Nat → Nat} (S : Big.D.Sl w ao n c b o f) {bo : Option Addr} {m cb bb ob : Nat} {g : Nat → Nat} (S' : Big.D.Sl w bo m cb bb ob g) (hn : n ≤ 10000) (hmn : m ≤ n) (hle : Big.V g m ≤ Big.V f n) :
    Calls Tryd.prog 69 #[.slice ao n c, .slice bo m cb] w fun e w' => ∃ v, e = .returned v ∧ Big.D.NewV w' w.heap.size v (Big.V f n - Big.V g m) ∧ Below w.heap.size w w' := by
  obtain ⟨i0, hi, hz0, hz1, hz2⟩ := info_parts Big.D.info_u64
  have HS : Hid (Big.D.Sl w ao n c b o f) := S
  have HS' : Hid (Big.D.Sl w bo m cb bb ob g) := S'
  have HLE : Hid (Big.V g m ≤ Big.V f n) := hle
  clear S S' hle
  go_enter Tryd.func69, Tryd.ntmps69
  go_wp2
  go_loopw [5, 6, 7] (fun v cy i wr => ∃ (k x : Nat) (F : Nat → Nat), cy = .int .u64 (x : Int) ∧ i = .int .i64 (k : Int) ∧ k ≤ n ∧ x ≤ 1 ∧ Big.Ws F ∧ wr.ownsRow w.heap.size 22 1 v k (dV .u64 F k) ∧ Below w.heap.size w wr ∧ Big.V F k + Big.V (cut g m) k = Big.V f k + x * Big.B ^ k) (fun _ _ i _ => n - (intOf i).toNat)
  case atStart => exact ⟨0, 0, fun _ => 0, rfl, rfl, Nat.zero_le _, by omega, fun _ => Big.B_pos, World.ownsRow_nil _ _ _ _, Below.refl _ _, rfl⟩
  case round =>
    obtain ⟨k, x, F, rfl, rfl, hk, hx, hF, hown, hbl, hv⟩ := hrel
    have hsz := hbl.size
    have HV : Hid (Big.V F k + Big.V (cut g m) k = Big.V f k + x * Big.B ^ k) := hv
    have bf := HS.out.ws k
    have bg := HS'.out.ws k
    unfold Big.B at bf bg
    clear hv
    by_cases c1 : k < n
    · obtain rfl := HS.out.addr (by omega)
      have hc := (HS.out.below hbl).cell k c1
      by_cases c2 : k < m
      · by_cases c3 : f k < g k + x
        · skip
          obtain rfl := HS'.out.addr (by omega)
          have hc' := (HS'.out.below hbl).cell k c2
          obtain ⟨r, hr⟩ : ∃ r : Nat, r = f k + 4294967296 - g k - x := ⟨_, rfl⟩
          have st := Big.sub_step (y := g k) (x := f k) (l := r) (d := 1) (β := Big.B) HV.out (by unfold Big.B; omega)
          have hrB : r < Big.B := by unfold Big.B; omega
          have e1 : ((f k : Nat) : Int) + 4294967296 - ((x : Int) + ((g k : Nat) : Int)) = (r : Int) := by omega
          have hlt : ¬ (x : Int) + ((g k : Nat) : Int) ≤ ((f k : Nat) : Int) := by omega
          have HST := (show Hid _ from st)
          clear st hr
          go_wp2_with (first
            | (at_builtin; refine wpList_append_own _ rfl _ _ 66 rfl w.heap.size 22 i0 (.int .u64 0) 1 8 Big.D.und_big13 hi hz0 hz1 hz2 rfl (by decide) _ _ _ rfl (hown.alloc _) ⟨wr.heap.size, 0, none⟩ 1 1 [.int .u64 (r : Int)] rfl rfl (World.news_of_block (cs := #[.int .u64 (r : Int)]) (t := 22) (fr := (0, 0)) (heap_alloc_new wr _)) (by simp [Value.oneCell']) (by unfold maxLen; omega) (by omega) (by rw [World.size_alloc]; omega) ?_)
            | go_in)
          intro v' w3 hown' hgrow hnil
          have hb3 : Below w.heap.size w w3 := (hbl.alloc (by omega) _).grown hgrow (by rw [World.size_alloc]; omega) (fun q hq => (hown.lt q hq).1)
          have HO3 : Hid (w3.ownsRow w.heap.size 22 1 v' (k + 1) (dV .u64 (Big.put F k r) (k + 1)) ∧ Below w.heap.size w w3) := ⟨by rw [dV_put]; exact hown', hb3⟩
          clear hown' hb3 hgrow hnil hown hbl
          go_wp2
          go_roundw
          case rel =>
            refine ⟨k + 1, 1, Big.put F k r, rfl, by go_num, by omega, by omega, Big.put_Ws hF hrB, HO3.out.1, HO3.out.2, ?_⟩
            rw [V_putB, Big.V_succ, Big.V_succ, Nat.pow_succ, cut_in c2]
            exact HST.out
          case measure => simp [intOf]; omega
        · skip
          obtain rfl := HS'.out.addr (by omega)
          have hc' := (HS'.out.below hbl).cell k c2
          obtain ⟨r, hr⟩ : ∃ r : Nat, r = f k - g k - x := ⟨_, rfl⟩
          have st := Big.sub_step (y := g k) (x := f k) (l := r) (d := 0) (β := Big.B) HV.out (by unfold Big.B; omega)
          have hrB : r < Big.B := by unfold Big.B; omega
          have e1 : ((f k : Nat) : Int) - ((x : Int) + ((g k : Nat) : Int)) = (r : Int) := by omega
          have hlt : (x : Int) + ((g k : Nat) : Int) ≤ ((f k : Nat) : Int) := by omega
          have HST := (show Hid _ from st)
          clear st hr
          go_wp2_with (first
            | (at_builtin; refine wpList_append_own _ rfl _ _ 66 rfl w.heap.size 22 i0 (.int .u64 0) 1 8 Big.D.und_big13 hi hz0 hz1 hz2 rfl (by decide) _ _ _ rfl (hown.alloc _) ⟨wr.heap.size, 0, none⟩ 1 1 [.int .u64 (r : Int)] rfl rfl (World.news_of_block (cs := #[.int .u64 (r : Int)]) (t := 22) (fr := (0, 0)) (heap_alloc_new wr _)) (by simp [Value.oneCell']) (by unfold maxLen; omega) (by omega) (by rw [World.size_alloc]; omega) ?_)
            | go_in)
          intro v' w3 hown' hgrow hnil
          have hb3 : Below w.heap.size w w3 := (hbl.alloc (by omega) _).grown hgrow (by rw [World.size_alloc]; omega) (fun q hq => (hown.lt q hq).1)
          have HO3 : Hid (w3.ownsRow w.heap.size 22 1 v' (k + 1) (dV .u64 (Big.put F k r) (k + 1)) ∧ Below w.heap.size w w3) := ⟨by rw [dV_put]; exact hown', hb3⟩
          clear hown' hb3 hgrow hnil hown hbl
          go_wp2
          go_roundw
          case rel =>
            refine ⟨k + 1, 0, Big.put F k r, rfl, by go_num, by omega, by omega, Big.put_Ws hF hrB, HO3.out.1, HO3.out.2, ?_⟩
            rw [V_putB, Big.V_succ, Big.V_succ, Nat.pow_succ, cut_in c2]
            exact HST.out
          case measure => simp [intOf]; omega
      · by_cases c3 : f k < x
        · skip
          obtain ⟨r, hr⟩ : ∃ r : Nat, r = f k + 4294967296 - 0 - x := ⟨_, rfl⟩
          have st := Big.sub_step (y := 0) (x := f k) (l := r) (d := 1) (β := Big.B) HV.out (by unfold Big.B; omega)
          have hrB : r < Big.B := by unfold Big.B; omega
          have e1 : ((f k : Nat) : Int) + 4294967296 - (x : Int) = (r : Int) := by omega
          have hlt : ¬ (x : Int) ≤ ((f k : Nat) : Int) := by omega
          have HST := (show Hid _ from st)
          clear st hr
          go_wp2_with (first
            | (at_builtin; refine wpList_append_own _ rfl _ _ 66 rfl w.heap.size 22 i0 (.int .u64 0) 1 8 Big.D.und_big13 hi hz0 hz1 hz2 rfl (by decide) _ _ _ rfl (hown.alloc _) ⟨wr.heap.size, 0, none⟩ 1 1 [.int .u64 (r : Int)] rfl rfl (World.news_of_block (cs := #[.int .u64 (r : Int)]) (t := 22) (fr := (0, 0)) (heap_alloc_new wr _)) (by simp [Value.oneCell']) (by unfold maxLen; omega) (by omega) (by rw [World.size_alloc]; omega) ?_)
            | go_in)
          intro v' w3 hown' hgrow hnil
          have hb3 : Below w.heap.size w w3 := (hbl.alloc (by omega) _).grown hgrow (by rw [World.size_alloc]; omega) (fun q hq => (hown.lt q hq).1)
          have HO3 : Hid (w3.ownsRow w.heap.size 22 1 v' (k + 1) (dV .u64 (Big.put F k r) (k + 1)) ∧ Below w.heap.size w w3) := ⟨by rw [dV_put]; exact hown', hb3⟩
          clear hown' hb3 hgrow hnil hown hbl
          go_wp2
          go_roundw
          case rel =>
            refine ⟨k + 1, 1, Big.put F k r, rfl, by go_num, by omega, by omega, Big.put_Ws hF hrB, HO3.out.1, HO3.out.2, ?_⟩
            rw [V_putB, Big.V_succ, Big.V_succ, Nat.pow_succ, cut_out c2]
            exact HST.out
          case measure => simp [intOf]; omega
        · skip
          obtain ⟨r, hr⟩ : ∃ r : Nat, r = f k - 0 - x := ⟨_, rfl⟩
          have st := Big.sub_step (y := 0) (x := f k) (l := r) (d := 0) (β := Big.B) HV.out (by unfold Big.B; omega)
          have hrB : r < Big.B := by unfold Big.B; omega
          have e1 : ((f k : Nat) : Int) - (x : Int) = (r : Int) := by omega
          have hlt : (x : Int) ≤ ((f k : Nat) : Int) := by omega
          have HST := (show Hid _ from st)
          clear st hr
          go_wp2_with (first
            | (at_builtin; refine wpList_append_own _ rfl _ _ 66 rfl w.heap.size 22 i0 (.int .u64 0) 1 8 Big.D.und_big13 hi hz0 hz1 hz2 rfl (by decide) _ _ _ rfl (hown.alloc _) ⟨wr.heap.size, 0, none⟩ 1 1 [.int .u64 (r : Int)] rfl rfl (World.news_of_block (cs := #[.int .u64 (r : Int)]) (t := 22) (fr := (0, 0)) (heap_alloc_new wr _)) (by simp [Value.oneCell']) (by unfold maxLen; omega) (by omega) (by rw [World.size_alloc]; omega) ?_)
            | go_in)
          intro v' w3 hown' hgrow hnil
          have hb3 : Below w.heap.size w w3 := (hbl.alloc (by omega) _).grown hgrow (by rw [World.size_alloc]; omega) (fun q hq => (hown.lt q hq).1)
          have HO3 : Hid (w3.ownsRow w.heap.size 22 1 v' (k + 1) (dV .u64 (Big.put F k r) (k + 1)) ∧ Below w.heap.size w w3) := ⟨by rw [dV_put]; exact hown', hb3⟩
          clear hown' hb3 hgrow hnil hown hbl
          go_wp2
          go_roundw
          case rel =>
            refine ⟨k + 1, 0, Big.put F k r, rfl, by go_num, by omega, by omega, Big.put_Ws hF hrB, HO3.out.1, HO3.out.2, ?_⟩
            rw [V_putB, Big.V_succ, Big.V_succ, Nat.pow_succ, cut_out c2]
            exact HST.out
          case measure => simp [intOf]; omega
    · obtain rfl : k = n := by omega
      have HE : Hid (Big.V F k = Big.V f k - Big.V g m) := by
        show _ = _
        have a := HV.out
        have b := HLE.out
        have l1 := Big.V_lt hF k
        rw [cut_V (by omega)] at a
        rcases (by omega : x = 0 ∨ x = 1) with rfl | rfl
        · omega
        · omega
      obtain ⟨ao', c', b', rfl, S3, hnw⟩ := Big.D.own_sl hown hF
      have T := Big.D.trim_any S3
      have NV := S3.trimmedN hnw
      rw [HE.out] at NV
      clear hown hnw
      go_wp2_with fail
      refine T.mono ?_
      rintro e wa ⟨rfl, rfl⟩
      go_wp2
      go_ret
      exact ⟨_, rfl, NV, hbl⟩
theorem dsub_new {w : World} {va vb : Value} {X Y : Nat} (ha : Big.D.NatV w va X) (hb : Big.D.NatV w vb Y) (hX : Fits 1000 X) (hle : Y ≤ X) :
    Calls Tryd.prog 69 #[va, vb] w fun e w' => ∃ v, e = .returned v ∧ Big.D.NewV w' w.heap.size v (X - Y) ∧ Below w.heap.size w w' := by
  obtain ⟨ao, n, c, b, o, f, rfl, S, t, rfl⟩ := ha
  obtain ⟨bo, m, cb, bb, ob, g, rfl, S', t', rfl⟩ := hb
  have := big_len t hX
  exact dsub_big S S' (by omega) (big_le_len S.ws t' hle) hle

end Go.Proofs.YtohbggdkopmpfaaDoor
