/-
  Older texts, as far as layer 17 asks them: the document's numbers of many digits; floats taken apart and put together.
-/
import Derived.Test.YtkmnkogbafhfdaaDoorHx1
namespace Go.Proofs.YtkmnkogbafhfdaaDoor
open Go.RowKit

namespace Big.D
/-- A slice of n digits that lie at the block b from the place o on. -/
structure Sl (w : World) (ao : Option Addr) (n c : Nat) (b o : Nat) (f : Nat → Nat) : Prop where
  le : n ≤ c
  cap : c ≤ maxLen
  addr : 0 < n → ao = some ⟨b, o, none⟩
  blk : 0 < n → b < w.heap.size
  cell : ∀ i, i < n → w.cell? ⟨b, o + i, none⟩ = some (.int .u64 (f i : Int))
  ws : Ws f
theorem Sl.below {w w' : World} {ao : Option Addr} {n c b o : Nat} {f : Nat → Nat} (S : Sl w ao n c b o f) (hb : Below w.heap.size w w') : Sl w' ao n c b o f :=
  ⟨S.le, S.cap, S.addr, fun h => Nat.lt_of_lt_of_le (S.blk h) hb.size, fun i hi => (hb.cell (p := ⟨b, o + i, none⟩) (S.blk (by omega))).trans (S.cell i hi), S.ws⟩
theorem Sl.shorter {w : World} {ao : Option Addr} {n c b o m : Nat} {f : Nat → Nat} (S : Sl w ao n c b o f) (h : m ≤ n) : Sl w ao m c b o f :=
  ⟨Nat.le_trans h S.le, S.cap, fun q => S.addr (by omega), fun q => S.blk (by omega), fun i hi => S.cell i (by omega), S.ws⟩
theorem own_sl {w : World} {base : Nat} {e : TypeId} {v : Value} {k : Nat} {F : Nat → Nat} (h : w.ownsRow base e 1 v k (dV .u64 F k)) (hF : Ws F) :
    ∃ ao c b, v = .slice ao k c ∧ Sl w ao k c b 0 F ∧ (0 < k → base ≤ b) := by
  obtain ⟨ao, c, b, rfl, h1, h2, h3, h4⟩ := own_cells h
  exact ⟨ao, c, b, rfl, ⟨h1, h2, fun q => (h3 q).1, fun q => (h3 q).2.1, h4, hF⟩, fun q => (h3 q).2.2⟩
/-- A value that is the document's number X. -/
def NatV (w : World) (v : Value) (X : Nat) : Prop := ∃ ao n c b o f, v = .slice ao n c ∧ Sl w ao n c b o f ∧ Top f n ∧ V f n = X
theorem NatV.below {w w' : World} {v : Value} {X : Nat} (h : NatV w v X) (hb : Below w.heap.size w w') : NatV w' v X := by
  obtain ⟨ao, n, c, b, o, f, e, S, r⟩ := h
  exact ⟨ao, n, c, b, o, f, e, S.below hb, r⟩
theorem natv_nil (w : World) : NatV w (.slice none 0 0) 0 :=
  ⟨none, 0, 0, 0, 0, fun _ => 0, rfl, ⟨Nat.le_refl _, Nat.zero_le _, fun h => absurd h (by omega), fun h => absurd h (by omega), fun i h => absurd h (by omega), fun _ => B_pos⟩, Or.inl rfl, rfl⟩
/-- What trim leaves of a slice. -/
theorem Sl.trimmed {w : World} {ao : Option Addr} {n c b o : Nat} {f : Nat → Nat} (S : Sl w ao n c b o f) : NatV w (.slice ao (tl f n) c) (V f n) :=
  ⟨_, _, _, _, _, f, rfl, S.shorter (tl_le f n), tl_top f n, tl_V f n⟩
/-- The same, in memory that is not below a block. -/
def NewV (w : World) (base : Nat) (v : Value) (X : Nat) : Prop := ∃ ao n c b o f, v = .slice ao n c ∧ Sl w ao n c b o f ∧ Top f n ∧ V f n = X ∧ (0 < n → base ≤ b)
theorem NewV.nat {w : World} {base : Nat} {v : Value} {X : Nat} (h : NewV w base v X) : NatV w v X := by
  obtain ⟨ao, n, c, b, o, f, e, S, t, r, _⟩ := h
  exact ⟨ao, n, c, b, o, f, e, S, t, r⟩
theorem Sl.trimmedN {w : World} {ao : Option Addr} {n c b o base : Nat} {f : Nat → Nat} (S : Sl w ao n c b o f) (h : 0 < n → base ≤ b) : NewV w base (.slice ao (tl f n) c) (V f n) :=
  ⟨_, _, _, _, _, f, rfl, S.shorter (tl_le f n), tl_top f n, tl_V f n, fun q => h (by have := tl_le f n; omega)⟩
theorem und_big13 : Tryd.prog.underlying 61 = some (.slice 24) := by kernel_rfl
theorem info_u64 : (Tryd.prog.info? 24).map (fun i => (i.zero, i.size, i.bytes)) = some (some (.int .u64 0), 1, 8) := by kernel_rfl
set_option maxHeartbeats 1000000 in
theorem trim_any {w : World} {ao : Option Addr} {n c b o : Nat} {f : Nat → Nat} (S : Sl w ao n c b o f) :
    Calls Tryd.prog 37 #[.slice ao n c] w fun e w' => e = .returned (.slice ao (tl f n) c) ∧ w' = w := by
  have hn : n ≤ maxLen := Nat.le_trans S.le S.cap
  have hnc := S.le
  have hcm := S.cap
  unfold maxLen at hn hcm
  have HS : Hid (Sl w ao n c b o f) := S
  clear S
  go_enter Tryd.func37, Tryd.ntmps37
  go_wp2
  go_loop [3] (fun i => ∃ k : Nat, i = .int .i64 k ∧ k ≤ n ∧ tl f n = tl f k) (fun i => (intOf i).toNat)
  case atStart => exact ⟨n, rfl, Nat.le_refl _, rfl⟩
  case round =>
    obtain ⟨k, rfl, hk, htl⟩ := hrel
    have HT : Hid (tl f n = tl f k) := htl
    clear htl
    by_cases c1 : 0 < k
    · obtain rfl := HS.out.addr (by omega)
      have hc := HS.out.cell (k - 1) (by omega)
      by_cases c3 : f (k - 1) = 0
      · rw [c3] at hc
        have HT2 : Hid (tl f n = tl f (k - 1)) := by
          have a := tl_zero (f := f) (n := k - 1) c3
          rw [show k - 1 + 1 = k by omega] at a
          exact HT.out.trans a
        clear c3
        go_wp2
        go_round
        case rel => exact ⟨k - 1, by go_num, by omega, HT2.out⟩
        case measure => simp [intOf]; omega
      · have c3' : (((f (k - 1) : Nat) : Int) == 0) = false := beq_eq_false_iff_ne.mpr (by omega)
        have HT2 : Hid (tl f n = k) := by
          have a := tl_stop (f := f) (n := k - 1) c3
          rw [show k - 1 + 1 = k by omega] at a
          exact HT.out.trans a
        clear c3
        go_wp2
        go_ret
        exact ⟨by rw [HT2.out]; rfl, rfl⟩
    · obtain rfl : k = 0 := by omega
      have HT2 : Hid (tl f n = 0) := HT.out
      clear HT c1
      cases ao with
      | none =>
        go_wp2
        go_ret
        exact ⟨by rw [HT2.out]; rfl, rfl⟩
      | some a =>
        go_wp2
        go_ret
        exact ⟨by rw [HT2.out]; rfl, rfl⟩
end Big.D
set_option maxRecDepth 100000 in
set_option maxHeartbeats 2000000 in
theorem dadd_big {w : World} {ao : Option Addr} {n c b o : Nat} {f : Nat → Nat} (S : Big.D.Sl w ao n c b o f) {bo : Option Addr} {m cb bb ob : Nat} {g : Nat → Nat} (S' : Big.D.Sl w bo m cb bb ob g) (hn : n ≤ 10000) (hm : m ≤ 10000) :
    Calls Tryd.prog 21 #[.slice ao n c, .slice bo m cb] w fun e w' => ∃ v, e = .returned v ∧ Big.D.NewV w' w.heap.size v (Big.V f n + Big.V g m) ∧ Below w.heap.size w w' := by
  obtain ⟨i0, hi, hz0, hz1, hz2⟩ := info_parts Big.D.info_u64
  have HS : Hid (Big.D.Sl w ao n c b o f) := S
  have HS' : Hid (Big.D.Sl w bo m cb bb ob g) := S'
  clear S S'
  go_enter Tryd.func21, Tryd.ntmps21
  go_wp2
  go_loopw [5, 6, 7] (fun v cy i wr => ∃ (k x : Nat) (F : Nat → Nat), cy = .int .u64 (x : Int) ∧ i = .int .i64 (k : Int) ∧ k ≤ max n m ∧ x ≤ 1 ∧ Big.Ws F ∧ wr.ownsRow w.heap.size 24 1 v k (dV .u64 F k) ∧ Below w.heap.size w wr ∧ Big.V F k + x * Big.B ^ k = Big.V (cut f n) k + Big.V (cut g m) k) (fun _ _ i _ => max n m - (intOf i).toNat)
  case atStart => exact ⟨0, 0, fun _ => 0, rfl, rfl, Nat.zero_le _, by omega, fun _ => Big.B_pos, World.ownsRow_nil _ _ _ _, Below.refl _ _, rfl⟩
  case round =>
    obtain ⟨k, x, F, rfl, rfl, hk, hx, hF, hown, hbl, hv⟩ := hrel
    have hsz := hbl.size
    have st := Big.sum_step (x := cut f n k) (y := cut g m k) hv
    have HV : Hid (Big.V F k + x * Big.B ^ k = Big.V (cut f n) k + Big.V (cut g m) k) := hv
    have bf := HS.out.ws k
    have bg := HS'.out.ws k
    unfold Big.B at bf bg
    clear hv
    by_cases c1 : k < n <;> by_cases c2 : k < m
    · skip
      rw [cut_in c1, cut_in c2] at st
      obtain rfl := HS.out.addr (by omega)
      have hc := (HS.out.below hbl).cell k c1
      obtain rfl := HS'.out.addr (by omega)
      have hc' := (HS'.out.below hbl).cell k c2
      have e1 : ((x : Int) + (f k : Int) + (g k : Int)) % 4294967296 = (((f k + g k + x) % Big.B : Nat) : Int) := by unfold Big.B; omega
      have e2 : ((x : Int) + (f k : Int) + (g k : Int)) / 4294967296 = (((f k + g k + x) / Big.B : Nat) : Int) := by unfold Big.B; omega
      have hr : (f k + g k + x) % Big.B < Big.B := Nat.mod_lt _ Big.B_pos
      have hq : (f k + g k + x) / Big.B ≤ 1 := by unfold Big.B; omega
      have HST := (show Hid _ from st)
      clear st
      generalize (f k + g k + x) % Big.B = r at *
      generalize (f k + g k + x) / Big.B = q at *
      go_wp2_with (first
        | (at_builtin; refine wpList_append_own _ rfl _ _ 61 rfl w.heap.size 24 i0 (.int .u64 0) 1 8 Big.D.und_big13 hi hz0 hz1 hz2 rfl (by decide) _ _ _ rfl (hown.alloc _) ⟨wr.heap.size, 0, none⟩ 1 1 [.int .u64 (r : Int)] rfl rfl (World.news_of_block (cs := #[.int .u64 (r : Int)]) (t := 24) (fr := (0, 0)) (heap_alloc_new wr _)) (by simp [Value.oneCell']) (by unfold maxLen; omega) (by omega) (by rw [World.size_alloc]; omega) ?_)
        | go_in)
      intro v' w3 hown' hgrow hnil
      have hb3 : Below w.heap.size w w3 := (hbl.alloc (by omega) _).grown hgrow (by rw [World.size_alloc]; omega) (fun q hq => (hown.lt q hq).1)
      have HO3 : Hid (w3.ownsRow w.heap.size 24 1 v' (k + 1) (dV .u64 (Big.put F k r) (k + 1)) ∧ Below w.heap.size w w3) := ⟨by rw [dV_put]; exact hown', hb3⟩
      clear hown' hb3 hgrow hnil hown hbl
      go_wp2
      go_roundw
      case rel =>
        refine ⟨k + 1, q, Big.put F k r, by rw [e2], by go_num, by omega, hq, Big.put_Ws hF hr, HO3.out.1, HO3.out.2, ?_⟩
        rw [V_putB, Big.V_succ, Big.V_succ, Nat.pow_succ, cut_in c1, cut_in c2]
        exact HST.out
      case measure => simp [intOf]; omega
    · skip
      rw [cut_in c1, cut_out c2] at st
      obtain rfl := HS.out.addr (by omega)
      have hc := (HS.out.below hbl).cell k c1
      have e1 : ((x : Int) + (f k : Int)) % 4294967296 = (((f k + 0 + x) % Big.B : Nat) : Int) := by unfold Big.B; omega
      have e2 : ((x : Int) + (f k : Int)) / 4294967296 = (((f k + 0 + x) / Big.B : Nat) : Int) := by unfold Big.B; omega
      have hr : (f k + 0 + x) % Big.B < Big.B := Nat.mod_lt _ Big.B_pos
      have hq : (f k + 0 + x) / Big.B ≤ 1 := by unfold Big.B; omega
      have HST := (show Hid _ from st)
      clear st
      generalize (f k + 0 + x) % Big.B = r at *
      generalize (f k + 0 + x) / Big.B = q at *
      go_wp2_with (first
        | (at_builtin; refine wpList_append_own _ rfl _ _ 61 rfl w.heap.size 24 i0 (.int .u64 0) 1 8 Big.D.und_big13 hi hz0 hz1 hz2 rfl (by decide) _ _ _ rfl (hown.alloc _) ⟨wr.heap.size, 0, none⟩ 1 1 [.int .u64 (r : Int)] rfl rfl (World.news_of_block (cs := #[.int .u64 (r : Int)]) (t := 24) (fr := (0, 0)) (heap_alloc_new wr _)) (by simp [Value.oneCell']) (by unfold maxLen; omega) (by omega) (by rw [World.size_alloc]; omega) ?_)
        | go_in)
      intro v' w3 hown' hgrow hnil
      have hb3 : Below w.heap.size w w3 := (hbl.alloc (by omega) _).grown hgrow (by rw [World.size_alloc]; omega) (fun q hq => (hown.lt q hq).1)
      have HO3 : Hid (w3.ownsRow w.heap.size 24 1 v' (k + 1) (dV .u64 (Big.put F k r) (k + 1)) ∧ Below w.heap.size w w3) := ⟨by rw [dV_put]; exact hown', hb3⟩
      clear hown' hb3 hgrow hnil hown hbl
      go_wp2
      go_roundw
      case rel =>
        refine ⟨k + 1, q, Big.put F k r, by rw [e2], by go_num, by omega, hq, Big.put_Ws hF hr, HO3.out.1, HO3.out.2, ?_⟩
        rw [V_putB, Big.V_succ, Big.V_succ, Nat.pow_succ, cut_in c1, cut_out c2]
        exact HST.out
      case measure => simp [intOf]; omega
    · skip
      rw [cut_out c1, cut_in c2] at st
      obtain rfl := HS'.out.addr (by omega)
      have hc' := (HS'.out.below hbl).cell k c2
      have e1 : ((x : Int) + (g k : Int)) % 4294967296 = (((0 + g k + x) % Big.B : Nat) : Int) := by unfold Big.B; omega
      have e2 : ((x : Int) + (g k : Int)) / 4294967296 = (((0 + g k + x) / Big.B : Nat) : Int) := by unfold Big.B; omega
      have hr : (0 + g k + x) % Big.B < Big.B := Nat.mod_lt _ Big.B_pos
      have hq : (0 + g k + x) / Big.B ≤ 1 := by unfold Big.B; omega
      have HST := (show Hid _ from st)
      clear st
      generalize (0 + g k + x) % Big.B = r at *
      generalize (0 + g k + x) / Big.B = q at *
      go_wp2_with (first
        | (at_builtin; refine wpList_append_own _ rfl _ _ 61 rfl w.heap.size 24 i0 (.int .u64 0) 1 8 Big.D.und_big13 hi hz0 hz1 hz2 rfl (by decide) _ _ _ rfl (hown.alloc _) ⟨wr.heap.size, 0, none⟩ 1 1 [.int .u64 (r : Int)] rfl rfl (World.news_of_block (cs := #[.int .u64 (r : Int)]) (t := 24) (fr := (0, 0)) (heap_alloc_new wr _)) (by simp [Value.oneCell']) (by unfold maxLen; omega) (by omega) (by rw [World.size_alloc]; omega) ?_)
        | go_in)
      intro v' w3 hown' hgrow hnil
      have hb3 : Below w.heap.size w w3 := (hbl.alloc (by omega) _).grown hgrow (by rw [World.size_alloc]; omega) (fun q hq => (hown.lt q hq).1)
      have HO3 : Hid (w3.ownsRow w.heap.size 24 1 v' (k + 1) (dV .u64 (Big.put F k r) (k + 1)) ∧ Below w.heap.size w w3) := ⟨by rw [dV_put]; exact hown', hb3⟩
      clear hown' hb3 hgrow hnil hown hbl
      go_wp2
      go_roundw
      case rel =>
        refine ⟨k + 1, q, Big.put F k r, by rw [e2], by go_num, by omega, hq, Big.put_Ws hF hr, HO3.out.1, HO3.out.2, ?_⟩
        rw [V_putB, Big.V_succ, Big.V_succ, Nat.pow_succ, cut_out c1, cut_in c2]
        exact HST.out
      case measure => simp [intOf]; omega
    · skip
      have HE : Hid (Big.V (Big.put F k x) (k + 1) = Big.V f n + Big.V g m) := by
        show _ = _
        rw [V_putB, HV.out, cut_V (by omega), cut_V (by omega)]
      have hw : Big.Ws (Big.put F k x) := Big.put_Ws hF (by unfold Big.B; omega)
      clear st
      go_wp2_with (first
        | (at_builtin; refine wpList_append_own _ rfl _ _ 61 rfl w.heap.size 24 i0 (.int .u64 0) 1 8 Big.D.und_big13 hi hz0 hz1 hz2 rfl (by decide) _ _ _ rfl (hown.alloc _) ⟨wr.heap.size, 0, none⟩ 1 1 [.int .u64 (x : Int)] rfl rfl (World.news_of_block (cs := #[.int .u64 (x : Int)]) (t := 24) (fr := (0, 0)) (heap_alloc_new wr _)) (by simp [Value.oneCell']) (by unfold maxLen; omega) (by omega) (by rw [World.size_alloc]; omega) ?_)
        | go_in)
      intro v' w3 hown' hgrow hnil
      have hb3 : Below w.heap.size w w3 := (hbl.alloc (by omega) _).grown hgrow (by rw [World.size_alloc]; omega) (fun q hq => (hown.lt q hq).1)
      rw [← dV_put] at hown'
      obtain ⟨ao', c', b', rfl, S3, hnw⟩ := Big.D.own_sl hown' hw
      have T := Big.D.trim_any S3
      have NV := S3.trimmedN hnw
      clear hnw
      rw [HE.out] at NV
      clear hown' hgrow hnil hown hbl
      go_wp2_with fail
      refine T.mono ?_
      rintro e wa ⟨rfl, rfl⟩
      go_wp2
      go_ret
      exact ⟨_, rfl, NV, hb3⟩
theorem dadd_new {w : World} {va vb : Value} {X Y : Nat} (ha : Big.D.NatV w va X) (hb : Big.D.NatV w vb Y) (hX : Fits 1000 X) (hY : Fits 1000 Y) :
    Calls Tryd.prog 21 #[va, vb] w fun e w' => ∃ v, e = .returned v ∧ Big.D.NewV w' w.heap.size v (X + Y) ∧ Below w.heap.size w w' := by
  obtain ⟨ao, n, c, b, o, f, rfl, S, t, rfl⟩ := ha
  obtain ⟨bo, m, cb, bb, ob, g, rfl, S', t', rfl⟩ := hb
  have := big_len t hX
  have := big_len t' hY
  exact dadd_big S S' (by omega) (by omega)
theorem ord_lt {x y : Nat} (h : x < y) : ord x y = -1 := by unfold ord; rw [if_pos h]
theorem ord_gt {x y : Nat} (h : y < x) : ord x y = 1 := by unfold ord; rw [if_neg (by omega), if_pos h]
theorem ord_eq {x y : Nat} (h : x = y) : ord x y = 0 := by unfold ord; rw [if_neg (by omega), if_neg (by omega)]
set_option maxRecDepth 100000 in
set_option maxHeartbeats 1000000 in
theorem dcmp_big {w : World} {ao : Option Addr} {n c b o : Nat} {f : Nat → Nat} (S : Big.D.Sl w ao n c b o f) {ao' : Option Addr} {n' c' b' o' : Nat} {f' : Nat → Nat} (S' : Big.D.Sl w ao' n' c' b' o' f') (t : Big.Top f n) (t' : Big.Top f' n') :
    Calls Tryd.prog 51 #[.slice ao n c, .slice ao' n' c'] w fun e w' => e = .returned (.int .i64 (ord (Big.V f n) (Big.V f' n'))) ∧ Below w.heap.size w w' := by
  have hn : n ≤ maxLen := Nat.le_trans S.le S.cap
  have hn' : n' ≤ maxLen := Nat.le_trans S'.le S'.cap
  unfold maxLen at hn hn'
  rcases Nat.lt_trichotomy n n' with d | d | d
  · have e := ord_lt (Big.len_lt S.ws t' d)
    rw [e]
    clear e
    go_enter Tryd.func51, Tryd.ntmps51
    go_wp2
    go_ret
    exact ⟨rfl, Below.refl _ _⟩
  · subst d
    have HS : Hid (Big.D.Sl w ao n c b o f) := S
    have HS' : Hid (Big.D.Sl w ao' n c' b' o' f') := S'
    clear S S' t t'
    go_enter Tryd.func51, Tryd.ntmps51
    go_wp2
    go_loopw [5] (fun i wr => ∃ k : Nat, i = .int .i64 ((k : Int) - 1) ∧ k ≤ n ∧ Below w.heap.size w wr ∧ ∀ j, k ≤ j → j < n → f j = f' j) (fun i _ => (intOf i + 1).toNat)
    case atStart => exact ⟨n, rfl, Nat.le_refl _, Below.refl _ _, fun j a b => absurd a (by omega)⟩
    case round =>
      obtain ⟨k, rfl, hk, al, heq⟩ := hrel
      have HA : Hid (Below w.heap.size w wr) := al
      have HE : Hid (∀ j, k ≤ j → j < n → f j = f' j) := heq
      clear heq
      by_cases c1 : 0 < k
      · obtain rfl := HS.out.addr (by omega)
        obtain rfl := HS'.out.addr (by omega)
        have hc := (HS.out.below al).cell (k - 1) (by omega)
        have hc' := (HS'.out.below al).cell (k - 1) (by omega)
        clear al
        have ix : ((k : Int) - 1).toNat = k - 1 := by omega
        rcases Nat.lt_trichotomy (f (k - 1)) (f' (k - 1)) with q | q | q
        · have r := ord_lt (Big.V_lt_at HS.out.ws q (n := n) (by omega) (fun j a b => HE.out j (by omega) b))
          have HR : Hid (ord (Big.V f n) (Big.V f' n) = -1) := r
          have q2 : ((f (k - 1) : Nat) : Int) < ((f' (k - 1) : Nat) : Int) := by omega
          clear r q
          go_wp2
          go_region
          all_goals
            go_wp2
            go_ret
            exact ⟨by rw [HR.out]; rfl, HA.out.drew⟩
        · have q1 : ¬ ((f (k - 1) : Nat) : Int) < ((f' (k - 1) : Nat) : Int) := by omega
          have q2 : ¬ ((f' (k - 1) : Nat) : Int) < ((f (k - 1) : Nat) : Int) := by omega
          have HQ : Hid (f (k - 1) = f' (k - 1)) := q
          clear q
          go_wp2
          go_region
          all_goals
            go_wp2
            go_region
            all_goals
              go_wp2
              go_roundw
              case rel =>
                refine ⟨k - 1, by go_num, by omega, HA.out.drew.drew, fun j a b => ?_⟩
                by_cases z : j = k - 1
                · rw [z]; exact HQ.out
                · exact HE.out j (by omega) b
              case measure => simp [intOf]; omega
        · have r := ord_gt (Big.V_lt_at HS'.out.ws q (n := n) (by omega) (fun j a b => (HE.out j (by omega) b).symm))
          have HR : Hid (ord (Big.V f n) (Big.V f' n) = 1) := r
          have q1 : ¬ ((f (k - 1) : Nat) : Int) < ((f' (k - 1) : Nat) : Int) := by omega
          have q2 : ((f' (k - 1) : Nat) : Int) < ((f (k - 1) : Nat) : Int) := by omega
          clear r q
          go_wp2
          go_region
          all_goals
            go_wp2
            go_region
            all_goals
              go_wp2
              go_ret
              exact ⟨by rw [HR.out]; rfl, HA.out.drew.drew⟩
      · obtain rfl : k = 0 := by omega
        have HR : Hid (ord (Big.V f n) (Big.V f' n) = 0) := ord_eq (Big.V_congr fun i hi => HE.out i (Nat.zero_le _) hi)
        clear HE c1
        go_wp2
        go_ret
        exact ⟨by rw [HR.out]; rfl, HA.out⟩
  · have e := ord_gt (Big.len_lt S'.ws t d)
    rw [e]
    clear e
    go_enter Tryd.func51, Tryd.ntmps51
    go_wp2
    go_ret
    exact ⟨rfl, Below.refl _ _⟩
theorem dcmp_nat {w : World} {va vb : Value} {X Y : Nat} (ha : Big.D.NatV w va X) (hb : Big.D.NatV w vb Y) :
    Calls Tryd.prog 51 #[va, vb] w fun e w' => e = .returned (.int .i64 (ord X Y)) ∧ Below w.heap.size w w' := by
  obtain ⟨ao, n, c, b, o, f, rfl, S, t, rfl⟩ := ha
  obtain ⟨bo, m, cb, bb, ob, g, rfl, S', t', rfl⟩ := hb
  exact dcmp_big S S' t t'
set_option maxRecDepth 100000 in
set_option maxHeartbeats 2000000 in
theorem dsub_big {w : World} {ao : Option Addr} {n c b o : Nat} {f : Nat → Nat} (S : Big.D.Sl w ao n c b o f) {bo : Option Addr} {m cb bb ob : Nat} {g : Nat → Nat} (S' : Big.D.Sl w bo m cb bb ob g) (hn : n ≤ 10000) (hmn : m ≤ n) (hle : Big.V g m ≤ Big.V f n) :
    Calls Tryd.prog 61 #[.slice ao n c, .slice bo m cb] w fun e w' => ∃ v, e = .returned v ∧ Big.D.NewV w' w.heap.size v (Big.V f n - Big.V g m) ∧ Below w.heap.size w w' := by
  obtain ⟨i0, hi, hz0, hz1, hz2⟩ := info_parts Big.D.info_u64
  have HS : Hid (Big.D.Sl w ao n c b o f) := S
  have HS' : Hid (Big.D.Sl w bo m cb bb ob g) := S'
  have HLE : Hid (Big.V g m ≤ Big.V f n) := hle
  clear S S' hle
  go_enter Tryd.func61, Tryd.ntmps61
  go_wp2
  go_loopw [5, 6, 7] (fun v cy i wr => ∃ (k x : Nat) (F : Nat → Nat), cy = .int .u64 (x : Int) ∧ i = .int .i64 (k : Int) ∧ k ≤ n ∧ x ≤ 1 ∧ Big.Ws F ∧ wr.ownsRow w.heap.size 24 1 v k (dV .u64 F k) ∧ Below w.heap.size w wr ∧ Big.V F k + Big.V (cut g m) k = Big.V f k + x * Big.B ^ k) (fun _ _ i _ => n - (intOf i).toNat)
  case atStart => exact ⟨0, 0, fun _ => 0, rfl, rfl, Nat.zero_le _, by omega, fun _ => Big.B_pos, World.ownsRow_nil _ _ _ _, Below.refl _ _, rfl⟩
  case round =>
    obtain ⟨k, x, F, rfl, rfl, hk, hx, hF, hown, hbl, hv⟩ := hrel
    have hsz := hbl.size
    have HV : Hid (Big.V F k + Big.V (cut g m) k = Big.V f k + x * Big.B ^ k) := hv
    have bf := HS.out.ws k
    have bg := HS'.out.ws k
    unfold Big.B at bf bg
    clear hv
    by_cases c1 : k < n
    · obtain rfl := HS.out.addr (by omega)
      have hc := (HS.out.below hbl).cell k c1
      by_cases c2 : k < m
      · by_cases c3 : f k < g k + x
        · skip
          obtain rfl := HS'.out.addr (by omega)
          have hc' := (HS'.out.below hbl).cell k c2
          obtain ⟨r, hr⟩ : ∃ r : Nat, r = f k + 4294967296 - g k - x := ⟨_, rfl⟩
          have st := Big.sub_step (y := g k) (x := f k) (l := r) (d := 1) (β := Big.B) HV.out (by unfold Big.B; omega)
          have hrB : r < Big.B := by unfold Big.B; omega
          have e1 : ((f k : Nat) : Int) + 4294967296 - ((x : Int) + ((g k : Nat) : Int)) = (r : Int) := by omega
          have hlt : ¬ (x : Int) + ((g k : Nat) : Int) ≤ ((f k : Nat) : Int) := by omega
          have HST := (show Hid _ from st)
          clear st hr
          go_wp2_with (first
            | (at_builtin; refine wpList_append_own _ rfl _ _ 61 rfl w.heap.size 24 i0 (.int .u64 0) 1 8 Big.D.und_big13 hi hz0 hz1 hz2 rfl (by decide) _ _ _ rfl (hown.alloc _) ⟨wr.heap.size, 0, none⟩ 1 1 [.int .u64 (r : Int)] rfl rfl (World.news_of_block (cs := #[.int .u64 (r : Int)]) (t := 24) (fr := (0, 0)) (heap_alloc_new wr _)) (by simp [Value.oneCell']) (by unfold maxLen; omega) (by omega) (by rw [World.size_alloc]; omega) ?_)
            | go_in)
          intro v' w3 hown' hgrow hnil
          have hb3 : Below w.heap.size w w3 := (hbl.alloc (by omega) _).grown hgrow (by rw [World.size_alloc]; omega) (fun q hq => (hown.lt q hq).1)
          have HO3 : Hid (w3.ownsRow w.heap.size 24 1 v' (k + 1) (dV .u64 (Big.put F k r) (k + 1)) ∧ Below w.heap.size w w3) := ⟨by rw [dV_put]; exact hown', hb3⟩
          clear hown' hb3 hgrow hnil hown hbl
          go_wp2
          go_roundw
          case rel =>
            refine ⟨k + 1, 1, Big.put F k r, rfl, by go_num, by omega, by omega, Big.put_Ws hF hrB, HO3.out.1, HO3.out.2, ?_⟩
            rw [V_putB, Big.V_succ, Big.V_succ, Nat.pow_succ, cut_in c2]
            exact HST.out
          case measure => simp [intOf]; omega
        · skip
          obtain rfl := HS'.out.addr (by omega)
          have hc' := (HS'.out.below hbl).cell k c2
          obtain ⟨r, hr⟩ : ∃ r : Nat, r = f k - g k - x := ⟨_, rfl⟩
          have st := Big.sub_step (y := g k) (x := f k) (l := r) (d := 0) (β := Big.B) HV.out (by unfold Big.B; omega)
          have hrB : r < Big.B := by unfold Big.B; omega
          have e1 : ((f k : Nat) : Int) - ((x : Int) + ((g k : Nat) : Int)) = (r : Int) := by omega
          have hlt : (x : Int) + ((g k : Nat) : Int) ≤ ((f k : Nat) : Int) := by omega
          have HST := (show Hid _ from st)
          clear st hr
          go_wp2_with (first
            | (at_builtin; refine wpList_append_own _ rfl _ _ 61 rfl w.heap.size 24 i0 (.int .u64 0) 1 8 Big.D.und_big13 hi hz0 hz1 hz2 rfl (by decide) _ _ _ rfl (hown.alloc _) ⟨wr.heap.size, 0, none⟩ 1 1 [.int .u64 (r : Int)] rfl rfl (World.news_of_block (cs := #[.int .u64 (r : Int)]) (t := 24) (fr := (0, 0)) (heap_alloc_new wr _)) (by simp [Value.oneCell']) (by unfold maxLen; omega) (by omega) (by rw [World.size_alloc]; omega) ?_)
            | go_in)
          intro v' w3 hown' hgrow hnil
          have hb3 : Below w.heap.size w w3 := (hbl.alloc (by omega) _).grown hgrow (by rw [World.size_alloc]; omega) (fun q hq => (hown.lt q hq).1)
          have HO3 : Hid (w3.ownsRow w.heap.size 24 1 v' (k + 1) (dV .u64 (Big.put F k r) (k + 1)) ∧ Below w.heap.size w w3) := ⟨by rw [dV_put]; exact hown', hb3⟩
          clear hown' hb3 hgrow hnil hown hbl
          go_wp2
          go_roundw
          case rel =>
            refine ⟨k + 1, 0, Big.put F k r, rfl, by go_num, by omega, by omega, Big.put_Ws hF hrB, HO3.out.1, HO3.out.2, ?_⟩
            rw [V_putB, Big.V_succ, Big.V_succ, Nat.pow_succ, cut_in c2]
            exact HST.out
          case measure => simp [intOf]; omega
      · by_cases c3 : f k < x
        · skip
          obtain ⟨r, hr⟩ : ∃ r : Nat, r = f k + 4294967296 - 0 - x := ⟨_, rfl⟩
          have st := Big.sub_step (y := 0) (x := f k) (l := r) (d := 1) (β := Big.B) HV.out (by unfold Big.B; omega)
          have hrB : r < Big.B := by unfold Big.B; omega
          have e1 : ((f k : Nat) : Int) + 4294967296 - (x : Int) = (r : Int) := by omega
          have hlt : ¬ (x : Int) ≤ ((f k : Nat) : Int) := by omega
          have HST := (show Hid _ from st)
          clear st hr
          go_wp2_with (first
            | (at_builtin; refine wpList_append_own _ rfl _ _ 61 rfl w.heap.size 24 i0 (.int .u64 0) 1 8 Big.D.und_big13 hi hz0 hz1 hz2 rfl (by decide) _ _ _ rfl (hown.alloc _) ⟨wr.heap.size, 0, none⟩ 1 1 [.int .u64 (r : Int)] rfl rfl (World.news_of_block (cs := #[.int .u64 (r : Int)]) (t := 24) (fr := (0, 0)) (heap_alloc_new wr _)) (by simp [Value.oneCell']) (by unfold maxLen; omega) (by omega) (by rw [World.size_alloc]; omega) ?_)
            | go_in)
          intro v' w3 hown' hgrow hnil
          have hb3 : Below w.heap.size w w3 := (hbl.alloc (by omega) _).grown hgrow (by rw [World.size_alloc]; omega) (fun q hq => (hown.lt q hq).1)
          have HO3 : Hid (w3.ownsRow w.heap.size 24 1 v' (k + 1) (dV .u64 (Big.put F k r) (k + 1)) ∧ Below w.heap.size w w3) := ⟨by rw [dV_put]; exact hown', hb3⟩
          clear hown' hb3 hgrow hnil hown hbl
          go_wp2
          go_roundw
          case rel =>
            refine ⟨k + 1, 1, Big.put F k r, rfl, by go_num, by omega, by omega, Big.put_Ws hF hrB, HO3.out.1, HO3.out.2, ?_⟩
            rw [V_putB, Big.V_succ, Big.V_succ, Nat.pow_succ, cut_out c2]
            exact HST.out
          case measure => simp [intOf]; omega
        · skip
          obtain ⟨r, hr⟩ : ∃ r : Nat, r = f k - 0 - x := ⟨_, rfl⟩
          have st := Big.sub_step (y := 0) (x := f k) (l := r) (d := 0) (β := Big.B) HV.out (by unfold Big.B; omega)
          have hrB : r < Big.B := by unfold Big.B; omega
          have e1 : ((f k : Nat) : Int) - (x : Int) = (r : Int) := by omega
          have hlt : (x : Int) ≤ ((f k : Nat) : Int) := by omega
          have HST := (show Hid _ from st)
          clear st hr
          go_wp2_with (first
            | (at_builtin; refine wpList_append_own _ rfl _ _ 61 rfl w.heap.size 24 i0 (.int .u64 0) 1 8 Big.D.und_big13 hi hz0 hz1 hz2 rfl (by decide) _ _ _ rfl (hown.alloc _) ⟨wr.heap.size, 0, none⟩ 1 1 [.int .u64 (r : Int)] rfl rfl (World.news_of_block (cs := #[.int .u64 (r : Int)]) (t := 24) (fr := (0, 0)) (heap_alloc_new wr _)) (by simp [Value.oneCell']) (by unfold maxLen; omega) (by omega) (by rw [World.size_alloc]; omega) ?_)
            | go_in)
          intro v' w3 hown' hgrow hnil
          have hb3 : Below w.heap.size w w3 := (hbl.alloc (by omega) _).grown hgrow (by rw [World.size_alloc]; omega) (fun q hq => (hown.lt q hq).1)
          have HO3 : Hid (w3.ownsRow w.heap.size 24 1 v' (k + 1) (dV .u64 (Big.put F k r) (k + 1)) ∧ Below w.heap.size w w3) := ⟨by rw [dV_put]; exact hown', hb3⟩
          clear hown' hb3 hgrow hnil hown hbl
          go_wp2
          go_roundw
          case rel =>
            refine ⟨k + 1, 0, Big.put F k r, rfl, by go_num, by omega, by omega, Big.put_Ws hF hrB, HO3.out.1, HO3.out.2, ?_⟩
            rw [V_putB, Big.V_succ, Big.V_succ, Nat.pow_succ, cut_out c2]
            exact HST.out
          case measure => simp [intOf]; omega
    · obtain rfl : k = n := by omega
      have HE : Hid (Big.V F k = Big.V f k - Big.V g m) := by
        show _ = _
        have a := HV.out
        have b := HLE.out
        have l1 := Big.V_lt hF k
        rw [cut_V (by omega)] at a
        rcases (by omega : x = 0 ∨ x = 1) with rfl | rfl
        · omega
        · omega
      obtain ⟨ao', c', b', rfl, S3, hnw⟩ := Big.D.own_sl hown hF
      have T := Big.D.trim_any S3
      have NV := S3.trimmedN hnw
      rw [HE.out] at NV
      clear hown hnw
      go_wp2_with fail
      refine T.mono ?_
      rintro e wa ⟨rfl, rfl⟩
      go_wp2
      go_ret
      exact ⟨_, rfl, NV, hbl⟩
theorem dsub_new {w : World} {va vb : Value} {X Y : Nat} (ha : Big.D.NatV w va X) (hb : Big.D.NatV w vb Y) (hX : Fits 1000 X) (hle : Y ≤ X) :
    Calls Tryd.prog 61 #[va, vb] w fun e w' => ∃ v, e = .returned v ∧ Big.D.NewV w' w.heap.size v (X - Y) ∧ Below w.heap.size w w' := by
  obtain ⟨ao, n, c, b, o, f, rfl, S, t, rfl⟩ := ha
  obtain ⟨bo, m, cb, bb, ob, g, rfl, S', t', rfl⟩ := hb
  have := big_len t hX
  exact dsub_big S S' (by omega) (big_le_len S.ws t' hle) hle
/-- A row of N digits that fills the block g. -/
structure Big.D.Row (w : World) (g N : Nat) (F : Nat → Nat) : Prop where
  row : w.rowIs g 24 N (fun i => .int .u64 (F i : Int))
  ws : Big.Ws F
theorem Big.D.Row.set {w : World} {g N : Nat} {F : Nat → Nat} (R : Big.D.Row w g N F) (i : Nat) {r : Nat} (hr : r < Big.B) : Big.D.Row (w.setCell ⟨g, i, none⟩ (.int .u64 (r : Int))) g N (Big.put F i r) := by
  refine ⟨(R.row.set i (.int .u64 (r : Int))).congr fun j hj => ?_, Big.put_Ws R.ws hr⟩
  unfold Big.put
  by_cases c : j = i
  · rw [if_pos c, if_pos c]
  · rw [if_neg c, if_neg c]
theorem Big.D.Row.drew {w : World} {g N : Nat} {F : Nat → Nat} (R : Big.D.Row w g N F) : Big.D.Row w.drew g N F := ⟨R.row.drew, R.ws⟩
theorem Big.D.Row.below {w w' : World} {g N : Nat} {F : Nat → Nat} (R : Big.D.Row w g N F) (h : Below w.heap.size w w') : Big.D.Row w' g N F :=
  ⟨R.row.of_block (h.block g R.row.lt), R.ws⟩
theorem Big.D.Row.sl0 {w : World} {g N : Nat} {F : Nat → Nat} (R : Big.D.Row w g N F) (hN : N ≤ maxLen) : Big.D.Sl w (some ⟨g, 0, none⟩) N N g 0 F :=
  ⟨Nat.le_refl _, hN, fun _ => rfl, fun _ => R.row.lt, fun i hi => by rw [Nat.zero_add]; exact R.row.cell hi, R.ws⟩
theorem Big.D.made_row (w : World) (n : Nat) : Big.D.Row (w.alloc (.cells (madeCells #[.int .u64 0] n) 24)) w.heap.size n (fun _ => 0) := ⟨World.rowIs_made _ _ _ _, fun _ => Big.B_pos⟩
theorem made_dV64 (q : Nat) : (madeCells #[.int .u64 0] q).toList = dV .u64 (fun _ => 0) q := by
  apply List.ext_getElem?
  intro i
  by_cases h : i < q
  · rw [dV_get h]; simp [madeCells, h, Nat.mod_one]
  · simp [madeCells, dV, h]
theorem wrap_nat64 {t : Nat} (h : t < 18446744073709551616) : IntKind.u64.wrap (t : Int) = (t : Int) := by rw [IntKind.wrap_u64]; omega
theorem and_one64 (a : Nat) (ha : a < 18446744073709551616) : bits .and .u64 (a : Int) 1 = ((a % 2 : Nat) : Int) := by
  have h := bits_and_u64_nat a 1 ha (by omega)
  rw [Nat.and_one_is_mod] at h
  exact h
set_option maxRecDepth 100000 in
set_option maxHeartbeats 2000000 in
theorem dshl_big {w : World} {ao : Option Addr} {n c b o : Nat} {f : Nat → Nat} (S : Big.D.Sl w ao n c b o f) (hn : n ≤ 1000) (s q p : Nat) (hsq : s = 32 * q + p) (hp : p < 32) (hq : q ≤ 1000) :
    Calls Tryd.prog 36 #[.slice ao n c, .int .i64 (s : Int)] w fun e w' => ∃ v, e = .returned v ∧ Big.D.NewV w' w.heap.size v (Big.V f n * 2 ^ s) ∧ Below w.heap.size w w' := by
  obtain ⟨i0, hi, hz0, hz1, hz2⟩ := info_parts Big.D.info_u64
  have hmk := run_make_row' (P := Tryd.prog) 61 24 (.int .u64 0) 8 Big.D.und_big13 Big.D.info_u64 rfl .i64 .i64 q (by omega) (by omega)
  have HS : Hid (Big.D.Sl w ao n c b o f) := S
  have d1 : (s : Int) / 32 = (q : Int) := by omega
  have d2 : (s : Int) % 32 = (p : Int) := by omega
  have d3 : (s : Int).tdiv 32 = (q : Int) := by rw [Int.tdiv_eq_ediv_of_nonneg (by omega)]; exact d1
  have d4 : (s : Int).tmod 32 = (p : Int) := by rw [Int.tmod_eq_emod_of_nonneg (by omega)]; exact d2
  have hs : s ≤ 33000 := by omega
  have hpp : 2 ^ p ≤ 2147483648 := by have : 2 ^ p ≤ 2 ^ 31 := Nat.pow_le_pow_right (by omega) (by omega); omega
  have sh1 : IntKind.u64.wrap (1 * (2 : Int) ^ p) = ((2 ^ p : Nat) : Int) := by rw [Int.one_mul, pow_cast]; exact wrap_nat64 (by omega)
  have sh2 : IntKind.u64.wrap ((2 : Int) ^ p) = ((2 ^ p : Nat) : Int) := by rw [pow_cast]; exact wrap_nat64 (by omega)
  have tpos := Nat.two_pow_pos p
  have HQ : Hid (2 ^ s = Big.B ^ q * 2 ^ p) := by
    show _ = _
    rw [hsq, Nat.pow_add, D_pow]
  generalize 2 ^ p = t at *
  clear S hsq
  go_enter Tryd.func36, Tryd.ntmps36
  go_wp2
  go_loopw [5, 7, 8] (fun v cy i wr => ∃ (k z : Nat) (F : Nat → Nat), cy = .int .u64 (z : Int) ∧ i = .int .i64 (k : Int) ∧ k ≤ n ∧ z < t ∧ Big.Ws F ∧ wr.ownsRow w.heap.size 24 1 v (q + k) (dV .u64 F (q + k)) ∧ Below w.heap.size w wr ∧ Hid (Big.V F (q + k) + z * Big.B ^ (q + k) = Big.V f k * 2 ^ s)) (fun _ _ i _ => n - (intOf i).toNat)
  case atStart =>
    refine ⟨0, 0, fun _ => 0, rfl, rfl, Nat.zero_le _, tpos, fun _ => Big.B_pos, ?_, (Below.refl _ _).alloc (Nat.le_refl _) _, ?_⟩
    · have q1 := World.ownsRow_lit (base := w.heap.size) (e := 24) (size := 1) w (madeCells #[.int .u64 0] q) q (Nat.le_refl _) (by unfold maxLen; omega) (by simp [madeCells])
      rw [made_dV64] at q1
      exact q1
    · show Big.V (fun _ => 0) (q + 0) + 0 * _ = Big.V f 0 * _
      rw [Big.V_nought, Big.V_zero]; omega
  case round =>
    obtain ⟨k, z, F, rfl, rfl, hk, hzt, hF, hown, hbl, HV⟩ := hrel
    have hsz := hbl.size
    by_cases c1 : k < n
    · obtain rfl := HS.out.addr (by omega)
      have hc := (HS.out.below hbl).cell k c1
      have hxB := HS.out.ws k
      have hP : (f k + 1) * t ≤ Big.B * t := Nat.mul_le_mul_right _ hxB
      rw [Nat.add_mul, Nat.one_mul] at hP
      have dm := Nat.div_add_mod (f k * t + z) Big.B
      have HST : Hid (Big.V F (q + k) + (f k * t + z) % Big.B * Big.B ^ (q + k) + (f k * t + z) / Big.B * (Big.B ^ (q + k) * Big.B) = Big.V f (k + 1) * 2 ^ s) := by
        show _ = _
        have g := upB_gen (P := Big.B ^ (q + k)) HV.out dm
        rw [g, Big.V_succ, Nat.add_mul, HQ.out]
        congr 1
        rw [Nat.mul_assoc (f k), Nat.pow_add]
        generalize Big.B ^ q = x
        generalize Big.B ^ k = y
        rw [Nat.mul_comm t (x * y), Nat.mul_comm x y, Nat.mul_assoc]
      have hqz : (f k * t + z) / Big.B < t := by
        rw [Nat.div_lt_iff_lt_mul Big.B_pos, Nat.mul_comm t Big.B]
        omega
      have hr : (f k * t + z) % Big.B < Big.B := Nat.mod_lt _ Big.B_pos
      have pm : ((f k : Nat) : Int) * (t : Int) = ((f k * t : Nat) : Int) := by rw [Int.natCast_mul]
      have e1 : (((f k * t : Nat) : Int) + (z : Int)) % 4294967296 = (((f k * t + z) % Big.B : Nat) : Int) := by unfold Big.B; omega
      have e2 : (((f k * t : Nat) : Int) + (z : Int)) / 4294967296 = (((f k * t + z) / Big.B : Nat) : Int) := by unfold Big.B; omega
      have pl : f k * t + z < 18446744073709551616 := by
        unfold Big.B at hP
        omega
      unfold Big.B at hxB
      generalize (f k * t + z) % Big.B = r at *
      generalize (f k * t + z) / Big.B = q2 at *
      generalize f k * t = y at *
      clear dm hP
      go_wp2_with (first
        | (at_builtin; refine wpList_append_own _ rfl _ _ 61 rfl w.heap.size 24 i0 (.int .u64 0) 1 8 Big.D.und_big13 hi hz0 hz1 hz2 rfl (by decide) _ _ _ rfl (hown.alloc _) ⟨wr.heap.size, 0, none⟩ 1 1 [.int .u64 (r : Int)] rfl rfl (World.news_of_block (cs := #[.int .u64 (r : Int)]) (t := 24) (fr := (0, 0)) (heap_alloc_new wr _)) (by simp [Value.oneCell']) (by unfold maxLen; omega) (by omega) (by rw [World.size_alloc]; omega) ?_)
        | go_in)
      intro v' w3 hown' hgrow hnil
      have hb3 : Below w.heap.size w w3 := (hbl.alloc (by omega) _).grown hgrow (by rw [World.size_alloc]; omega) (fun q hq => (hown.lt q hq).1)
      have HO3 : Hid (w3.ownsRow w.heap.size 24 1 v' (q + (k + 1)) (dV .u64 (Big.put F (q + k) r) (q + (k + 1))) ∧ Below w.heap.size w w3) := ⟨by rw [← Nat.add_assoc, dV_put]; exact hown', hb3⟩
      clear hown' hb3 hgrow hnil hown hbl
      go_wp2
      go_roundw
      case rel =>
        refine ⟨k + 1, q2, Big.put F (q + k) r, by rw [e2], by go_num, by omega, hqz, Big.put_Ws hF hr, HO3.out.1, HO3.out.2, ?_⟩
        show _ = _
        rw [← Nat.add_assoc, V_putB, Nat.pow_succ]
        exact HST.out
      case measure => simp [intOf]; omega
    · obtain rfl : k = n := by omega
      have HE : Hid (Big.V (Big.put F (q + k) z) (q + k + 1) = Big.V f k * 2 ^ s) := by
        show _ = _
        rw [V_putB, HV.out]
      have hw : Big.Ws (Big.put F (q + k) z) := Big.put_Ws hF (by unfold Big.B; omega)
      go_wp2_with (first
        | (at_builtin; refine wpList_append_own _ rfl _ _ 61 rfl w.heap.size 24 i0 (.int .u64 0) 1 8 Big.D.und_big13 hi hz0 hz1 hz2 rfl (by decide) _ _ _ rfl (hown.alloc _) ⟨wr.heap.size, 0, none⟩ 1 1 [.int .u64 (z : Int)] rfl rfl (World.news_of_block (cs := #[.int .u64 (z : Int)]) (t := 24) (fr := (0, 0)) (heap_alloc_new wr _)) (by simp [Value.oneCell']) (by unfold maxLen; omega) (by omega) (by rw [World.size_alloc]; omega) ?_)
        | go_in)
      intro v' w3 hown' hgrow hnil
      have hb3 : Below w.heap.size w w3 := (hbl.alloc (by omega) _).grown hgrow (by rw [World.size_alloc]; omega) (fun q hq => (hown.lt q hq).1)
      rw [← dV_put] at hown'
      obtain ⟨ao', c', b', rfl, S3, hnw⟩ := Big.D.own_sl hown' hw
      have T := Big.D.trim_any S3
      have NV := S3.trimmedN hnw
      clear hnw
      rw [HE.out] at NV
      clear hown' hgrow hnil hown hbl
      go_wp2_with fail
      refine T.mono ?_
      rintro e wa ⟨rfl, rfl⟩
      go_wp2
      go_ret
      exact ⟨_, rfl, NV, hb3⟩
theorem dshl_new {w : World} {va : Value} {X : Nat} (ha : Big.D.NatV w va X) (hX : Fits 1000 X) (s : Nat) (hs : s ≤ 32000) :
    Calls Tryd.prog 36 #[va, .int .i64 (s : Int)] w fun e w' => ∃ v, e = .returned v ∧ Big.D.NewV w' w.heap.size v (X * 2 ^ s) ∧ Below w.heap.size w w' := by
  obtain ⟨ao, n, c, b, o, f, rfl, S, t, rfl⟩ := ha
  exact dshl_big S (big_len t hX) s (s / 32) (s % 32) (by omega) (by omega) (by omega)
theorem bit_zero_lt {X j : Nat} (h : X < 2 ^ (j + 1)) (hb : X / 2 ^ j % 2 = 0) : X < 2 ^ j := by
  have p := Nat.two_pow_pos j
  have q : X / 2 ^ j < 2 := by rw [Nat.div_lt_iff_lt_mul p, Nat.mul_comm, ← Nat.pow_succ]; exact h
  have z : X / 2 ^ j = 0 := by generalize X / 2 ^ j = y at q hb ⊢; omega
  rcases Nat.lt_or_ge X (2 ^ j) with c | c
  · exact c
  · have a := Nat.div_le_div_right (c := 2 ^ j) c
    rw [Nat.div_self p] at a
    omega
theorem bit_one_le {X j : Nat} (hb : X / 2 ^ j % 2 ≠ 0) : 2 ^ j ≤ X := by
  rcases Nat.lt_or_ge X (2 ^ j) with c | c
  · rw [Nat.div_eq_of_lt c] at hb; omega
  · exact c
set_option maxRecDepth 100000 in
set_option maxHeartbeats 1000000 in
theorem dbits_big {w : World} {ao : Option Addr} {n c b o : Nat} {f : Nat → Nat} (S : Big.D.Sl w ao n c b o f) (hn : n ≤ 10000) :
    Calls Tryd.prog 48 #[.slice ao n c] w fun e w' => e = .returned (.int .i64 (bl (Big.V f n) : Int)) ∧ w' = w := by
  have HS : Hid (Big.D.Sl w ao n c b o f) := S
  have hlt : Big.V f n < 2 ^ (32 * n) := by rw [← D_pow]; exact Big.V_lt S.ws n
  have HL : Hid (Big.V f n < 2 ^ (32 * n)) := hlt
  clear S hlt
  go_enter Tryd.func48, Tryd.ntmps48
  go_wp2
  go_loop [3] (fun m => ∃ j : Nat, m = .int .i64 (j : Int) ∧ j ≤ 32 * n ∧ Hid (Big.V f n < 2 ^ j)) (fun m => (intOf m).toNat)
  case atStart => exact ⟨32 * n, by go_num, Nat.le_refl _, HL⟩
  case round =>
    obtain ⟨j, rfl, hj, HJ⟩ := hrel
    by_cases c1 : 0 < j
    · obtain ⟨q, p, hqp, hp⟩ : ∃ q p, j - 1 = 32 * q + p ∧ p < 32 := ⟨(j - 1) / 32, (j - 1) % 32, by omega, by omega⟩
      have hq : q < n := by omega
      obtain rfl := HS.out.addr (by omega)
      have hc := HS.out.cell q hq
      have hb := HS.out.ws q
      have e := bit_at HS.out.ws hq hp
      rw [← hqp] at e
      have d1 : ((j : Int) - 1) / 32 = (q : Int) := by omega
      have d2 : ((j : Int) - 1) % 32 = (p : Int) := by omega
      have d3 : ((j : Int) - 1).tdiv 32 = (q : Int) := by rw [Int.tdiv_eq_ediv_of_nonneg (by omega)]; exact d1
      have d4 : ((j : Int) - 1).tmod 32 = (p : Int) := by rw [Int.tmod_eq_emod_of_nonneg (by omega)]; exact d2
      have sh : ((f q : Nat) : Int) / 2 ^ p = ((f q / 2 ^ p : Nat) : Int) := by rw [Int.natCast_ediv]; simp
      have hy : f q / 2 ^ p < 4294967296 := by
        have := Nat.div_le_self (f q) (2 ^ p)
        unfold Big.B at hb
        omega
      generalize hY : f q / 2 ^ p = y at *
      have an := and_one64 y (by omega)
      have HE : Hid (Big.V f n / 2 ^ (j - 1) % 2 = y % 2) := e
      clear e hY hqp hb
      by_cases c2 : y % 2 = 0
      · rw [c2] at an
        have HN : Hid (Big.V f n < 2 ^ (j - 1)) := by
          have a := HJ.out
          rw [show j = j - 1 + 1 by omega] at a
          exact bit_zero_lt a (by rw [HE.out]; exact c2)
        clear c2
        go_wp2
        go_round
        case rel => exact ⟨j - 1, by go_num, by omega, HN⟩
        case measure => simp [intOf]; omega
      · have c3 : y % 2 = 1 := by omega
        rw [c3] at an
        have HR : Hid (bl (Big.V f n) = j) := by
          have a := HJ.out
          rw [show j = j - 1 + 1 by omega] at a
          have r := bl_of (bit_one_le (by rw [HE.out]; exact c2)) a
          show _ = _
          omega
        clear c2 c3
        go_wp2
        go_ret
        exact ⟨by rw [HR.out]; rfl, rfl⟩
    · obtain rfl : j = 0 := by omega
      have HR : Hid (bl (Big.V f n) = 0) := by
        have a := HJ.out
        rw [Nat.pow_zero] at a
        show _ = _
        rw [show Big.V f n = 0 by omega]; rfl
      clear c1
      cases ao with
      | none =>
        go_wp2
        go_ret
        exact ⟨by rw [HR.out]; rfl, rfl⟩
      | some a =>
        go_wp2
        go_ret
        exact ⟨by rw [HR.out]; rfl, rfl⟩
theorem dbits_nat {w : World} {va : Value} {X : Nat} (ha : Big.D.NatV w va X) (hX : Fits 1000 X) :
    Calls Tryd.prog 48 #[va] w fun e w' => e = .returned (.int .i64 (bl X : Int)) ∧ w' = w := by
  obtain ⟨ao, n, c, b, o, f, rfl, S, t, rfl⟩ := ha
  have := big_len t hX
  exact dbits_big S (by omega)
set_option maxRecDepth 100000 in
set_option maxHeartbeats 1000000 in
theorem dbit_nat {w : World} {va : Value} {X : Nat} (ha : Big.D.NatV w va X) (hX : Fits 1000 X) (i : Nat) (hi : i < bl X) :
    Calls Tryd.prog 60 #[va, .int .i64 (i : Int)] w fun e w' => e = .returned (.int .u64 ((X / 2 ^ i % 2 : Nat) : Int)) ∧ w' = w := by
  obtain ⟨ao, n, c, b, o, f, rfl, S, t, rfl⟩ := ha
  have hn := big_len t hX
  have hb1 : bl (Big.V f n) ≤ 32 * n := bl_mono_le (by rw [← D_pow]; exact Big.V_lt S.ws n)
  obtain ⟨q, p, hqp, hp⟩ : ∃ q p, i = 32 * q + p ∧ p < 32 := ⟨i / 32, i % 32, by omega, by omega⟩
  have hq : q < n := by omega
  obtain rfl := S.addr (by omega)
  have hc := S.cell q hq
  have hb := S.ws q
  have e := bit_at S.ws hq hp
  rw [← hqp] at e
  have d1 : (i : Int) / 32 = (q : Int) := by omega
  have d2 : (i : Int) % 32 = (p : Int) := by omega
  have d3 : (i : Int).tdiv 32 = (q : Int) := by rw [Int.tdiv_eq_ediv_of_nonneg (by omega)]; exact d1
  have d4 : (i : Int).tmod 32 = (p : Int) := by rw [Int.tmod_eq_emod_of_nonneg (by omega)]; exact d2
  have sh : ((f q : Nat) : Int) / 2 ^ p = ((f q / 2 ^ p : Nat) : Int) := by rw [Int.natCast_ediv]; simp
  have hy : f q / 2 ^ p < 4294967296 := by
    have := Nat.div_le_self (f q) (2 ^ p)
    unfold Big.B at hb
    omega
  have hi2 : i < 32000 := by omega
  rw [e]
  generalize hY : f q / 2 ^ p = y at *
  have an := and_one64 y (by omega)
  clear e S t hX hY hqp hb hi hb1
  generalize y % 2 = u at *
  go_enter Tryd.func60, Tryd.ntmps60
  go_wp2
  go_ret
  exact ⟨rfl, rfl⟩
end Go.Proofs.YtkmnkogbafhfdaaDoor
