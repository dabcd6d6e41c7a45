/-
  The document's hexa: what it answers for every two rows of digits.
-/
import Derived.Test.YtjgdbphhhplifaaDoorScG
namespace Go.Proofs.YtjgdbphhhplifaaDoor
open Go.RowKit

def boxP (m x : Int) (c : Bool) : Array Value := #[.bool false, .int .i64 2, .string ⟨#[]⟩, .int .i64 0, .bool false, .int .u64 m, .int .i64 x, .bool c]
/-- hexa's world: its answer's box, the parts' box. -/
structure XW (w wr : World) (m x : Int) (c : Bool) : Prop where
  bel : Below w.heap.size w wr
  sz : w.heap.size + 1 < wr.heap.size
  p : ∀ o, wr.cell? ⟨w.heap.size + 1, o, none⟩ = (boxP m x c)[o]?
  pf : ∀ o, wr.frozen? ⟨w.heap.size + 1, o, none⟩ = false
  r : ∀ o, wr.cell? ⟨w.heap.size, o, none⟩ = zeroP[o]?
  fr : ∀ o, wr.frozen? ⟨w.heap.size, o, none⟩ = false
theorem XW.start (w : World) : XW w ((w.alloc (.cells zeroP 26)).alloc (.cells (boxP 0 0 false) 26)) 0 0 false := by
  refine ⟨((Below.refl _ _).alloc (Nat.le_refl _) _).alloc (by simp) _, by simp, fun o => ?_, fun o => ?_, fun o => ?_, fun o => ?_⟩
  · rw [World.cell?_alloc_at _ _ _ _ (by simp)]
  · simp [go_sem]
  · rw [World.cell?_alloc_past _ _ _ (by simp), World.cell?_alloc_at _ _ _ _ rfl]
  · simp [go_sem]
theorem XW.set {w wr : World} {m x m2 x2 : Int} {c c2 : Bool} (h : XW w wr m x c) {i : Nat} {v : Value} (hi : (boxP m x c)[i]?.isSome = true) (hv : ∀ o, (boxP m2 x2 c2)[o]? = if o = i then some v else (boxP m x c)[o]?) : XW w (wr.setCell ⟨w.heap.size + 1, i, none⟩ v) m2 x2 c2 := by
  have hs := h.sz
  refine ⟨h.bel.setCell (by show w.heap.size ≤ w.heap.size + 1; omega) v, by rw [World.size_setCell]; exact hs, fun o => ?_, fun o => ?_, fun o => ?_, fun o => ?_⟩
  · rw [hv]
    by_cases z : o = i
    · subst z
      rw [if_pos rfl]
      obtain ⟨y, hy⟩ := Option.isSome_iff_exists.1 hi
      exact World.cell?_setCell_same wr ⟨w.heap.size + 1, o, none⟩ v ((h.p o).trans hy)
    · rw [if_neg z, World.cell?_setCell_other wr ⟨w.heap.size + 1, i, none⟩ ⟨w.heap.size + 1, o, none⟩ v (by intro q; injection q with _ q _; exact z q.symm)]
      exact h.p o
  · rw [World.frozen?_setCell]; exact h.pf o
  · rw [World.cell?_setCell_other wr ⟨w.heap.size + 1, i, none⟩ ⟨w.heap.size, o, none⟩ v (by intro q; injection q with q _ _; omega)]
    exact h.r o
  · rw [World.frozen?_setCell]; exact h.fr o
theorem XW.mant {w wr : World} {m x : Int} {c : Bool} (h : XW w wr m x c) (m2 : Int) : XW w (wr.setCell ⟨w.heap.size + 1, 5, none⟩ (.int .u64 m2)) m2 x c := by
  refine h.set rfl (fun o => ?_)
  match o with
  | 0 | 1 | 2 | 3 | 4 | 5 | 6 | 7 => rfl
  | n + 8 =>
    rw [if_neg (by omega)]
    rfl
theorem XW.exp {w wr : World} {m x : Int} {c : Bool} (h : XW w wr m x c) (x2 : Int) : XW w (wr.setCell ⟨w.heap.size + 1, 6, none⟩ (.int .i64 x2)) m x2 c := by
  refine h.set rfl (fun o => ?_)
  match o with
  | 0 | 1 | 2 | 3 | 4 | 5 | 6 | 7 => rfl
  | n + 8 =>
    rw [if_neg (by omega)]
    rfl
theorem XW.cutB {w wr : World} {m x : Int} {c : Bool} (h : XW w wr m x c) (c2 : Bool) : XW w (wr.setCell ⟨w.heap.size + 1, 7, none⟩ (.bool c2)) m x c2 := by
  refine h.set rfl (fun o => ?_)
  match o with
  | 0 | 1 | 2 | 3 | 4 | 5 | 6 | 7 => rfl
  | n + 8 =>
    rw [if_neg (by omega)]
    rfl
theorem xw_le {w : World} {o : Nat} : w.heap.size ≤ (⟨w.heap.size, o, none⟩ : Addr).block := Nat.le_refl _
set_option maxRecDepth 100000 in
set_option maxHeartbeats 2000000 in
theorem hexa_zero (W P : List UInt8) (hl : W.length + P.length ≤ 1048576) (e : Int) (h : nz (W ++ P) = (W ++ P).length) (w : World) : Calls Tryd.prog 31 #[.string (bl W), .string (bl P), .int .i64 e] w fun o w' => o = .returned (ptV (hxPt W P e)) ∧ Below w.heap.size w w' := by
  have ap := bl_append W P
  have hsum : ¬ 9223372036854775807 < (bl W).size + (bl P).size := by rw [bl_size, bl_size]; omega
  have NZ : ∀ V, Calls Tryd.prog 39 #[.string (bl (W ++ P))] V fun e w' => e = .returned (.int .i64 ((bl (W ++ P)).size : Int)) ∧ w' = V := fun V => by
    have := zeros_any (bl (W ++ P)) (by rw [bl_size, List.length_append]; exact hl) V
    rw [bl_list, h] at this
    exact this
  rw [hxPt_zero h]
  clear hl h
  generalize bl (W ++ P) = u at *
  generalize bl W = s at *
  generalize bl P = t at *
  go_enter Tryd.func31, Tryd.ntmps31
  go_wp2_with fail
  refine (NZ _).mono ?_
  rintro o w1 ⟨rfl, rfl⟩
  go_wp2
  refine bodyPost_ret (v := .agg #[.bool false, .int .i64 2, .string ⟨#[]⟩, .int .i64 0, .bool false, .int .u64 0, .int .i64 0, .bool false]) (by simp [results, Tryd.results31, go_sem]) rfl ⟨rfl, ?_⟩
  exact (Below.refl _ _).alloc (Nat.le_refl _) _
set_option maxRecDepth 100000 in
set_option maxHeartbeats 4000000 in
theorem hexa_some (W P : List UInt8) (hl : W.length + P.length ≤ 1048576) (hd : ∀ c ∈ W ++ P, isD 16 c = true) (e : Int) (he0 : -1099511627776 ≤ e) (he9 : e ≤ 1099511627776) (h : nz (W ++ P) ≠ (W ++ P).length) (w : World) : Calls Tryd.prog 31 #[.string (bl W), .string (bl P), .int .i64 e] w fun o w' => o = .returned (ptV (hxPt W P e)) ∧ Below w.heap.size w w' := by
  have ap := bl_append W P
  have hsum : ¬ 9223372036854775807 < (bl W).size + (bl P).size := by rw [bl_size, bl_size]; omega
  have hlen : (W ++ P).length ≤ 1048576 := by rw [List.length_append]; exact hl
  have NZ : ∀ V, Calls Tryd.prog 39 #[.string (bl (W ++ P))] V fun e w' => e = .returned (.int .i64 (nz (W ++ P) : Int)) ∧ w' = V := fun V => zeros_any (bl (W ++ P)) hlen V
  have hb : (bl (W ++ P)).size ≤ 1048576 := hlen
  have hz := nz_le (W ++ P)
  have BD := fun V => cut_any (e + 4 * (((bl W).size : Int) - hxK (W ++ P))) V
  have hWs : (bl W).size ≤ 1048576 := by rw [bl_size]; omega
  have HK : Hid (hxK (W ++ P) = min (nz (W ++ P) + 16) (W ++ P).length) := rfl
  have HM : Hid (hxM (W ++ P) = av 16 0 (((W ++ P).take (hxK (W ++ P))).drop (nz (W ++ P)))) := rfl
  have HU : Hid ((bl (W ++ P)).size = (W ++ P).length ∧ (∀ k (h : k < (W ++ P).length) (h' : k < (bl (W ++ P)).size), (bl (W ++ P))[k]'h' = (W ++ P)[k]'h) ∧ ∀ c ∈ W ++ P, isD 16 c = true) := ⟨rfl, fun _ _ _ => rfl, hd⟩
  rw [hxPt_some h, show (W.length : Int) = ((bl W).size : Int) from rfl]
  have HC : Hid (hxC (W ++ P) = anz ((W ++ P).drop (hxK (W ++ P)))) := rfl
  generalize ctI (e + 4 * (((bl W).size : Int) - hxK (W ++ P))) = X at *
  generalize hxC (W ++ P) = Y at *
  generalize hxM (W ++ P) = M at *
  generalize hxK (W ++ P) = K at *
  generalize hzz : nz (W ++ P) = z at *
  generalize W ++ P = a at *
  generalize bl a = u at *
  generalize bl W = s at *
  generalize bl P = t at *
  clear hzz hl hd
  have hua : u.size = a.length := HU.out.1
  have e1 : ((z : Int) == (u.size : Int)) = false := beq_eq_false_iff_ne.mpr (by omega)
  have hK1 : K ≤ u.size := by have := HK.out; omega
  have hK2 : z ≤ K := by have := HK.out; omega
  have hK3 : K ≤ z + 16 := by have := HK.out; omega
  have e4 : wrap64 ((s.size : Int) - (K : Int)) = (s.size : Int) - (K : Int) := by unfold wrap64; omega
  have e5 : wrap64 (4 * ((s.size : Int) - (K : Int))) = 4 * ((s.size : Int) - (K : Int)) := by unfold wrap64; omega
  have e6 : wrap64 (e + 4 * ((s.size : Int) - (K : Int))) = e + 4 * ((s.size : Int) - (K : Int)) := by unfold wrap64; omega
  have HKK : Hid (min (u.size : Int) ((z : Int) + 16) = (K : Int)) := by have := HK.out; show _ = _; omega
  have hz8 : z ≤ 1048576 := by omega
  clear hua hz h hlen he0 he9
  have HAV : Hid (∀ k, z ≤ k → k ≤ K → av 16 0 ((a.take k).drop z) < 16 ^ (k - z)) := fun k h1 h2 => by
    have := av_lt ((a.take k).drop z) (fun c hc => HU.out.2.2 c (List.mem_of_mem_take (List.mem_of_mem_drop hc))) 0
    have hl : ((a.take k).drop z).length = k - z := by rw [List.length_drop, List.length_take]; have := HU.out.1; omega
    rw [hl] at this
    omega
  have HX0 : Hid (XW w ((w.alloc (.cells zeroP 26)).alloc (.cells (boxP 0 0 false) 26)) 0 0 false) := XW.start w
  unfold zeroP boxP at HX0
  go_enter Tryd.func31, Tryd.ntmps31
  go_wp2_with fail
  refine (NZ _).mono ?_
  rintro o w1 ⟨rfl, rfl⟩
  go_wp2
  rw [HKK.out]
  go_loopw [11] (fun iv wr => ∃ (k m : Nat), z ≤ k ∧ k ≤ K ∧ iv = .int .i64 (k : Int) ∧ Hid (XW w wr (m : Int) 0 false) ∧ Hid (m = av 16 0 ((a.take k).drop z))) (fun iv _ => K - (intOf iv).toNat)
  case atStart => exact ⟨z, 0, Nat.le_refl _, hK2, rfl, HX0, by rw [List.drop_eq_nil_of_le (by rw [List.length_take]; omega)]; rfl⟩
  case round =>
    clear HX0
    obtain ⟨k, m, h1, h2, rfl, HXW, HI⟩ := hrel
    by_cases c1 : k < K
    · have i1 : (k : Int) < (K : Int) := by omega
      have i0 : (0 : Int) ≤ (k : Int) := by omega
      have hku : k < u.size := by omega
      have i2 : (k : Int) < (u.size : Int) := by omega
      have hka : k < a.length := by have := HU.out.1; omega
      have hg : u[k]'hku = a[k]'hka := HU.out.2.1 k hka hku
      have hdg0 := HU.out.2.2 _ (List.getElem_mem hka)
      have hdg : dv (a[k]'hka).toNat < 16 := of_decide_eq_true hdg0
      rw [isD_hex rfl] at hdg0
      have hcl := of_decide_eq_true hdg0
      have hm60 : m < 1152921504606846976 := by
        rw [HI.out]
        have q := HAV.out k h1 h2
        have : (16 : Nat) ^ (k - z) ≤ 16 ^ 15 := Nat.pow_le_pow_right (by omega) (by omega)
        have e15 : (16 : Nat) ^ 15 = 1152921504606846976 := by decide
        omega
      have HI2 : Hid (m * 16 + dv (a[k]'hka).toNat = av 16 0 ((a.take (k + 1)).drop z)) := by
        show _ = _
        rw [take_drop_succ a h1 hka, av_append, ← HI.out]
        show _ = avs 16 m (a[k]'hka)
        rw [avs_yes (by omega)]
      have hor := or_u64 m (dv (a[k]'hka).toNat) hm60 hdg
      have w16 : IntKind.u64.wrap ((m : Int) * 16) = (m : Int) * 16 := by rw [IntKind.wrap_u64]; omega
      have hdv : dv (a[k]'hka).toNat = if (a[k]'hka).toNat ≤ 57 then (a[k]'hka).toNat - 48 else if 97 ≤ (a[k]'hka).toNat then (a[k]'hka).toNat - 87 else (a[k]'hka).toNat - 55 := by
        unfold dv
        rcases hcl with q | q | q
        · rw [if_pos q, if_pos q.2]
        · rw [if_neg (by omega), if_pos (show 97 ≤ (a[k]'hka).toNat ∧ (a[k]'hka).toNat ≤ 122 by omega), if_neg (by omega), if_pos (by omega)]
        · rw [if_neg (by omega), if_neg (by omega), if_pos (show 65 ≤ (a[k]'hka).toNat ∧ (a[k]'hka).toNat ≤ 90 by omega), if_neg (by omega), if_neg (by omega)]
      have hx : ((((u[k]'hku).toNat : Nat) : Int)) = ((a[k]'hka).toNat : Int) := by rw [hg]
      clear hg HI hdg0
      generalize dv (a[k]'hka).toNat = d at *
      generalize (a[k]'hka).toNat = x at *
      obtain ⟨_, sz, pp, pf, _, _⟩ := HXW.out
      have p5 := pp 5
      have p7 := pp 7
      simp only [boxP] at p5 p7
      clear pp
      by_cases y1 : x ≤ 57
      · rw [if_pos y1] at hdv
        have t1 : (x : Int) ≤ 57 := by omega
        have w8 : IntKind.u8.wrap ((x : Int) - 48) = (x : Int) - 48 := by
          unfold IntKind.wrap
          simp [IntKind.bits, IntKind.signed]
          omega
        have hd2 : (x : Int) - 48 = (d : Int) := by omega
        have w6 : IntKind.u64.wrap ((x : Int) - 48) = (x : Int) - 48 := by rw [IntKind.wrap_u64]; omega
        have hor2 : bits BinOp.or IntKind.u64 ((m : Int) * 16) ((x : Int) - 48) = ((m * 16 + d : Nat) : Int) := by rw [hd2]; exact hor
        clear hd2 hor hdv
        go_wp2
        go_roundw
        case rel => exact ⟨k + 1, m * 16 + d, by omega, by omega, by go_num, by first | exact HXW.out.mant _ | (have q := HXW.out.mant ((m * 16 + d : Nat) : Int); rw [← hor2] at q; exact q) | (have q := HXW.out.mant ((m * 16 + d : Nat) : Int); simpa using q), HI2.out⟩
        case measure => simp [intOf]; omega
      · rw [if_neg y1] at hdv
        have t1 : ¬ (x : Int) ≤ 57 := by omega
        by_cases y2 : 97 ≤ x
        · rw [if_pos y2] at hdv
          have t2 : (97 : Int) ≤ (x : Int) := by omega
          have w8 : IntKind.u8.wrap ((x : Int) - 97) = (x : Int) - 97 := by
            unfold IntKind.wrap
            simp [IntKind.bits, IntKind.signed]
            omega
          have hd2 : (x : Int) - 97 + 10 = (d : Int) := by omega
          have w6 : IntKind.u64.wrap ((x : Int) - 97) = (x : Int) - 97 := by rw [IntKind.wrap_u64]; omega
          have w7 : IntKind.u64.wrap ((x : Int) - 97 + 10) = (x : Int) - 97 + 10 := by rw [IntKind.wrap_u64]; omega
          have hor2 : bits BinOp.or IntKind.u64 ((m : Int) * 16) ((x : Int) - 97 + 10) = ((m * 16 + d : Nat) : Int) := by rw [hd2]; exact hor
          clear hd2 hor hdv
          go_wp2
          go_roundw
          case rel => exact ⟨k + 1, m * 16 + d, by omega, by omega, by go_num, by first | exact HXW.out.mant _ | (have q := HXW.out.mant ((m * 16 + d : Nat) : Int); rw [← hor2] at q; exact q) | (have q := HXW.out.mant ((m * 16 + d : Nat) : Int); simpa using q), HI2.out⟩
          case measure => simp [intOf]; omega
        · rw [if_neg y2] at hdv
          have t2 : ¬ (97 : Int) ≤ (x : Int) := by omega
          have w8 : IntKind.u8.wrap ((x : Int) - 65) = (x : Int) - 65 := by
            unfold IntKind.wrap
            simp [IntKind.bits, IntKind.signed]
            omega
          have hd2 : (x : Int) - 65 + 10 = (d : Int) := by omega
          have w6 : IntKind.u64.wrap ((x : Int) - 65) = (x : Int) - 65 := by rw [IntKind.wrap_u64]; omega
          have w7 : IntKind.u64.wrap ((x : Int) - 65 + 10) = (x : Int) - 65 + 10 := by rw [IntKind.wrap_u64]; omega
          have hor2 : bits BinOp.or IntKind.u64 ((m : Int) * 16) ((x : Int) - 65 + 10) = ((m * 16 + d : Nat) : Int) := by rw [hd2]; exact hor
          clear hd2 hor hdv
          go_wp2
          go_roundw
          case rel => exact ⟨k + 1, m * 16 + d, by omega, by omega, by go_num, by first | exact HXW.out.mant _ | (have q := HXW.out.mant ((m * 16 + d : Nat) : Int); rw [← hor2] at q; exact q) | (have q := HXW.out.mant ((m * 16 + d : Nat) : Int); simpa using q), HI2.out⟩
          case measure => simp [intOf]; omega
    · obtain rfl : k = K := by omega
      have i1 : ¬ (k : Int) < (k : Int) := by omega
      have HMM : Hid (m = M) := HI.out.trans HM.out.symm
      have hmm := HMM.out
      subst hmm
      have HXK : Hid (XW w wr (m : Int) 0 false) := HXW
      clear HI HM HAV HK HKK HMM HXW
      go_wp2
      go_loopw [14] (fun iv wr2 => ∃ (j : Nat) (c : Bool), k ≤ j ∧ j ≤ u.size ∧ iv = .int .i64 (j : Int) ∧ Hid (XW w wr2 (m : Int) 0 c) ∧ Hid (c = anz ((a.take j).drop k))) (fun iv _ => u.size - (intOf iv).toNat)
      case atStart => exact ⟨k, false, Nat.le_refl _, hK1, rfl, HXK, by rw [List.drop_eq_nil_of_le (by rw [List.length_take]; omega)]; rfl⟩
      case round =>
        clear HXK
        obtain ⟨j, c, h3, h4, rfl, HXW, HI⟩ := hrel
        by_cases c2 : j < u.size
        · have i4 : (j : Int) < (u.size : Int) := by omega
          have i5 : (0 : Int) ≤ (j : Int) := by omega
          have hja : j < a.length := by have := HU.out.1; omega
          have hg : u[j]'c2 = a[j]'hja := HU.out.2.1 j hja c2
          have HS : Hid (anz ((a.take (j + 1)).drop k) = (anz ((a.take j).drop k) || (a[j]'hja != 48))) := by
            show _ = _
            rw [take_drop_succ a h3 hja]
            unfold anz
            rw [List.any_append]; simp
          obtain ⟨_, sz, pp, pf, _, _⟩ := HXW.out
          have p5 := pp 5
          have p7 := pp 7
          simp only [boxP] at p5 p7
          clear pp
          cases c with
          | true =>
            have HI2 : Hid (true = anz ((a.take (j + 1)).drop k)) := by show _ = _; rw [HS.out, ← HI.out]; rfl
            clear HS hg HI
            go_wp2
            go_roundw
            case rel => exact ⟨j + 1, true, by omega, by omega, by go_num, HXW.out.cutB true, HI2⟩
            case measure => simp [intOf]; omega
          | false =>
            by_cases y : a[j]'hja = 48
            · have x9 : ((((u[j]'c2).toNat : Nat) : Int)) = 48 := by rw [hg, y]; rfl
              have HI2 : Hid (false = anz ((a.take (j + 1)).drop k)) := by show _ = _; rw [HS.out, ← HI.out, y]; rfl
              clear HS hg HI y
              go_wp2
              go_roundw
              case rel => exact ⟨j + 1, false, by omega, by omega, by go_num, HXW.out.cutB false, HI2⟩
              case measure => simp [intOf]; omega
            · have x8 : ((((u[j]'c2).toNat : Nat) : Int) != 48) = true := by
                rw [hg]
                exact bne_iff_ne.mpr fun q => y (UInt8.toNat_inj.1 (Int.ofNat_inj.1 q))
              have HI2 : Hid (true = anz ((a.take (j + 1)).drop k)) := by show _ = _; rw [HS.out, ← HI.out, show (a[j]'hja != 48) = true from bne_iff_ne.mpr y]; rfl
              clear HS hg HI y
              go_wp2
              go_roundw
              case rel => exact ⟨j + 1, true, by omega, by omega, by go_num, HXW.out.cutB true, HI2⟩
              case measure => simp [intOf]; omega
        · obtain rfl : j = u.size := by omega
          have i4 : ¬ (u.size : Int) < (u.size : Int) := by omega
          have HCC : Hid (c = Y) := by
            show _ = _
            rw [HI.out, HC.out, List.take_of_length_le (by have := HU.out.1; omega)]
          have hcc := HCC.out
          subst hcc
          clear HI HC HCC
          obtain ⟨_, sz, pp, pf, rr, fr⟩ := HXW.out
          have p0 := pp 0
          have p1 := pp 1
          have p2 := pp 2
          have p3 := pp 3
          have p4 := pp 4
          have p5 := pp 5
          have p6 := pp 6
          have p7 := pp 7
          have r0 := rr 0
          have r1 := rr 1
          have r2 := rr 2
          have r3 := rr 3
          have r4 := rr 4
          have r5 := rr 5
          have r6 := rr 6
          have r7 := rr 7
          simp only [zeroP, boxP] at p0 p1 p2 p3 p4 p5 p6 p7 r0 r1 r2 r3 r4 r5 r6 r7
          clear pp rr
          go_wp2_with fail
          refine (BD _).mono ?_
          rintro o w2 ⟨rfl, rfl⟩
          go_wp2
          refine bodyPost_ret (v := .agg #[.bool false, .int .i64 2, .string ⟨#[]⟩, .int .i64 0, .bool false, .int .u64 (m : Int), .int .i64 X, .bool c]) (by simp [results, Tryd.results31, go_sem, *]) rfl ⟨rfl, ?_⟩
          iterate 8 (refine Below.setCell ?_ xw_le _)
          refine Below.setCell ?_ set_le _
          exact HXW.out.bel
theorem hexa_any (W P : List UInt8) (hl : W.length + P.length ≤ 1048576) (hd : ∀ c ∈ W ++ P, isD 16 c = true) (e : Int) (he0 : -1099511627776 ≤ e) (he9 : e ≤ 1099511627776) (w : World) : Calls Tryd.prog 31 #[.string (bl W), .string (bl P), .int .i64 e] w fun o w' => o = .returned (ptV (hxPt W P e)) ∧ Below w.heap.size w w' := by
  by_cases h : nz (W ++ P) = (W ++ P).length
  · exact hexa_zero W P hl e h w
  · exact hexa_some W P hl hd e he0 he9 h w
end Go.Proofs.YtjgdbphhhplifaaDoor
