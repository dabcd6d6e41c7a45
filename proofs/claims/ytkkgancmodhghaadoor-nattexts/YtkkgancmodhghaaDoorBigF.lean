/-
  What the document's Tell and Digits answer.
-/
import Derived.Test.YtkkgancmodhghaaDoorBigE
import Derived.Deep.AppendLies
namespace Go.Proofs.YtkkgancmodhghaaDoor
open Go.RowKit

theorem own_below {w w' : World} {base : Nat} {e : TypeId} {v : Value} {n : Nat} {xs : List Value} (h : w.ownsRow base e 1 v n xs) (hb : Below w.heap.size w w') : w'.ownsRow base e 1 v n xs := by
  refine ⟨h.1, ?_⟩
  rcases h.2 with q | ⟨g, cap, cur, e1, e2, e3, r⟩
  · exact Or.inl q
  · exact Or.inr ⟨g, cap, cur, e1, e2, (hb.block g (Array.getElem?_eq_some_iff.1 e3).1).trans e3, r⟩
/-- A number apart from a row that is appended to. -/
def QV (w : World) (tv v : Value) (Y : Nat) : Prop := ∃ ao n c b o f, v = .slice ao n c ∧ Big.Sl w ao n c b o f ∧ Big.Top f n ∧ Big.V f n = Y ∧ (0 < n → tv.ownBlock ≠ some b)
theorem QV.nat {w : World} {tv v : Value} {Y : Nat} (h : QV w tv v Y) : Big.NatV w v Y := by
  obtain ⟨ao, n, c, b, o, f, e, S, t, r, _⟩ := h
  exact ⟨ao, n, c, b, o, f, e, S, t, r⟩
theorem Big.NewV.qv {w w0 : World} {base' : Nat} {e : TypeId} {tv v : Value} {n : Nat} {xs : List Value} {Y : Nat} (h : Big.NewV w w0.heap.size v Y) (ho : w0.ownsRow base' e 1 tv n xs) : QV w tv v Y := by
  obtain ⟨ao, n, c, b, o, f, e, S, t, r, a⟩ := h
  exact ⟨ao, n, c, b, o, f, e, S, t, r, fun q z => by have := a q; have := (ho.lt b z).2; omega⟩
/-- One more behind the row: the number stays. -/
theorem QV.next {w w3 : World} {tv v : Value} {Y : Nat} {ob : Obj} {gg n cap : Nat} (h : QV w tv v Y) (hg : (w.alloc ob).grownBy w3 tv.ownBlock) (hat : tv.ownBlock = some gg ∨ gg = w.heap.size + 1) : QV w3 (.slice (some ⟨gg, 0, none⟩) n cap) v Y := by
  obtain ⟨ao, n, c, b, o, f, e, S, t, r, a⟩ := h
  have S1 := S.below ((Below.refl _ _).alloc (Nat.le_refl _) ob)
  refine ⟨ao, n, c, b, o, f, e, ⟨S.le, S.cap, S.addr, fun q => Nat.lt_of_lt_of_le (S1.blk q) hg.size, fun i hi => ?_, S.ws⟩, t, r, fun q z => ?_⟩
  · rw [World.cell?_of_block (hg.block b (S1.blk (by omega)) (fun z => a (by omega) z.symm))]
    exact S1.cell i hi
  · have z' : gg = b := by simpa [Value.ownBlock] using z
    subst z'
    rcases hat with y | y
    · exact a q y
    · have := S.blk q; omega

theorem tell_digit {b X Y P k n t : Nat} (hP : P = b ^ k) (hY : Y = X / b ^ n) (ht : t < k) : Y % P / b ^ t % b = X / b ^ (n + t) % b := by
  rw [hP, hY, show b ^ k = b ^ t * b ^ (k - t) by rw [← Nat.pow_add, show t + (k - t) = k by omega], Nat.mod_mul_right_div_self, Nat.div_div_eq_div_mul, ← Nat.pow_add]
  refine Nat.mod_mod_of_dvd _ ?_
  rw [show k - t = k - t - 1 + 1 by omega, Nat.pow_succ]
  exact Nat.dvd_mul_left _ _
theorem tell_more {b X Y P k n : Nat} (hP : P = b ^ k) (hY : Y = X / b ^ n) : Y / P = X / b ^ (n + k) := by
  rw [hP, hY, Nat.div_div_eq_div_mul, ← Nat.pow_add]
theorem tell_last {b X Y P k n t : Nat} (hb : 2 ≤ b) (hP : P = b ^ k) (hY : Y = X / b ^ n) (h0 : Y ≠ 0) (hz : Y / P = 0) (he : Y % P / b ^ t = 0) (ht : t = 0 ∨ Y / P ≠ 0 ∨ Y % P / b ^ (t - 1) ≠ 0) : 1 ≤ n + t ∧ b ^ (n + t - 1) ≤ X ∧ X < b ^ (n + t) := by
  have hlt : Y < P := by
    rcases Nat.lt_or_ge Y P with q | q
    · exact q
    · have hP0 : 0 < P := by rw [hP]; exact Nat.pow_pos (by omega)
      have := Nat.div_le_div_right (c := P) q
      rw [Nat.div_self hP0] at this
      omega
  rw [Nat.mod_eq_of_lt hlt] at he ht
  have t1 : 1 ≤ t := by
    rcases Nat.eq_zero_or_pos t with q | q
    · rw [q, Nat.pow_zero, Nat.div_one] at he; exact absurd he h0
    · exact q
  have hne : Y / b ^ (t - 1) ≠ 0 := by
    rcases ht with q | q | q
    · omega
    · exact absurd hz q
    · exact q
  have p1 : 0 < b ^ (n + t) := Nat.pow_pos (by omega)
  have p2 : 0 < b ^ (n + (t - 1)) := Nat.pow_pos (by omega)
  rw [hY, Nat.div_div_eq_div_mul, ← Nat.pow_add] at he hne
  refine ⟨by omega, ?_, (Nat.div_eq_zero_iff_lt p1).mp he⟩
  rw [show n + t - 1 = n + (t - 1) by omega]
  rcases Nat.lt_or_ge X (b ^ (n + (t - 1))) with q | q
  · exact absurd (Nat.div_eq_of_lt q) hne
  · exact q
theorem few2 {X n b : Nat} (hb : 2 ≤ b) (hX : X < B ^ 128) (h : X / b ^ n ≠ 0) : n ≤ 8192 := by
  have := few (r := n) (k := 1) hb hX (by rw [Nat.mul_one]; exact h) rfl
  omega

set_option maxRecDepth 100000 in
set_option maxHeartbeats 4000000 in
theorem tell_any {w : World} {va : Value} {X : Nat} (ha : Big.NatV w va X) (hX0 : X ≠ 0) (hXB : X < B ^ 128) (b : Nat) (h1 : 2 ≤ b) (h2 : b ≤ 36) :
    Calls Tryd.prog 76 #[va, .int .i64 (b : Int)] w fun e w' => ∃ K, e = .returned (.string (rowText b X K)) ∧ 1 ≤ K ∧ b ^ (K - 1) ≤ X ∧ X < b ^ K ∧ Below w.heap.size w w' := by
  obtain ⟨i0, hi, hz0, hz1, hz2⟩ := info_parts info_u8
  have HX : Hid (X ≠ 0 ∧ X < B ^ 128) := ⟨hX0, hXB⟩
  have HA : Hid (Big.NatV w va X) := ha
  obtain ⟨a0, l0, c0, k0, o0, f0, rfl, S0, t0, hv0⟩ := ha
  have hl0 : ((l0 : Int) == 0) = false := beq_eq_false_iff_ne.mpr (by
    intro e
    have e' : l0 = 0 := by omega
    subst e'
    exact hX0 hv0.symm)
  have u1 : IntKind.u64.wrap (b : Int) = (b : Int) := by rw [IntKind.wrap_u64]; omega
  clear hX0 hXB S0 t0 hv0
  go_enter Tryd.func76, Tryd.ntmps76
  go_wp2
  go_loop [5, 6] (fun c p => ∃ k P : Nat, c = .int .i64 (k : Int) ∧ p = .int .u64 (P : Int) ∧ Hid (P = b ^ k) ∧ 1 ≤ k ∧ k ≤ 32 ∧ P < 4294967296) (fun c _ => 32 - (intOf c).toNat)
  case atStart => exact ⟨1, b, rfl, rfl, by show b = b ^ 1; rw [Nat.pow_one], by omega, by omega, by omega⟩
  case round =>
    obtain ⟨k, P, rfl, rfl, HP, hk1, hk2, hP4⟩ := hrel
    have pm : (P : Int) * (b : Int) = ((P * b : Nat) : Int) := by rw [Int.natCast_mul]
    have pl : P * b ≤ 4294967296 * 36 := Nat.mul_le_mul (by omega) h2
    have HQ : Hid (P * b = b ^ (k + 1)) := by
      show _ = _
      rw [Nat.pow_succ, HP.out]
    by_cases c0 : P * b < 4294967296
    · have hk3 : k < 32 := by
        rcases Nat.lt_or_ge k 32 with q | q
        · exact q
        · exfalso
          have a : 2 ^ 32 ≤ 2 ^ (k + 1) := Nat.pow_le_pow_right (by omega) (by omega)
          have c : 2 ^ (k + 1) ≤ b ^ (k + 1) := Nat.pow_le_pow_left h1 _
          have := HQ.out
          omega
      generalize P * b = Q at *
      have c0' : (Q : Int) < 4294967296 := by omega
      go_wp2
      go_round
      case rel => exact ⟨k + 1, Q, by go_num, rfl, HQ.out, by omega, by omega, c0⟩
      case measure => simp [intOf]; omega
    · have hP2 : 2 ≤ P := by
        rw [HP.out]
        have q : b ^ 1 ≤ b ^ k := Nat.pow_le_pow_right (by omega) hk1
        rw [Nat.pow_one] at q
        omega
      have c0' : ¬ ((P * b : Nat) : Int) < 4294967296 := by omega
      have hq2 : P * b < 18446744073709551616 := by omega
      generalize P * b = Q at *
      clear c0 HQ pl
      go_wp2
      clear pm
      go_loopg [0, 7] X (fun gk a tv wr => ∃ (n : Nat), QV wr tv a gk ∧ wr.ownsRow w.heap.size 5 1 tv n (chV (lows b X n)) ∧ Below w.heap.size w wr ∧ n ≤ 9000 ∧ Hid ((gk ≠ 0 ∧ gk = X / b ^ n) ∨ (gk = 0 ∧ 1 ≤ n ∧ b ^ (n - 1) ≤ X ∧ X < b ^ n)))
      case atStart =>
        obtain ⟨ao, n, c, bb, o, f, e, S, t, r⟩ := HA.out
        exact ⟨0, ⟨ao, n, c, bb, o, f, e, S, t, r, fun _ z => by cases z⟩, World.ownsRow_nil _ _ _ _, Below.refl _ _, by omega, Or.inl ⟨HX.out.1, by rw [Nat.pow_zero, Nat.div_one]⟩⟩
      case round =>
        obtain ⟨n, hqv, hown, hbl, hn9, HG⟩ := hrel
        have hqv2 := hqv
        obtain ⟨al, ll, cl, bl', ol, fl, rfl, Sl0, tl0, hvl, _⟩ := hqv2
        have hsz := hbl.size
        by_cases c1 : 0 < ll
        · have c1' : (0 : Int) < (ll : Int) := by omega
          have hg0 : gk ≠ 0 := by
            have q := Big.Top_ge tl0 c1
            have := Big.Bp_pos (ll - 1)
            omega
          have hgx : gk = X / b ^ n := by
            rcases HG.out with q | q
            · exact q.2
            · exact absurd q.1 hg0
          have hn8 : n ≤ 8192 := few2 h1 HX.out.2 (by rw [← hgx]; exact hg0)
          have hlen : ll ≤ 1000 := by
            have fx : Fits 256 gk := (Fits.word (n := 128) HX.out.2).le (by rw [hgx]; exact Nat.div_le_self _ _)
            exact Nat.le_trans (big_len tl0 (by rw [hvl]; exact fx)) (by omega)
          have BW := byword_big Sl0 hlen P (by omega) hP4
          rw [hvl] at BW
          have HGK : Hid (gk ≠ 0 ∧ gk = X / b ^ n ∧ gk % P < P) := ⟨hg0, hgx, Nat.mod_lt _ (by omega)⟩
          have HO : Hid (wr.ownsRow w.heap.size 5 1 u7 n (chV (lows b X n)) ∧ Below w.heap.size w wr) := ⟨hown, hbl⟩
          obtain ⟨rm, hrm⟩ : ∃ rm, gk % P = rm := ⟨_, rfl⟩
          have HRM : Hid (gk % P = rm) := hrm
          have hrm4 : rm < 4294967296 := by have := HGK.out.2.2; omega
          rw [hrm] at BW
          clear hg0 hgx hvl tl0 Sl0 hqv HG hown hbl hrm
          go_wp2_with fail
          refine BW.mono ?_
          rintro e w2 ⟨vq, rfl, nq, b2⟩
          have own2 := own_below HO.out.1 b2
          have qv2 := nq.qv HO.out.1
          have B2 : Below w.heap.size w w2 := HO.out.2.trans (b2.mono HO.out.2.size)
          obtain ⟨aq, lq, cq, bq, oq, fq, rfl, Sq, tq, hvq, apq⟩ := qv2
          have HLQ : Hid ((0 < lq ∧ gk / P ≠ 0) ∨ (lq = 0 ∧ gk / P = 0)) := by
            rcases Nat.eq_zero_or_pos lq with z | z
            · exact Or.inr ⟨z, by rw [← hvq, z]; rfl⟩
            · refine Or.inl ⟨z, ?_⟩
              have q := Big.Top_ge tq z
              have := Big.Bp_pos (lq - 1)
              omega
          have HQ2 : Hid (QV w2 u7 (.slice aq lq cq) (gk / P) ∧ w2.ownsRow w.heap.size 5 1 u7 n (chV (lows b X n)) ∧ Below w.heap.size w w2) := ⟨⟨aq, lq, cq, bq, oq, fq, rfl, Sq, tq, hvq, apq⟩, own2, B2⟩
          clear BW nq b2 own2 B2 Sq tq hvq apq HO
          go_wp2
          go_loopw [7, 9, 10] (fun tv r i w' => ∃ (t z : Nat), r = .int .u64 (z : Int) ∧ i = .int .i64 (t : Int) ∧ t ≤ k ∧ z < 4294967296 ∧ QV w' tv (.slice aq lq cq) (gk / P) ∧ w'.ownsRow w.heap.size 5 1 tv (n + t) (chV (lows b X (n + t))) ∧ Below w.heap.size w w' ∧ Hid (z = gk % P / b ^ t ∧ (t = 0 ∨ gk / P ≠ 0 ∨ gk % P / b ^ (t - 1) ≠ 0))) (fun _ _ i _ => k - (intOf i).toNat)
          case atStart => exact ⟨0, rm, rfl, rfl, Nat.zero_le _, hrm4, HQ2.out.1, HQ2.out.2.1, HQ2.out.2.2, ⟨by rw [Nat.pow_zero, Nat.div_one]; exact HRM.out.symm, Or.inl rfl⟩⟩
          case round =>
            clear HQ2
            obtain ⟨t, z, rfl, rfl, ht, hz4, hqv, hown, hbl, HZ⟩ := hrel
            have hsz := hbl.size
            by_cases c2 : t < k
            · have c2' : (t : Int) < (k : Int) := by omega
              rcases HLQ.out with ⟨q1, q2⟩ | ⟨q1, q2⟩
              · have q1' : (0 : Int) < (lq : Int) := by omega
                have hr36 : z % b < 36 := Nat.lt_of_lt_of_le (Nat.mod_lt _ (by omega)) h2
                have m1 : (z : Int) % (b : Int) = ((z % b : Nat) : Int) := by rw [Int.natCast_emod]
                have m2 : (z : Int) / (b : Int) = ((z / b : Nat) : Int) := by rw [Int.natCast_ediv]
                have hdz : z / b ≤ z := Nat.div_le_self _ _
                have HS : Hid (z / b = gk % P / b ^ (t + 1) ∧ z % b = X / b ^ (n + t) % b ∧ gk % P / b ^ t = z) := ⟨by rw [HZ.out.1, Nat.div_div_eq_div_mul, Nat.pow_succ], by rw [HZ.out.1]; exact tell_digit HP.out HGK.out.2.1 c2, HZ.out.1.symm⟩
                have hc := ch_at hr36
                generalize z % b = r at *
                generalize z / b = zq at *
                obtain ⟨cr, hcr⟩ : ∃ c, ch r = c := ⟨_, rfl⟩
                rw [hcr] at hc
                have HC : Hid (ch r = cr) := hcr
                have hq0 : (0 : Int) ≤ (zq : Int) := by omega
                have e3 : IntKind.u64.wrap (zq : Int) = (zq : Int) := by rw [IntKind.wrap_u64]; omega
                have HQO : Hid (QV wr u7 (.slice aq lq cq) (gk / P) ∧ wr.ownsRow w.heap.size 5 1 u7 (n + t) (chV (lows b X (n + t))) ∧ Below w.heap.size w wr) := ⟨hqv, hown, hbl⟩
                clear hcr hqv
                go_wp2_with (first
                  | (at_builtin; refine wpList_append_lies _ rfl _ _ 105 rfl w.heap.size 5 i0 (.int .u8 0) 1 1 und_text hi hz0 hz1 hz2 rfl (by decide) _ _ _ rfl (hown.alloc _) ⟨wr.heap.size, 0, none⟩ 1 1 [.int .u8 (cr : Int)] rfl rfl (World.news_of_block (cs := #[.int .u8 (cr : Int)]) (t := 5) (fr := (0, 0)) (heap_alloc_new wr _)) (by simp [Value.oneCell']) (by omega) (by unfold maxLen; omega) (by omega) (by rw [World.size_alloc]; omega) (wr.heap.size + 1) (by simp) ?_)
                  | go_in)
                intro gg cap w3 hown' hgrow hat hlt
                have hb3 : Below w.heap.size w w3 := (hbl.alloc (by omega) _).grown hgrow (by rw [World.size_alloc]; omega) (fun q hq => (hown.lt q hq).1)
                have HO3 : Hid (QV w3 (.slice (some ⟨gg, 0, none⟩) (n + t + 1) cap) (.slice aq lq cq) (gk / P) ∧ w3.ownsRow w.heap.size 5 1 (.slice (some ⟨gg, 0, none⟩) (n + t + 1) cap) (n + (t + 1)) (chV (lows b X (n + (t + 1)))) ∧ Below w.heap.size w w3) := by
                  refine ⟨HQO.out.1.next hgrow hat, ?_, hb3⟩
                  rw [← Nat.add_assoc, lows_succ, chV_append, ← HS.out.2.1]
                  have e : chV [r] = [.int .u8 (cr : Int)] := by unfold chV; rw [List.map_cons, HC.out]; rfl
                  rw [e]
                  exact hown'
                clear hown' hb3 hgrow hat hlt hown hbl
                go_wp2
                go_roundw
                case rel => exact ⟨t + 1, zq, by first | rfl | (congr 1; rw [IntKind.wrap_u64]; omega), by go_num, by omega, by omega, HO3.out.1, HO3.out.2.1, HO3.out.2.2, ⟨HS.out.1, Or.inr (Or.inl q2)⟩⟩
                case measure => simp [intOf]; omega

              · subst q1
                by_cases c3 : 0 < z
                · have c3' : (0 : Int) < (z : Int) := by omega
                  have hr36 : z % b < 36 := Nat.lt_of_lt_of_le (Nat.mod_lt _ (by omega)) h2
                  have m1 : (z : Int) % (b : Int) = ((z % b : Nat) : Int) := by rw [Int.natCast_emod]
                  have m2 : (z : Int) / (b : Int) = ((z / b : Nat) : Int) := by rw [Int.natCast_ediv]
                  have hdz : z / b ≤ z := Nat.div_le_self _ _
                  have HS : Hid (z / b = gk % P / b ^ (t + 1) ∧ z % b = X / b ^ (n + t) % b ∧ gk % P / b ^ t = z) := ⟨by rw [HZ.out.1, Nat.div_div_eq_div_mul, Nat.pow_succ], by rw [HZ.out.1]; exact tell_digit HP.out HGK.out.2.1 c2, HZ.out.1.symm⟩
                  have hc := ch_at hr36
                  generalize z % b = r at *
                  generalize z / b = zq at *
                  obtain ⟨cr, hcr⟩ : ∃ c, ch r = c := ⟨_, rfl⟩
                  rw [hcr] at hc
                  have HC : Hid (ch r = cr) := hcr
                  have hq0 : (0 : Int) ≤ (zq : Int) := by omega
                  have e3 : IntKind.u64.wrap (zq : Int) = (zq : Int) := by rw [IntKind.wrap_u64]; omega
                  have HQO : Hid (QV wr u7 (.slice aq 0 cq) (gk / P) ∧ wr.ownsRow w.heap.size 5 1 u7 (n + t) (chV (lows b X (n + t))) ∧ Below w.heap.size w wr) := ⟨hqv, hown, hbl⟩
                  clear hcr hqv
                  go_wp2_with (first
                    | (at_builtin; refine wpList_append_lies _ rfl _ _ 105 rfl w.heap.size 5 i0 (.int .u8 0) 1 1 und_text hi hz0 hz1 hz2 rfl (by decide) _ _ _ rfl (hown.alloc _) ⟨wr.heap.size, 0, none⟩ 1 1 [.int .u8 (cr : Int)] rfl rfl (World.news_of_block (cs := #[.int .u8 (cr : Int)]) (t := 5) (fr := (0, 0)) (heap_alloc_new wr _)) (by simp [Value.oneCell']) (by omega) (by unfold maxLen; omega) (by omega) (by rw [World.size_alloc]; omega) (wr.heap.size + 1) (by simp) ?_)
                    | go_in)
                  intro gg cap w3 hown' hgrow hat hlt
                  have hb3 : Below w.heap.size w w3 := (hbl.alloc (by omega) _).grown hgrow (by rw [World.size_alloc]; omega) (fun q hq => (hown.lt q hq).1)
                  have HO3 : Hid (QV w3 (.slice (some ⟨gg, 0, none⟩) (n + t + 1) cap) (.slice aq 0 cq) (gk / P) ∧ w3.ownsRow w.heap.size 5 1 (.slice (some ⟨gg, 0, none⟩) (n + t + 1) cap) (n + (t + 1)) (chV (lows b X (n + (t + 1)))) ∧ Below w.heap.size w w3) := by
                    refine ⟨HQO.out.1.next hgrow hat, ?_, hb3⟩
                    rw [← Nat.add_assoc, lows_succ, chV_append, ← HS.out.2.1]
                    have e : chV [r] = [.int .u8 (cr : Int)] := by unfold chV; rw [List.map_cons, HC.out]; rfl
                    rw [e]
                    exact hown'
                  clear hown' hb3 hgrow hat hlt hown hbl
                  go_wp2
                  go_roundw
                  case rel => exact ⟨t + 1, zq, by first | rfl | (congr 1; rw [IntKind.wrap_u64]; omega), by go_num, by omega, by omega, HO3.out.1, HO3.out.2.1, HO3.out.2.2, ⟨HS.out.1, Or.inr (Or.inr (by rw [Nat.add_sub_cancel, HS.out.2.2]; omega))⟩⟩
                  case measure => simp [intOf]; omega

                · obtain rfl : z = 0 := by omega
                  have HN : Hid ((gk / P ≠ 0 ∧ gk / P = X / b ^ (n + t)) ∨ (gk / P = 0 ∧ 1 ≤ n + t ∧ b ^ (n + t - 1) ≤ X ∧ X < b ^ (n + t))) := Or.inr ⟨q2, tell_last h1 HP.out HGK.out.2.1 HGK.out.1 q2 HZ.out.1.symm HZ.out.2⟩
                  have hlt : gk / P < gk := Nat.div_lt_self (Nat.pos_of_ne_zero HGK.out.1) hP2
                  have HQO : Hid (QV wr u7 (.slice aq 0 cq) (gk / P) ∧ wr.ownsRow w.heap.size 5 1 u7 (n + t) (chV (lows b X (n + t))) ∧ Below w.heap.size w wr ∧ gk / P < gk) := ⟨hqv, hown, hbl, hlt⟩
                  clear hqv hown hbl hlt
                  go_wp2
                  go_roundg (gk / P)
                  case measure => exact HQO.out.2.2.2
                  case rel => exact ⟨n + t, HQO.out.1, HQO.out.2.1, HQO.out.2.2.1, by omega, HN.out⟩

            · have c2' : ¬ (t : Int) < (k : Int) := by omega
              obtain rfl : t = k := by omega
              have HN : Hid ((gk / P ≠ 0 ∧ gk / P = X / b ^ (n + t)) ∨ (gk / P = 0 ∧ 1 ≤ n + t ∧ b ^ (n + t - 1) ≤ X ∧ X < b ^ (n + t))) := by
                show _ ∨ _
                by_cases y : gk / P = 0
                · exact Or.inr ⟨y, tell_last h1 HP.out HGK.out.2.1 HGK.out.1 y (by rw [← HP.out]; exact Nat.div_eq_of_lt HGK.out.2.2) HZ.out.2⟩
                · exact Or.inl ⟨y, tell_more HP.out HGK.out.2.1⟩
              have hlt : gk / P < gk := Nat.div_lt_self (Nat.pos_of_ne_zero HGK.out.1) hP2
              have HQO : Hid (QV wr u7 (.slice aq lq cq) (gk / P) ∧ wr.ownsRow w.heap.size 5 1 u7 (n + t) (chV (lows b X (n + t))) ∧ Below w.heap.size w wr ∧ gk / P < gk) := ⟨hqv, hown, hbl, hlt⟩
              clear hqv hown hbl hlt
              go_wp2
              go_roundg (gk / P)
              case measure => exact HQO.out.2.2.2
              case rel => exact ⟨n + t, HQO.out.1, HQO.out.2.1, HQO.out.2.2.1, by omega, HN.out⟩

        · obtain rfl : ll = 0 := by omega
          have hgk : gk = 0 := hvl.symm
          subst hgk
          have hK : 1 ≤ n ∧ b ^ (n - 1) ≤ X ∧ X < b ^ n := by
            rcases HG.out with q | q
            · exact absurd rfl q.1
            · exact q.2
          have HK : Hid (1 ≤ n ∧ b ^ (n - 1) ≤ X ∧ X < b ^ n ∧ Below w.heap.size w wr) := ⟨hK.1, hK.2.1, hK.2.2, hbl⟩
          have hn1 := hK.1
          rcases hown.2 with ⟨_, q⟩ | ⟨gt, cap, cur, hv, hbg, hheap, hle, hmx, hcs, htk⟩
          · omega
          rw [Nat.mul_one] at hcs htk
          have hgl : gt < wr.heap.size := (Array.getElem?_eq_some_iff.1 hheap).1
          have hcell : ∀ i, i < n → wr.cell? ⟨gt, i, none⟩ = some (.int .u8 ((ch (X / b ^ i % b) : Nat) : Int)) := by
            intro i hi
            have q : (cur.toList.take n)[i]? = (chV (lows b X n))[i]? := by rw [htk]
            rw [List.getElem?_take_of_lt hi] at q
            have q2 : (chV (lows b X n))[i]? = some (.int .u8 ((ch (X / b ^ i % b) : Nat) : Int)) := by
              unfold chV lows
              rw [List.getElem?_map, List.getElem?_map, List.getElem?_range hi]
              rfl
            rw [q2] at q
            have q3 : cur[i]? = some (.int .u8 ((ch (X / b ^ i % b) : Nat) : Int)) := by simpa using q
            simp [World.cell?, hheap, q3]
          have HC : Hid (∀ i, i < n → wr.cell? ⟨gt, i, none⟩ = some (.int .u8 ((ch (X / b ^ i % b) : Nat) : Int))) := hcell
          clear hK hqv Sl0 tl0 hvl hown hheap htk hcs hcell HG hbl
          subst hv
          go_wp2
          obtain ⟨w5, hw5⟩ : ∃ w5, w5 = wr := ⟨_, rfl⟩
          rw [← hw5]
          have HW5 : Hid (w5 = wr) := hw5
          go_loopw [11, 12] (fun v i w' => ∃ m : Nat, i = .int .i64 ((m : Int) - 1) ∧ m ≤ n ∧ w'.ownsRow w5.heap.size 5 1 v (n - m) (dV .u8 (fun j => ch (X / b ^ (n - 1 - j) % b)) (n - m)) ∧ Below w5.heap.size w5 w') (fun _ i _ => (intOf i + 1).toNat)
          case atStart => exact ⟨n, rfl, Nat.le_refl _, by rw [Nat.sub_self]; exact World.ownsRow_nil _ _ _ _, Below.refl _ _⟩
          case round =>
            obtain ⟨m, rfl, hm, hown, hbl⟩ := hrel
            subst hw5
            have hsz := hbl.size
            by_cases c3 : 0 < m
            · obtain ⟨j, rfl⟩ : ∃ j, m = j + 1 := ⟨m - 1, by omega⟩
              have ij : ((j + 1 : Nat) : Int) - 1 = (j : Int) := by omega
              simp only [Int.natCast_add, Int.natCast_one] at ij
              have cz := (hbl.cell (p := ⟨gt, j, none⟩) hgl).trans (HC.out j (by omega))
              have HE : Hid (n - j = n - (j + 1) + 1 ∧ n - 1 - (n - (j + 1)) = j) := ⟨by omega, by omega⟩
              have hcl := ch_lt (Nat.lt_of_lt_of_le (Nat.mod_lt (X / b ^ j) (show 0 < b by omega)) h2)
              obtain ⟨cr, hcr⟩ : ∃ cr, ch (X / b ^ j % b) = cr := ⟨_, rfl⟩
              have HCR : Hid (ch (X / b ^ j % b) = cr) := hcr
              rw [hcr] at cz hcl
              clear hcr
              obtain ⟨q, hq⟩ : ∃ q, n - (j + 1) = q := ⟨_, rfl⟩
              rw [hq] at hown
              have hq9 : q ≤ 9000 := by omega
              have HQQ : Hid (n - (j + 1) = q) := hq
              clear hq
              go_wp2_with (first
                | (at_builtin; refine wpList_append_own _ rfl _ _ 105 rfl w5.heap.size 5 i0 (.int .u8 0) 1 1 und_text hi hz0 hz1 hz2 rfl (by decide) _ _ _ rfl (hown.alloc _) ⟨wr.heap.size, 0, none⟩ 1 1 [.int .u8 (cr : Int)] rfl rfl (World.news_of_block (cs := #[.int .u8 (cr : Int)]) (t := 5) (fr := (0, 0)) (heap_alloc_new wr _)) (by simp [Value.oneCell']) (by unfold maxLen; omega) (by omega) (by rw [World.size_alloc]; omega) ?_)
                | go_in)
              intro v' w3 hown' hgrow hnil
              have hb3 : Below w5.heap.size w5 w3 := (hbl.alloc (by omega) _).grown hgrow (by rw [World.size_alloc]; omega) (fun q hq => (hown.lt q hq).1)
              have HO3 : Hid (w3.ownsRow w5.heap.size 5 1 v' (n - j) (dV .u8 (fun j => ch (X / b ^ (n - 1 - j) % b)) (n - j)) ∧ Below w5.heap.size w5 w3) := by
                refine ⟨?_, hb3⟩
                rw [HE.out.1, dV_succ, HE.out.2, HCR.out, HQQ.out]
                exact hown'
              clear hown' hb3 hgrow hnil hown hbl
              go_wp2
              go_roundw
              case rel => exact ⟨j, by go_num, by omega, HO3.out.1, HO3.out.2⟩
              case measure => first | (simp [intOf]; done) | (simp [intOf]; omega)
            · obtain rfl : m = 0 := by omega
              rw [Nat.sub_zero] at hown
              have hoc := own_cells hown
              obtain ⟨ao', c', b', rfl, o1, o2, o3, o4⟩ := hoc
              obtain ⟨o31, _, _⟩ := o3 (by omega)
              subst o31
              have hcell : ∀ i, i < n → wr.cell? ⟨b', 0 + i, none⟩ = some (.int .u8 (((List.range n).map fun i => ((ch (X / b ^ (n - 1 - i) % b) : Nat) : Int)).getD i 0)) := by
                intro i hi
                rw [o4 i hi]
                congr 2
                rw [List.getD_eq_getElem?_getD, List.getElem?_map, List.getElem?_range hi]
                rfl
              have hconv := run_convert_bytes_arg wr 105 5 und_text und_byte8 b' 0 n c' ((List.range n).map fun i => ((ch (X / b ^ (n - 1 - i) % b) : Nat) : Int)) (by simp) hcell 9 und_str9
              rw [show strOfNums ((List.range n).map fun i => ((ch (X / b ^ (n - 1 - i) % b) : Nat) : Int)) = rowText b X n from rfl] at hconv
              have BF : Below w.heap.size w wr := HK.out.2.2.2.trans (hbl.mono HK.out.2.2.2.size)
              clear hcell o4 hown
              generalize hTT : rowText b X n = TT at *
              have HTT : Hid (rowText b X n = TT) := hTT
              clear hTT
              go_wp2
              go_ret
              exact ⟨n, by rw [HTT.out]; rfl, HK.out.1, HK.out.2.1, HK.out.2.2.1, BF⟩

theorem tell_zero {w : World} {va : Value} (ha : Big.NatV w va 0) (b : Nat) :
    Calls Tryd.prog 76 #[va, .int .i64 (b : Int)] w fun e w' => e = .returned (.string ⟨#[48]⟩) ∧ w' = w := by
  obtain ⟨a0, l0, c0, k0, o0, f0, rfl, S0, t0, hv0⟩ := ha
  have hl0 : l0 = 0 := by
    rcases Nat.eq_zero_or_pos l0 with q | q
    · exact q
    · have := Big.Top_ge t0 q
      have := Big.Bp_pos (l0 - 1)
      omega
  subst hl0
  clear S0 t0 hv0
  go_enter Tryd.func76, Tryd.ntmps76
  go_wp2
  go_ret
  exact ⟨rfl, rfl⟩

set_option maxRecDepth 100000 in
set_option maxHeartbeats 1000000 in
theorem rdigits_any {w : World} {ao : Option Addr} {n c b' o : Nat} {f : Nat → Nat} (S : Sl w ao n c b' o f) (b : Int) :
    Calls Tryd.prog 40 #[.slice ao n c, .int .i64 b] w fun e w' => ∃ t, e = .returned (.tuple #[.string t, .int .i64 (dgE (verr f n) b : Int)]) ∧ IsTx (verr f n) (V f n) b t ∧ Below w.heap.size w w' := by
  have h1 := rvalid_any S
  by_cases q : verr f n = 0
  · obtain ⟨hn, t⟩ := verr_nat q
    rw [q] at h1 ⊢
    by_cases h : b < 2 ∨ 36 < b
    · have e7 : dgE 0 b = 7 := by unfold dgE; rw [if_pos rfl, if_pos h]
      have HT : Hid (IsTx 0 (V f n) b ⟨#[]⟩) := Or.inl ⟨by rw [e7]; omega, rfl⟩
      rw [e7]
      clear e7 S t q
      rcases h with h | h
      · go_enter Tryd.func40, Tryd.ntmps40
        go_wp2_with fail
        refine h1.mono ?_
        rintro e w ⟨rfl, rfl⟩
        go_wp2
        refine bodyPost_ret (v := .tuple #[.string ⟨#[]⟩, .int .i64 7]) (by simp [results, Tryd.results40, go_sem]) rfl ⟨_, rfl, HT.out, Below.refl _ _⟩
      · have h' : ¬ b < 2 := by omega
        go_enter Tryd.func40, Tryd.ntmps40
        go_wp2_with fail
        refine h1.mono ?_
        rintro e w ⟨rfl, rfl⟩
        go_wp2
        refine bodyPost_ret (v := .tuple #[.string ⟨#[]⟩, .int .i64 7]) (by simp [results, Tryd.results40, go_sem]) rfl ⟨_, rfl, HT.out, Below.refl _ _⟩
    · have e0 : dgE 0 b = 0 := by unfold dgE; rw [if_pos rfl, if_neg h]
      rw [e0]
      obtain ⟨k, rfl⟩ := Int.eq_ofNat_of_zero_le (show 0 ≤ b by omega)
      have g1 : 2 ≤ k := by omega
      have g2 : k ≤ 36 := by omega
      have k1 : ¬ (k : Int) < 2 := by omega
      have k2 : ¬ (36 : Int) < (k : Int) := by omega
      have O1 := rof_any S (by omega)
      have HE : Hid (dgE 0 (k : Int) = 0) := e0
      have HXB : Hid (V f n < B ^ 128) := V_small S.ws hn
      clear h e0 q S t
      by_cases z : V f n = 0
      · have HZ : Hid (V f n = 0) := z
        rw [z] at O1
        clear z
        go_enter Tryd.func40, Tryd.ntmps40
        go_wp2_with fail
        refine h1.mono ?_
        rintro e w ⟨rfl, rfl⟩
        go_wp2_with fail
        refine O1.mono ?_
        rintro e w1 ⟨v1, rfl, n1, b1⟩
        have T := tell_zero n1 k
        go_wp2_with fail
        refine T.mono ?_
        rintro e w1 ⟨rfl, rfl⟩
        go_wp2
        refine bodyPost_ret (v := .tuple #[.string ⟨#[48]⟩, .int .i64 0]) (by simp [results, Tryd.results40, go_sem]) rfl ⟨_, rfl, Or.inr (Or.inl ⟨HE.out, HZ.out, rfl⟩), b1⟩
      · have HZ : Hid (V f n ≠ 0) := z
        clear z
        go_enter Tryd.func40, Tryd.ntmps40
        go_wp2_with fail
        refine h1.mono ?_
        rintro e w ⟨rfl, rfl⟩
        go_wp2_with fail
        refine O1.mono ?_
        rintro e w1 ⟨v1, rfl, n1, b1⟩
        have T := tell_any n1 HZ.out HXB.out k g1 g2
        go_wp2_with fail
        refine T.mono ?_
        rintro e w2 ⟨K, rfl, k3, k4, k5, b2⟩
        have HT : Hid (IsTx 0 (V f n) (k : Int) (rowText k (V f n) K)) := Or.inr (Or.inr ⟨HE.out, HZ.out, K, rfl, k3, k4, k5, by omega⟩)
        clear k4 k5
        go_wp2
        refine bodyPost_ret (v := .tuple #[.string (rowText k (V f n) K), .int .i64 0]) (by simp [results, Tryd.results40, go_sem]) rfl ⟨_, rfl, HT.out, b1.trans (b2.mono b1.size)⟩
  · have ek : dgE (verr f n) b = verr f n := by unfold dgE; rw [if_neg q]
    have HT : Hid (IsTx (verr f n) (V f n) b ⟨#[]⟩) := Or.inl ⟨by rw [ek]; exact q, rfl⟩
    rw [ek]
    have q' : (((verr f n : Nat) : Int) == 0) = false := beq_eq_false_iff_ne.mpr (by omega)
    clear ek S
    generalize verr f n = k at *
    go_enter Tryd.func40, Tryd.ntmps40
    go_wp2_with fail
    refine h1.mono ?_
    rintro e w ⟨rfl, rfl⟩
    go_wp2
    refine bodyPost_ret (v := .tuple #[.string ⟨#[]⟩, .int .i64 (k : Int)]) (by simp [results, Tryd.results40, go_sem]) rfl ⟨_, rfl, HT.out, Below.refl _ _⟩

end Go.Proofs.YtkkgancmodhghaaDoor
