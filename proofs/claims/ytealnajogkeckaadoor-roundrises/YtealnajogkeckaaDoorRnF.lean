/-
  What Ratio and Whole of round answer, for every input.
-/
import Derived.Test.YtealnajogkeckaaDoorRnE
import Derived.Test.YtealnajogkeckaaDoorRnC
namespace Go.Proofs.YtealnajogkeckaaDoor
open Go.RowKit

set_option maxRecDepth 100000 in
set_option maxHeartbeats 1000000 in
theorem fe_bad1 {w : World} {ao : Option Addr} {n cn bn on : Nat} {F : Nat → Nat} (S : Sl w ao n cn bn on F) (vd : Value) (h : verr F n ≠ 0) : Calls Tryd.prog 32 #[.slice ao n cn, vd] w fun e w' => e = .returned (errV (verr F n)) ∧ Below w.heap.size w w' := by
  have T := valid_any S
  rw [errV_succ h] at T ⊢
  generalize verr F n = k at *
  clear S h
  go_enter Tryd.func32, Tryd.ntmps32
  go_wp2_with fail
  refine T.mono ?_
  rintro e w1 ⟨rfl, b1⟩
  have B1 : Hid (Below w.heap.size w w1) := b1
  clear b1
  go_wp2
  go_ret
  exact ⟨rfl, B1.out⟩
set_option maxRecDepth 100000 in
set_option maxHeartbeats 1000000 in
theorem fe_bad2 {w : World} {ao : Option Addr} {n cn bn on : Nat} {F : Nat → Nat} (S : Sl w ao n cn bn on F) {bo : Option Addr} {m cm bm om : Nat} {G : Nat → Nat} (S' : Sl w bo m cm bm om G) (h : verr F n = 0) (h' : verr G m ≠ 0) : Calls Tryd.prog 32 #[.slice ao n cn, .slice bo m cm] w fun e w' => e = .returned (errV (verr G m)) ∧ Below w.heap.size w w' := by
  have T := valid_any S
  rw [h, show errV 0 = Value.nilIface from rfl] at T
  have T2 : ∀ W, Below w.heap.size w W → _ := fun W hb => valid_any (S'.below hb)
  rw [errV_succ h'] at T2 ⊢
  generalize verr G m = k at *
  clear S S' h h'
  go_enter Tryd.func32, Tryd.ntmps32
  go_wp2_with fail
  refine T.mono ?_
  rintro e w1 ⟨rfl, b1⟩
  have T3 := T2 w1 b1
  have B1 : Hid (Below w.heap.size w w1) := b1
  clear b1 T2
  go_wp2_with fail
  refine T3.mono ?_
  rintro e w2 ⟨rfl, b2⟩
  have B2 : Hid (Below w.heap.size w w2) := B1.out.trans (b2.mono B1.out.size)
  clear b2 T3
  go_wp2
  go_ret
  exact ⟨rfl, B2.out⟩
set_option maxRecDepth 100000 in
set_option maxHeartbeats 1000000 in
theorem fe_ok {w : World} {ao : Option Addr} {n cn bn on : Nat} {F : Nat → Nat} (S : Sl w ao n cn bn on F) {bo : Option Addr} {m cm bm om : Nat} {G : Nat → Nat} (S' : Sl w bo m cm bm om G) (h : verr F n = 0) (h' : verr G m = 0) : Calls Tryd.prog 32 #[.slice ao n cn, .slice bo m cm] w fun e w' => e = .returned (if m = 0 then errV 10 else errV 0) ∧ Below w.heap.size w w' := by
  have T := valid_any S
  rw [h, show errV 0 = Value.nilIface from rfl] at T
  have T2 : ∀ W, Below w.heap.size w W → _ := fun W hb => valid_any (S'.below hb)
  rw [h', show errV 0 = Value.nilIface from rfl] at T2
  have hm := S'.le
  have hm2 := S'.cap
  clear S S' h h'
  go_enter Tryd.func32, Tryd.ntmps32
  go_wp2_with fail
  refine T.mono ?_
  rintro e w1 ⟨rfl, b1⟩
  have T3 := T2 w1 b1
  have B1 : Hid (Below w.heap.size w w1) := b1
  clear b1 T2
  go_wp2_with fail
  refine T3.mono ?_
  rintro e w2 ⟨rfl, b2⟩
  have B2 : Hid (Below w.heap.size w w2) := B1.out.trans (b2.mono B1.out.size)
  clear b2 T3
  by_cases c : m = 0
  · subst c
    go_wp2
    go_ret
    exact ⟨rfl, B2.out⟩
  · have c2 : ((m : Int) == 0) = false := by simp; omega
    go_wp2
    go_ret
    exact ⟨rfl, B2.out⟩
set_option maxRecDepth 100000 in
set_option maxHeartbeats 1000000 in
theorem ratio_no {s : Int} (h : Sn s) (c : Bool) (vn vd : Value) (e : Int) (w : World) : Calls Tryd.prog 10 #[.int .i64 s, .bool c, vn, vd, .int .i64 e] w fun x w' => x = .returned (.tuple #[.int .u64 0, .iface 76 (.int .i64 5)]) ∧ Below w.heap.size w w' := by
  have H := fun W => gridOf_no h W
  clear h
  go_enter Tryd.func10, Tryd.ntmps10
  go_wp2_with fail
  refine (H _).mono ?_
  rintro e w1 ⟨rfl, b1⟩
  have B1 : Hid (Below w.heap.size w w1) := b1
  clear b1
  go_wp2
  go_ret2
  exact ⟨rfl, B1.out.alloc B1.out.size _⟩
set_option maxRecDepth 100000 in
set_option maxHeartbeats 1000000 in
theorem whole_no {s : Int} (h : Sn s) (c more : Bool) (m : Nat) (e : Int) (w : World) : Calls Tryd.prog 15 #[.int .i64 s, .bool c, .int .u64 (m : Int), .int .i64 e, .bool more] w fun x w' => x = .returned (.tuple #[.int .u64 0, .iface 76 (.int .i64 5)]) ∧ Below w.heap.size w w' := by
  have H := fun W => gridOf_no h W
  clear h
  go_enter Tryd.func15, Tryd.ntmps15
  go_wp2_with fail
  refine (H _).mono ?_
  rintro e w1 ⟨rfl, b1⟩
  have B1 : Hid (Below w.heap.size w w1) := b1
  clear b1
  go_wp2
  go_ret2
  exact ⟨rfl, B1.out.alloc B1.out.size _⟩
set_option maxRecDepth 100000 in
set_option maxHeartbeats 1000000 in
theorem ratio_fe {s : Int} {g n' f T : Nat} {L : Int} (hz : Fz s g n' f T L) (c : Bool) {vn vd : Value} (e : Int) {k : Nat} (k0 : k ≠ 0) {w : World} (HF : ∀ W, Below w.heap.size w W → Calls Tryd.prog 32 #[vn, vd] W fun e w' => e = .returned (errV k) ∧ Below W.heap.size W w') : Calls Tryd.prog 10 #[.int .i64 s, .bool c, vn, vd, .int .i64 e] w fun x w' => x = .returned (.tuple #[.int .u64 0, errV k]) ∧ Below w.heap.size w w' := by
  have H := fun W => gridOf_z hz W
  rw [errV_succ k0] at HF ⊢
  clear hz k0
  go_enter Tryd.func10, Tryd.ntmps10
  go_wp2_with fail
  refine (H _).mono ?_
  rintro e w1 ⟨rfl, b1⟩
  have B1 : Hid (Below w.heap.size w w1) := b1
  clear b1 H
  have B2 : Hid (Below w.heap.size w (w1.alloc (.cells #[.int .i64 s, .int .i64 ((f : Int) + 1), .int .i64 L] 64))) := B1.out.alloc B1.out.size _
  have T := HF _ B2.out
  clear HF B1
  go_wp2_with fail
  refine T.mono ?_
  rintro e w2 ⟨rfl, b2⟩
  have B3 : Hid (Below w.heap.size w w2) := B2.out.trans (b2.mono B2.out.size)
  clear b2 T B2
  go_wp2
  go_ret2
  exact ⟨rfl, B3.out⟩
set_option maxRecDepth 100000 in
set_option maxHeartbeats 1000000 in
theorem ratio_far {s : Int} {g n' f T : Nat} {L : Int} (hz : Fz s g n' f T L) (c : Bool) {vn vd : Value} {e : Int} (he : e < -1099511627776 ∨ 1099511627776 < e) {w : World} (HF : ∀ W, Below w.heap.size w W → Calls Tryd.prog 32 #[vn, vd] W fun e w' => e = .returned .nilIface ∧ Below W.heap.size W w') : Calls Tryd.prog 10 #[.int .i64 s, .bool c, vn, vd, .int .i64 e] w fun x w' => x = .returned (.tuple #[.int .u64 0, .iface 76 (.int .i64 1)]) ∧ Below w.heap.size w w' := by
  have H := fun W => gridOf_z hz W
  have HE := fun W => bound_no he W
  clear hz he
  go_enter Tryd.func10, Tryd.ntmps10
  go_wp2_with fail
  refine (H _).mono ?_
  rintro e w1 ⟨rfl, b1⟩
  have B1 : Hid (Below w.heap.size w w1) := b1
  clear b1 H
  have B2 : Hid (Below w.heap.size w (w1.alloc (.cells #[.int .i64 s, .int .i64 ((f : Int) + 1), .int .i64 L] 64))) := B1.out.alloc B1.out.size _
  have T := HF _ B2.out
  clear HF B1
  go_wp2_with fail
  refine T.mono ?_
  rintro x w2 ⟨rfl, b2⟩
  have B3 : Hid (Below w.heap.size w w2) := B2.out.trans (b2.mono B2.out.size)
  clear b2 T B2
  go_wp2_with fail
  refine (HE _).mono ?_
  rintro x w3 ⟨rfl, rfl⟩
  go_wp2
  go_ret2
  exact ⟨rfl, B3.out⟩
set_option maxRecDepth 100000 in
set_option maxHeartbeats 1000000 in
theorem whole_far {s : Int} {g n' f T : Nat} {L : Int} (hz : Fz s g n' f T L) (c more : Bool) {m : Nat} {e : Int} (he : e < -1099511627776 ∨ 1099511627776 < e) (w : World) : Calls Tryd.prog 15 #[.int .i64 s, .bool c, .int .u64 (m : Int), .int .i64 e, .bool more] w fun x w' => x = .returned (.tuple #[.int .u64 0, .iface 76 (.int .i64 1)]) ∧ Below w.heap.size w w' := by
  have H := fun W => gridOf_z hz W
  have HE := fun W => bound_no he W
  clear hz he
  go_enter Tryd.func15, Tryd.ntmps15
  go_wp2_with fail
  refine (H _).mono ?_
  rintro e w1 ⟨rfl, b1⟩
  have B1 : Hid (Below w.heap.size w w1) := b1
  clear b1 H
  have B2 : Hid (Below w.heap.size w (w1.alloc (.cells #[.int .i64 s, .int .i64 ((f : Int) + 1), .int .i64 L] 64))) := B1.out.alloc B1.out.size _
  clear B1
  go_wp2_with fail
  refine (HE _).mono ?_
  rintro x w3 ⟨rfl, rfl⟩
  go_wp2
  go_ret2
  exact ⟨rfl, B2.out⟩
set_option maxRecDepth 100000 in
set_option maxHeartbeats 1000000 in
theorem whole_ok {s : Int} {g n' f T : Nat} {L : Int} (hz : Fz s g n' f T L) (c more : Bool) {m : Nat} {e : Int} (hm : m < 18446744073709551616) (h0 : -1099511627776 ≤ e) (h1 : e ≤ 1099511627776) (w : World) (hT : Tab w) : Calls Tryd.prog 15 #[.int .i64 s, .bool c, .int .u64 (m : Int), .int .i64 e, .bool more] w fun x w' => x = .returned (anV g c (rdA f T L m 1 e more)) ∧ Below w.heap.size w w' := by
  have hf : 0 < f ∧ 2 ≤ T := by rcases hz with ⟨_, _, _, h, h', _⟩ | ⟨_, _, _, h, h', _⟩ <;> omega
  rw [← nd_whole hf.1 hf.2 more (by omega)]
  have H := fun W => gridOf_z hz W
  have HE := fun W => bound_yes h0 h1 W
  have HN := fun W hW => near_any hz c more hm (e := e) (by omega) (by omega) W hW
  unfold anV at HN ⊢
  generalize sgd g c (ndA f T L m e more).1 = y at *
  generalize (if (ndA f T L m e more).2 = true then Value.iface 76 (.int .i64 4) else .nilIface) = V at *
  have HT : Hid (Tab w) := hT
  clear hz hf hT hm h0 h1
  go_enter Tryd.func15, Tryd.ntmps15
  go_wp2_with fail
  refine (H _).mono ?_
  rintro e w1 ⟨rfl, b1⟩
  have B1 : Hid (Below w.heap.size w w1) := b1
  clear b1 H
  have B2 : Hid (Below w.heap.size w (w1.alloc (.cells #[.int .i64 s, .int .i64 ((f : Int) + 1), .int .i64 L] 64))) := B1.out.alloc B1.out.size _
  have G2 : Hid (GrB (w1.alloc (.cells #[.int .i64 s, .int .i64 ((f : Int) + 1), .int .i64 L] 64)) w1.heap.size _ _ _) := GrB.new w1 _ _ _ _
  clear B1
  go_wp2_with fail
  refine (HE _).mono ?_
  rintro x w3 ⟨rfl, h3⟩
  rw [← h3] at B2 G2
  have W3 : Hid (w3 = _) := h3
  clear h3 HE
  obtain ⟨_, a0, a1, a2, _, _, _⟩ := G2.out
  go_wp2_with fail
  refine (HN _ (HT.out.next B2.out)).mono ?_
  rintro x w4 ⟨rfl, b4⟩
  have B4 : Hid (Below w.heap.size w w4) := B2.out.trans (b4.mono B2.out.size)
  clear b4
  go_wp2
  go_ret2
  exact ⟨rfl, B4.out⟩
set_option maxRecDepth 100000 in
set_option maxHeartbeats 1000000 in
theorem ratio_ok {s : Int} {g n' f T : Nat} {L : Int} (hz : Fz s g n' f T L) (c : Bool) {vn vd : Value} {X Y : Nat} {e : Int} (h0 : -1099511627776 ≤ e) (h1 : e ≤ 1099511627776) {w : World} (hT : Tab w) (hn : NatV w vn X) (hd : NatV w vd Y) (y0 : Y ≠ 0) : Calls Tryd.prog 10 #[.int .i64 s, .bool c, vn, vd, .int .i64 e] w fun x w' => x = .returned (anV g c (rdA f T L X Y e false)) ∧ Below w.heap.size w w' := by
  have hf : 0 < f ∧ f ≤ 52 ∧ 2 ≤ T := by rcases hz with ⟨_, _, _, h, h', _⟩ | ⟨_, _, _, h, h', _⟩ <;> omega
  have HF : ∀ W, Below w.heap.size w W → Calls Tryd.prog 32 #[vn, vd] W fun e w' => e = .returned .nilIface ∧ Below W.heap.size W w' := fun W hb => by
    have hs := nat_slice hd
    obtain ⟨ao, n, c, b, o, F, rfl, S, t, rfl, hn⟩ := hn
    obtain ⟨bo, m, c', b', o', G, rfl, S', t', rfl, hm⟩ := hd
    obtain ⟨_, _, _, e, hm0, _⟩ := hs
    cases e
    have h := fe_ok (S.below hb) (S'.below hb) (verr_ok hn t) (verr_ok hm t')
    rw [if_neg (fun z => y0 (hm0.1 z))] at h
    exact h
  have H := fun W => gridOf_z hz W
  have HE := fun W => bound_yes h0 h1 W
  have bX := nat_bl hn
  have bY := nat_bl hd
  have HT : Hid (Tab w ∧ NatV w vn X ∧ NatV w vd Y ∧ Y ≠ 0) := ⟨hT, hn, hd, y0⟩
  have HN : ∀ (q r a b : Nat), Qt X Y q r a b → ∀ W, Tab W → Calls Tryd.prog 35 #[.agg #[.int .i64 s, .int .i64 ((f : Int) + 1), .int .i64 L], .bool c, .int .u64 (q : Int), .int .i64 (e - (63 + (bl Y : Int) - (bl X : Int))), .bool (decide (r ≠ 0))] W fun x w' => x = .returned (anV g c (rdA f T L X Y e false)) ∧ Below W.heap.size W w' := fun q r a b h W hW => by
    have k : ndA f T L q (e - (63 + (bl Y : Int) - (bl X : Int))) (decide (r ≠ 0)) = rdA f T L X Y e false := by
      by_cases x0 : X = 0
      · subst x0
        obtain ⟨rfl, rfl⟩ := h.none y0
        rw [nd_whole hf.1 hf.2.2 _ (by omega)]
        unfold rdA
        rw [if_pos rfl, if_pos rfl]
      · exact nd_ratio hf.1 hf.2.1 hf.2.2 x0 y0 h.1 (h.ge x0) (h.lt y0) h.eqv
    rw [← k]
    exact near_any hz c (decide (r ≠ 0)) (by have := h.lt y0; omega) (by omega) (by omega) W hW
  unfold anV at HN ⊢
  generalize sgd g c (rdA f T L X Y e false).1 = y at *
  generalize (if (rdA f T L X Y e false).2 = true then Value.iface 76 (.int .i64 4) else .nilIface) = V at *
  clear hz hf hT hn hd y0
  generalize hN : bl X = N at *
  generalize hM : bl Y = M at *
  go_enter Tryd.func10, Tryd.ntmps10
  go_wp2_with fail
  refine (H _).mono ?_
  rintro e w1 ⟨rfl, b1⟩
  have B1 : Hid (Below w.heap.size w w1) := b1
  clear b1 H
  have B2 : Hid (Below w.heap.size w (w1.alloc (.cells #[.int .i64 s, .int .i64 ((f : Int) + 1), .int .i64 L] 64))) := B1.out.alloc B1.out.size _
  have G2 : Hid (GrB (w1.alloc (.cells #[.int .i64 s, .int .i64 ((f : Int) + 1), .int .i64 L] 64)) w1.heap.size _ _ _) := GrB.new w1 _ _ _ _
  have TF := HF _ B2.out
  clear B1 HF
  go_wp2_with fail
  refine TF.mono ?_
  rintro x w3 ⟨rfl, b3⟩
  have B3 : Hid (Below w.heap.size w w3) := B2.out.trans (b3.mono B2.out.size)
  have G3 : Hid (GrB w3 w1.heap.size _ _ _) := G2.out.step b3
  clear b3 TF B2 G2
  go_wp2_with fail
  refine (HE _).mono ?_
  rintro x w4 ⟨rfl, h4⟩
  subst h4
  have TQ := quot_ok (HT.out.1.next B3.out) (HT.out.2.1.below B3.out) (HT.out.2.2.1.below B3.out) HT.out.2.2.2
  rw [hN, hM] at TQ
  clear HE
  go_wp2_with fail
  refine TQ.mono ?_
  rintro x w5 ⟨q, r, a, b, rfl, hq, b5⟩
  have B5 : Hid (Below w.heap.size w w5) := B3.out.trans (b5.mono B3.out.size)
  have G5 : Hid (GrB w5 w1.heap.size _ _ _) := G3.out.step b5
  have TN := HN q r a b hq w5 (HT.out.1.next B5.out)
  clear b5 TQ B3 G3 HN hq
  generalize decide (r ≠ 0) = fl at *
  obtain ⟨_, a0, a1, a2, _, _, _⟩ := G5.out
  go_wp2_with fail
  refine TN.mono ?_
  rintro x w6 ⟨rfl, b6⟩
  have B6 : Hid (Below w.heap.size w w6) := B5.out.trans (b6.mono B5.out.size)
  clear b6
  go_wp2
  go_ret2
  exact ⟨rfl, B6.out⟩
end Go.Proofs.YtealnajogkeckaaDoor
