/-
  The law RoundRatios: every fraction times every power of two is rounded right, or the error; the numbers stay.
-/
import Derived.Test.YtealnajogkeckaaDoorRnL
import Derived.Deep.DeepCutAuto
namespace Go.Proofs.YtealnajogkeckaaDoor
open Go.RowKit

set_option maxRecDepth 100000 in
set_option maxHeartbeats 2000000 in
theorem law_rratios {w : World} (hT : Tab w) (s : Int) (c : Bool) {ao : Option Addr} {n cn bn on : Nat} {F : Nat → Nat} (S : Sl w ao n cn bn on F) (hn : n * 8 ≤ 140737488355328) {bo : Option Addr} {m cm bm om : Nat} {G : Nat → Nat} (S' : Sl w bo m cm bm om G) (hm : m * 8 ≤ 140737488355328) (e : Int) : Calls Tryd.prog 3 #[.agg #[.int .i64 s, .bool c, .slice ao n cn, .slice bo m cm, .int .i64 e]] w fun x w' => x = .returned (.bool true) ∧ Below w.heap.size w w' := by
  obtain ⟨y, k, H1, H2⟩ := ratio_both s c n m F G e
  have HN := fun W => num_any k W
  have HW := fun W hW => works_any W hW
  have B0 : Hid (Below w.heap.size w (w.alloc (.cells #[.int .i64 s, .bool c, .slice ao n cn, .slice bo m cm, .int .i64 e] 24))) := (Below.refl _ _).alloc (Nat.le_refl _) _
  have X0 : Hid (FvB (w.alloc (.cells #[.int .i64 s, .bool c, .slice ao n cn, .slice bo m cm, .int .i64 e] 24)) w.heap.size _ _ _ _ _) := FvB.new w _ _ _ _ _ _
  have TW : ∀ (W : World) (ao : Option Addr) (n cn bn on : Nat) (F : Nat → Nat), Sl W ao n cn bn on F → n * 8 ≤ 140737488355328 → Calls Tryd.prog 9 #[.slice ao n cn] W fun e w' => ∃ ao' c' b', e = .returned (.slice ao' n c') ∧ Sl w' ao' n c' b' 0 F ∧ Below W.heap.size W w' := fun W ao n cn bn on F S h => (twin_any S h).mono fun e w' ⟨ao', c', b', h1, h2, _, h3⟩ => ⟨ao', c', b', h1, h2, h3⟩
  have T1 : ∀ W, Below w.heap.size w W → _ := fun W hb => TW W _ _ _ _ _ _ (S.below hb) hn
  have T2 : ∀ W, Below w.heap.size w W → _ := fun W hb => TW W _ _ _ _ _ _ (S'.below hb) hm
  have HT : Hid (Tab w ∧ Sl w ao n cn bn on F ∧ Sl w bo m cm bm om G) := ⟨hT, S, S'⟩
  generalize errV k = V at *
  clear hT hn hm TW S S'
  go_enter Tryd.func3, Tryd.ntmps3
  go_upto_region 1 with fail
  go_cut [3, 4] (fun u v wx => ∃ (ao' : Option Addr) (c' b' : Nat) (bo' : Option Addr) (cm' bm' : Nat), u = .slice ao' n c' ∧ v = .slice bo' m cm' ∧ Sl wx ao' n c' b' 0 F ∧ Sl wx bo' m cm' bm' 0 G ∧ Below w.heap.size w wx ∧ FvB wx w.heap.size (.int .i64 s) (.bool c) (.slice ao n cn) (.slice bo m cm) (.int .i64 e))
  case first =>
    go_region_held3 (fun w' => w'.cell? ⟨w.heap.size, 2, none⟩ = some (.slice ao n cn) ∧ w'.cell? ⟨w.heap.size, 3, none⟩ = some (.slice bo m cm)) (simp [*, go_sem])
      (first
        | (go_at_call_of 9 (Value.slice ao n cn); refine (T1 _ B0.out.drew).mono ?_; rintro x w1 ⟨ao1, c1, b1, rfl, s1, hb1⟩; have X1 : Hid (FvB w1 w.heap.size _ _ _ _ _) := (X0.out.step (Below.refl _ _).drew).step hb1; have B1 : Hid (Below w.heap.size w w1 ∧ Sl w1 ao1 n c1 b1 0 F) := ⟨B0.out.drew.trans (hb1.mono B0.out.drew.size), s1⟩; clear hb1 s1; obtain ⟨_, a0, a1, a2, a3, a4⟩ := X1.out)
        | (go_at_call_of 9 (Value.slice bo m cm); refine (T2 _ B1.out.1).mono ?_; rintro x w2 ⟨ao2, c2, b2, rfl, s2, hb2⟩; have X2 : Hid (FvB w2 w.heap.size _ _ _ _ _) := X1.out.step hb2; have B2 : Hid (Below w.heap.size w w2 ∧ Sl w2 ao1 n c1 b1 0 F ∧ Sl w2 ao2 m c2 b2 0 G) := ⟨B1.out.1.trans (hb2.mono B1.out.1.size), B1.out.2.below hb2, s2⟩; clear hb2 s2; obtain ⟨_, d0, d1, d2, d3, d4⟩ := X2.out))
    all_goals go_wp2_with fail
    all_goals go_meet
    all_goals exact ⟨ao1, c1, b1, ao2, c2, b2, rfl, rfl, B2.out.2.1, B2.out.2.2, B2.out.1, X2.out⟩
  case rest =>
  clear T1 T2 B0 X0
  obtain ⟨ao', c', b', bo', cm', bm', rfl, rfl, s1, s2, bb, xx⟩ := hcut
  have B1 : Hid (Below w.heap.size w wc ∧ Sl wc ao' n c' b' 0 F ∧ Sl wc bo' m cm' bm' 0 G) := ⟨bb, s1, s2⟩
  have X1 : Hid (FvB wc w.heap.size _ _ _ _ _) := xx
  have T := H1 _ _ _ _ _ _ _ _ _ (HT.out.1.next bb) s1 s2
  clear H1 s1 s2 bb
  obtain ⟨_, a0, a1, a2, a3, a4⟩ := xx
  go_wp2_with fail
  refine T.mono ?_
  rintro x w3 ⟨rfl, hb⟩
  have B3 : Hid (Below w.heap.size w w3 ∧ Sl w3 ao' n c' b' 0 F ∧ Sl w3 bo' m cm' bm' 0 G) := ⟨B1.out.1.trans (hb.mono B1.out.1.size), B1.out.2.1.below hb, B1.out.2.2.below hb⟩
  have X3 : Hid (FvB w3 w.heap.size _ _ _ _ _) := X1.out.step hb
  have T := H2 _ _ _ _ _ _ _ _ _ (HT.out.2.1.below B3.out.1) (HT.out.2.2.below B3.out.1)
  clear hb B1 X1 H2 a0 a1 a2 a3 a4
  obtain ⟨_, a0, a1, a2, a3, a4⟩ := X3.out
  go_wp2_with fail
  refine T.mono ?_
  rintro x w4 ⟨rfl, hb⟩
  have B4 : Hid (Below w.heap.size w w4 ∧ Sl w4 ao' n c' b' 0 F ∧ Sl w4 bo' m cm' bm' 0 G) := ⟨B3.out.1.trans (hb.mono B3.out.1.size), B3.out.2.1.below hb, B3.out.2.2.below hb⟩
  have X4 : Hid (FvB w4 w.heap.size _ _ _ _ _) := X3.out.step hb
  clear hb B3 X3 a0 a1 a2 a3 a4 T
  obtain ⟨_, a0, a1, a2, a3, a4⟩ := X4.out
  go_wp2_with fail
  refine (HN _).mono ?_
  rintro x w5 ⟨rfl, rfl⟩
  have T := same_yes B4.out.2.1 (HT.out.2.1.below B4.out.1) (fun _ _ => rfl)
  go_wp2_with fail
  refine T.mono ?_
  rintro x w6 ⟨rfl, hb⟩
  have B6 : Hid (Below w.heap.size w w6 ∧ Sl w6 bo' m cm' bm' 0 G) := ⟨B4.out.1.trans (hb.mono B4.out.1.size), B4.out.2.2.below hb⟩
  have X6 : Hid (FvB w6 w.heap.size _ _ _ _ _) := X4.out.step hb
  have T := same_yes B6.out.2 (HT.out.2.2.below B6.out.1) (fun _ _ => rfl)
  clear hb B4 X4 a0 a1 a2 a3 a4
  obtain ⟨_, a0, a1, a2, a3, a4⟩ := X6.out
  go_wp2_with fail
  refine T.mono ?_
  rintro x w7 ⟨rfl, hb⟩
  have B7 : Hid (Below w.heap.size w w7) := B6.out.1.trans (hb.mono B6.out.1.size)
  clear hb B6 X6 a0 a1 a2 a3 a4 T
  go_wp2_with fail
  refine (HW _ (HT.out.1.next B7.out)).mono ?_
  rintro x w8 ⟨rfl, hb⟩
  have B8 : Hid (Below w.heap.size w w8) := B7.out.trans (hb.mono B7.out.size)
  clear hb B7
  go_wp2
  go_ret
  exact ⟨rfl, B8.out⟩
end Go.Proofs.YtealnajogkeckaaDoor
