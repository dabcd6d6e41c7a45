/-
  What a call of nat.quotientWord answers: how often the divisor goes into a part that is one word longer.
-/
import Derived.Test.YtkkgancmodhghaaDoorNatG
import Derived.Deep.LoopGhost
import Derived.WalkMore
import Derived.BigQuiet
import Derived.Deep.QuietTactic
import Derived.Deep.RegionWith
namespace Go.Proofs.YtkkgancmodhghaaDoor
open Go.RowKit

theorem quo_eq {g D P : Nat} (h1 : g * D ≤ P) (h2 : P / D ≤ g) (hD : 0 < D) : g = P / D := by
  have := (Nat.le_div_iff_mul_le hD).mpr h1
  omega
theorem quo_gt {g D P : Nat} (h1 : P < g * D) (hD : 0 < D) : P / D < g := (Nat.div_lt_iff_lt_mul hD).mpr h1

theorem row_drewN {w : World} {g N nq : Nat} {F : Nat → Nat} (R : Row w g N F) : Row (w.drewN nq) g N F := ⟨R.row.of_block rfl, R.ws⟩
theorem grown_drewN {w wr : World} {row : Option Nat} {nq : Nat} (h : w.grownBy wr row) : w.grownBy (wr.drewN nq) row := ⟨h.os, h.tape, h.output, h.size, h.block⟩

/-- clear(z): noughts. -/
theorem clear_run {w : World} {g N : Nat} {F : Nat → Nat} (R : Row w g N F) (hN : 0 < N) {c : Nat} :
    ∃ w2, (∀ ty, (Builtin.clear_ #[23] ty #[.slice (some ⟨g, 0, none⟩) N c]).run Tryd.prog w = .ok (.tuple #[]) w2) ∧ Row w2 g N (fun _ => 0) ∧ w.grownBy w2 (some g) := by
  refine ⟨w.setCells g 0 (List.replicate N (.int .u64 0)), fun ty => Lib.run_clear_slice w 23 35 ty (.int .u64 0) und_nat zero_u64 rfl rfl g 0 N c hN (fun j hj => ?_) (fun j hj => ?_), ?_, zeroed_grown N 0 w (World.grownBy.refl _ _)⟩
  · rw [Nat.zero_add, R.row.cell hj]; rfl
  · exact R.row.frozen _
  · have h := zeroed_row N 0 w F R
    exact ⟨h.row.congr fun i hi => by rw [if_pos (by omega)], fun _ => B_pos⟩

set_option maxRecDepth 100000 in
set_option maxHeartbeats 4000000 in
theorem quotientWord_any {w : World} {t n m : Nat} (hn : t + 1 = n) (hm : n + 1 = m) {po : Option Addr} {cp bp op : Nat} {H : Nat → Nat} (SP : Sl w po m cp bp op H) {dv : Option Addr} {cd bd od : Nat} {G : Nat → Nat} (SD : Sl w dv n cd bd od G) (h0 : G t ≠ 0) (ht : t ≤ 1000)
    {p : Nat} {Fp : Nat → Nat} (R : Row w p m Fp) (n1 : bp ≠ p) (n2 : bd ≠ p) (hlt : V H m < V G n * B) :
    Calls Tryd.prog 86 #[.slice po m cp, .slice dv n cd, .slice (some ⟨p, 0, none⟩) m m] w fun e w' => e = .returned (.int .u64 ((V H m / V G n : Nat) : Int)) ∧ w.grownBy w' (some p) ∧
      ∃ F, Row w' p m F ∧ V F m = V H m / V G n * V G n := by
  have hD : 0 < V G n := by subst hn; exact Nat.lt_of_lt_of_le (Bp_pos t) (V_ge h0)
  have gge : V H m / V G n ≤ gW (H n) (H t) (G t) := by subst hm hn; exact guess_ge SP.ws h0 hlt
  have glt := gW_lt (hi := H n) (d := G t) (SP.ws t)
  have T1 := fun W => guess_any (H n) (H t) (G t) (SP.ws _) (SP.ws _) (SD.ws _) W
  obtain rfl := SP.addr (by omega)
  obtain rfl := SD.addr (by omega)
  have HP : Hid (Sl w (some ⟨bp, op, none⟩) m cp bp op H) := SP
  have HD : Hid (Sl w (some ⟨bd, od, none⟩) n cd bd od G) := SD
  have cp1 := SP.cell n (by omega)
  have cp0 := SP.cell t (by omega)
  have cd0 := SD.cell t (by omega)
  have HG : Hid (V H m / V G n ≤ gW (H n) (H t) (G t) ∧ gW (H n) (H t) (G t) < B ∧ 0 < V G n) := ⟨gge, glt, hD⟩
  clear SP SD gge glt h0 hlt hD
  generalize gW (H n) (H t) (G t) = g0 at *
  have i1 : (0 : Int) ≤ (n : Int) := by omega
  have i2 : (n : Int) < (m : Int) := by omega
  have i2' : n < m := by omega
  have i3 : (n : Int) - 1 = (t : Int) := by omega
  have i4 : (t : Int) < (m : Int) := by omega
  have i5 : (t : Int) < (n : Int) := by omega
  have i6 : (0 : Int) ≤ (t : Int) := by omega
  have i7 : t < m := by omega
  have i8 : t < n := by omega
  have i10 : IntKind.i64.wrap (t : Int) = (t : Int) := by simp [IntKind.wrap, IntKind.signed, IntKind.bits]; omega
  have i9 : (1 : Int) ≤ (n : Int) := by omega
  have HNM : Hid (t + 1 = n ∧ n + 1 = m) := ⟨hn, hm⟩
  have k1 := HP.out.blk (by omega)
  have k2 := HD.out.blk (by omega)
  clear hn hm
  go_enter Tryd.func86, Tryd.ntmps86
  go_wp2
  go_step3
  go_wp2
  go_region_held3 (fun w' => w'.cell? ⟨bp, op + n, none⟩ = some (.int .u64 ((H n : Nat) : Int)) ∧ w'.cell? ⟨bp, op + t, none⟩ = some (.int .u64 ((H t : Nat) : Int)) ∧ w'.cell? ⟨bd, od + t, none⟩ = some (.int .u64 ((G t : Nat) : Int))) (simp [*, go_sem])
    (first | (go_at_call 98; refine (T1 _).mono ?_; rintro e wa ⟨rfl, hbd⟩; obtain ⟨hcd, hfd⟩ := bcell hbd; simp at hcd hfd))
  have hba : Below w.heap.size w wa := (Below.refl _ _).drew.trans hbd
  have SP1 := HP.out.below hba
  have SD1 := HD.out.below hba
  obtain ⟨w2, hcl, R2, hg2⟩ := clear_run (R.below hba) (by omega) (c := m)
  have SP2 := SP1.kept hg2 (fun _ => n1)
  have SD2 := SD1.kept hg2 (fun _ => n2)
  have T2 := times_any (g := p) (o := 0) (zo := some ⟨p, 0, none⟩) (n := n) (c := m) R2 SD2 (fun q => ⟨rfl, n2⟩) (by omega) (Nat.le_refl _) g0 HG.out.2.1
  clear cp1 cp0 cd0 hcd hfd
  go_wp2_with fail
  refine T2.mono ?_
  rintro e w3 ⟨v, F3, rfl, hvB, hg3, R3, hfr3, hv3⟩
  have cz := R3.row.cell (i := n) i2'
  have fz := R3.row.frozen n
  have R4 := R3.set n hvB
  have hv4 : V (put F3 n v) m = g0 * V G n := by
    rw [← HNM.out.2, V_succ, V_put_low (Nat.le_refl _), put_at]
    have e0 : (fun i => F3 (0 + i)) = F3 := funext fun i => by rw [Nat.zero_add]
    rw [e0, V_nought, Nat.zero_add] at hv3
    rw [hv3, Nat.mul_comm]
  have hga : w.grownBy wa (some p) := ⟨hba.os, hba.tape, hba.output, hba.size, fun k hk _ => hba.block k hk⟩
  have hg4 : w.grownBy (w3.setCell ⟨p, n, none⟩ (.int .u64 (v : Int))) (some p) := grown_set (grown_trans (grown_trans hga hg2) hg3) _
  have HR4 : Hid (Row (w3.setCell ⟨p, n, none⟩ (.int .u64 (v : Int))) p m (put F3 n v) ∧ V (put F3 n v) m = g0 * V G n ∧ w.grownBy (w3.setCell ⟨p, n, none⟩ (.int .u64 (v : Int))) (some p)) := ⟨R4, hv4, hg4⟩
  clear R3 R4 hv3 hv4 hfr3 hg4 hg3 hga T2 SP2 SD2 R2 hg2 SP1 SD1 hbd hba T1
  go_wp2
  go_step3
  go_wp2
  go_loopg [8] g0 (fun gk s wr => ∃ F', s = .int .u64 ((gk : Nat) : Int) ∧ Row wr p m F' ∧ V F' m = gk * V G n ∧ V H m / V G n ≤ gk ∧ gk < B ∧ w.grownBy wr (some p))
  case atStart => exact ⟨put F3 n v, rfl, HR4.out.1, HR4.out.2.1, HG.out.1, HG.out.2.1, HR4.out.2.2⟩
  case round =>
    obtain ⟨F', rfl, R', hv, hq, hlt, hgr⟩ := hrel
    obtain ⟨g, rfl⟩ : ∃ g, g = gk := ⟨gk, rfl⟩
    have HV : Hid (V F' m = g * V G n ∧ V H m / V G n ≤ g ∧ g < B) := ⟨hv, hq, hlt⟩
    have HR : Hid (Row wr p m F' ∧ w.grownBy wr (some p)) := ⟨R', hgr⟩
    clear HR4 hv hq hlt R' hgr cz fz
    go_wp2
    go_loopg [8, 9] m (fun kk s8 s wr2 => s8 = .int .u64 ((g : Nat) : Int) ∧ s = .int .i64 ((kk : Int) - 1) ∧ kk ≤ m ∧ Row wr2 p m F' ∧ w.grownBy wr2 (some p) ∧ ∀ j, kk ≤ j → j < m → F' j = H j)
    case atStart => exact ⟨rfl, by congr 1; have := HNM.out.2; omega, Nat.le_refl _, HR.out.1, HR.out.2, fun j a b => absurd a (by omega)⟩
    case round =>
      obtain ⟨rfl, rfl, hk, R', hgr, heq⟩ := hrel
      obtain ⟨k, rfl⟩ : ∃ k, k = gk := ⟨gk, rfl⟩
      have HE : Hid (∀ j, k ≤ j → j < m → F' j = H j) := heq
      have HR2 : Hid (Row wr p m F' ∧ w.grownBy wr (some p)) := ⟨R', hgr⟩
      clear heq HR
      by_cases c1 : 0 < k
      · have cz := R'.row.cell (i := k - 1) (by omega)
        have cq := (HP.out.kept hgr (fun _ => n1)).cell (k - 1) (by omega)
        clear R' hgr
        rcases Nat.lt_trichotomy (F' (k - 1)) (H (k - 1)) with z | z | z
        · have g1 : (1 : Int) ≤ (k : Int) := by omega
          have g3 : ¬ (((H (k - 1) : Nat) : Int) ≤ ((F' (k - 1) : Nat) : Int)) := by omega
          have hle : g * V G n ≤ V H m := by
            rw [← HV.out.1]
            exact Nat.le_of_lt (V_lt_at HR2.out.1.ws z (by omega) (fun j a b => HE.out j (by omega) b))
          have HQ : Hid (g = V H m / V G n) := quo_eq hle HV.out.2.1 HG.out.2.2
          clear hle z
          go_wp2
          go_quiet (fail)
          go_wp2
          try rw [Exit.noGoto_ret]
          go_ret
          refine ⟨by rw [← HQ.out]; rfl, grown_drewN HR2.out.2, F', row_drewN HR2.out.1, ?_⟩
          rw [HV.out.1, ← HQ.out]
        · have g1 : (1 : Int) ≤ (k : Int) := by omega
          have HZ : Hid (F' (k - 1) = H (k - 1)) := z
          have hk63 : (k : Int) ≤ 2000 := by have := HNM.out; omega
          rw [z] at cz
          clear z
          go_wp2
          go_quiet (fail)
          go_wp2
          go_quiet (fail)
          go_wp2
          go_roundg (k - 1)
          case measure => omega
          case rel =>
            refine ⟨rfl, by go_num, by omega, row_drewN HR2.out.1, grown_drewN HR2.out.2, fun j a b => ?_⟩
            by_cases y : j = k - 1
            · rw [y]; exact HZ.out
            · exact HE.out j (by omega) b
        · have g1 : (1 : Int) ≤ (k : Int) := by omega
          have g3 : ((H (k - 1) : Nat) : Int) ≤ ((F' (k - 1) : Nat) : Int) := by omega
          have g4 : ((H (k - 1) : Nat) : Int) < ((F' (k - 1) : Nat) : Int) := by omega
          have hgt : V H m < g * V G n := by
            rw [← HV.out.1]
            exact V_lt_at HP.out.ws z (by omega) (fun j a b => (HE.out j (by omega) b).symm)
          have hgq := quo_gt hgt HG.out.2.2
          have hg1 : 1 ≤ g := Nat.lt_of_le_of_lt (Nat.zero_le _) hgq
          have hle : V G n ≤ V F' m := by
            rw [HV.out.1]
            have q := Nat.mul_le_mul_right (V G n) hg1
            rw [Nat.one_mul] at q
            exact q
          have HQ : Hid (V H m / V G n < g) := hgq
          have hg2 : (1 : Int) ≤ (g : Int) := by omega
          have hgB : (g : Int) ≤ 18446744073709551615 := by have := HV.out.2.2; unfold B at this; omega
          have wg : IntKind.u64.wrap ((g : Int) - 1) = ((g - 1 : Nat) : Int) := by rw [IntKind.wrap_u64]; omega
          have e0 : (fun i => F' (0 + i)) = F' := funext fun i => by rw [Nat.zero_add]
          have hmm : m ≤ 9223372036854775807 := by have := HNM.out; omega
          have DD := fun nq => decrease_any (w := wr.drewN nq) (g := p) (o := 0) (n := m) (c := m) (row_drewN HR2.out.1) (by omega) (Nat.le_refl _) (by unfold maxLen; omega) (HD.out.kept (grown_drewN HR2.out.2) (fun _ => n2)) (fun _ => n2) (by omega) (by rw [e0]; exact hle)
          rw [e0] at DD
          clear hgt hgq hle z e0
          go_wp2
          go_quiet (fail)
          go_wp2
          go_quiet (fail)
          go_wp2_with fail
          refine (DD _).mono ?_
          rintro e w5 ⟨rfl, hg5, F5, R5, _, hv5⟩
          have HR5 : Hid (Row w5 p m F5 ∧ w.grownBy w5 (some p)) := ⟨R5, grown_trans (grown_drewN HR2.out.2) hg5⟩
          have HV5 : Hid (V F5 m + V G n = V F' m) := by
            have e1 : (fun i => F5 (0 + i)) = F5 := funext fun i => by rw [Nat.zero_add]
            rw [e1] at hv5
            exact hv5
          clear hv5 R5 hg5
          go_wp2
          go_roundg (g - 1)
          case measure => omega
          case rel =>
            refine ⟨F5, rfl, HR5.out.1, ?_, ?_, ?_, HR5.out.2⟩
            · have a := HV5.out
              rw [HV.out.1] at a
              obtain ⟨g', rfl⟩ : ∃ g', g = g' + 1 := ⟨g - 1, by omega⟩
              rw [Nat.add_mul, Nat.one_mul] at a
              rw [Nat.add_sub_cancel]
              omega
            · exact Nat.le_sub_one_of_lt HQ.out
            · exact Nat.lt_of_le_of_lt (Nat.sub_le _ _) HV.out.2.2
      · obtain rfl : k = 0 := by omega
        have hle : g * V G n ≤ V H m := by
          rw [← HV.out.1]
          exact Nat.le_of_eq (V_congr fun i hi => HE.out i (Nat.zero_le _) hi)
        have HQ : Hid (g = V H m / V G n) := quo_eq hle HV.out.2.1 HG.out.2.2
        clear hle c1 R' hgr
        go_wp2
        go_quiet (fail)
        go_wp2
        try rw [Exit.noGoto_ret]
        go_ret
        refine ⟨by rw [← HQ.out]; rfl, grown_drewN HR2.out.2, F', row_drewN HR2.out.1, ?_⟩
        rw [HV.out.1, ← HQ.out]

end Go.Proofs.YtkkgancmodhghaaDoor
