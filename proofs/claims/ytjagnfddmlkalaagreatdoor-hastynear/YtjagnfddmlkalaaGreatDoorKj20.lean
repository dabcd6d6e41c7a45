/-
  Holds: VDiv3 VNatG VNatH VNatI VNatN VNatJ VNatL VNatP VNatR VNatK VNatVl.
-/
import Derived.Test.YtjagnfddmlkalaaGreatDoorRows
import Derived.Laws.Externs
import Derived.WalkKit
import Derived.WalkSpells
import Derived.WalkLawsBesides
import Derived.Lib.Mul64
import Derived.Deep.OwnRows
import Derived.Laws.CopyOwn
import Derived.BigQuiet
import Derived.Deep.RegionHeld3
import Derived.Lib.TrailingZeros
import Derived.Lib.ItoaNum
import Derived.Deep.LoopGhost
import Derived.Test.YtjagnfddmlkalaaGreatDoorKj7
import Derived.Test.YtjagnfddmlkalaaGreatDoorKj14
import Derived.Test.YtjagnfddmlkalaaGreatDoorKj19
set_option maxRecDepth 100000
set_option maxHeartbeats 4000000
namespace Go.Proofs.YtjagnfddmlkalaaGreatDoor
open Go.RowKit
def dvQ (hi lo y : Int) : Int := (hi * 18446744073709551616 + lo) / y
def dvR (hi lo y : Int) : Int := (hi * 18446744073709551616 + lo) % y
theorem div64_zero (lo y : Int) (h2 : Word lo) (h3 : Word y) (hy : 0 < y) (w : World) :
 Calls Tryz.prog 125 #[.int .u64 0, .int .u64 lo, .int .u64 y] w fun e w' => e = .returned (.tuple #[.int .u64 (dvQ 0 lo y), .int .u64 (dvR 0 lo y)]) ∧ Below w.heap.size w w' := by
 obtain ⟨a1, a2⟩ := h2
 obtain ⟨c1, c2⟩ := h3
 have hy0 : (y == 0) = false := by simp; omega
 have d1 : 0 ≤ lo / y := Int.ediv_nonneg a1 c1
 have d2 : lo / y ≤ lo := Int.ediv_le_self _ a1
 go_enter Tryz.func125, Tryz.ntmps125
 go_wp2
 go_region
 all_goals
  go_wp2
  go_ret2
  exact ⟨ret_ww (by unfold dvQ; rw [Int.zero_mul, Int.zero_add]) (by unfold dvR; rw [Int.zero_mul, Int.zero_add]), (Below.refl _ _).drew⟩
theorem div64_any (hi lo y : Int) (h1 : Word hi) (h2 : Word lo) (h3 : Word y) (hlt : hi < y) (w : World) :
 Calls Tryz.prog 125 #[.int .u64 hi, .int .u64 lo, .int .u64 y] w fun e w' => e = .returned (.tuple #[.int .u64 (dvQ hi lo y), .int .u64 (dvR hi lo y)]) ∧ Below w.heap.size w w' := by
 have hi0 := h1.1
 by_cases z : hi = 0
 · subst z; exact div64_zero lo y h2 h3 hlt w
 have hz : (hi == 0) = false := by simp; omega
 have hy0 : (y == 0) = false := by simp; omega
 obtain ⟨n, b1, b2, b3, b4⟩ := blen_bounds y (by omega) h3.2
 obtain ⟨U, L, Y, e1, e4, e5, f1, f2, f3, f4, f5, f6, f7, f8⟩ := norm_setup h1 h2 hlt b2 b3 b4
 have hS : (0 : Int) < 2 ^ (63 - n) := Int.pow_pos (by omega)
 have D1 : Divd U (L / 4294967296) Y (Y / 4294967296) (Y % 4294967296) := ⟨by omega, by omega, by omega, by omega, by omega, f4, f5, by omega, by omega⟩
 have s1 := D1.start
 have r1 := D1.rd_lt
 have q1 := D1.eq
 have t1 := D1.qd_lt
 have t1' := D1.qd_nonneg
 have D2 : Divd (rd U (L / 4294967296) Y) (L % 4294967296) Y (Y / 4294967296) (Y % 4294967296) := ⟨by omega, by omega, by omega, by omega, by omega, r1.1, r1.2, by omega, by omega⟩
 have s2 := D2.start
 have r2 := D2.rd_lt
 have q2 := D2.eq
 have t2 := D2.qd_lt
 have t2' := D2.qd_nonneg
 obtain ⟨g1, g2⟩ := div_whole hS (by omega : 0 < y) f1 f8 (by omega : L = L / 4294967296 * 4294967296 + L % 4294967296) q1 q2 r2.1 r2.2
 have z1 : 0 ≤ U / (Y / 4294967296) * (Y / 4294967296) := Int.mul_nonneg (by omega) (by omega)
 have z2 : 0 ≤ rd U (L / 4294967296) Y / (Y / 4294967296) * (Y / 4294967296) := Int.mul_nonneg (by omega) (by omega)
 have core := div64_core hi lo y U L Y (Y / 4294967296) (Y % 4294967296) (L / 4294967296) (L % 4294967296) (U / (Y / 4294967296)) (U / (Y / 4294967296) * (Y / 4294967296)) (qd U (L / 4294967296) Y) (rd U (L / 4294967296) Y)
  (rd U (L / 4294967296) Y / (Y / 4294967296)) (rd U (L / 4294967296) Y / (Y / 4294967296) * (Y / 4294967296)) (qd (rd U (L / 4294967296) Y) (L % 4294967296) Y) (rd (rd U (L / 4294967296) Y) (L % 4294967296) Y) n w
  hi0 h2.1 h3 hlt hz hy0 b1 b2 e1 e4 e5 rfl (mask_u64 ⟨by omega, f3⟩) rfl (mask_u64 ⟨f6, f7⟩) f4 (by omega) (by omega) (by omega) (by omega) (by omega) (by omega) (by omega) f6
  rfl rfl (by omega) (by omega) (by omega) (by omega) (by omega) (by omega) D1 rfl (by omega)
  (by simp only [IntKind.wrap_u64]; generalize qd U (L / 4294967296) Y * Y = M at *; omega)
  (by omega) rfl rfl (by omega) (by omega) (by omega) (by omega) (by omega) (by omega) D2 rfl (by omega)
  (by simp only [IntKind.wrap_u64]; generalize qd (rd U (L / 4294967296) Y) (L % 4294967296) Y * Y = M at *; omega)
  (by omega) (by omega) (by omega) (by omega) (by omega) (by omega)
 refine core.mono ?_
 rintro e w' ⟨rfl, rfl⟩
 exact ⟨ret_ww g1 g2, Below.refl _ _⟩
theorem zero_u64 (w : World) : (zeroValue 22).run Tryz.prog w = .ok (.int .u64 0) w := by kernel_rfl
theorem zeroed_row {g N : Nat} : ∀ (n o : Nat) (w : World) (F : Nat → Nat), Row w g N F → Row (w.setCells g o (List.replicate n (.int .u64 0))) g N (fun i => if o ≤ i ∧ i < o + n then 0 else F i)
  | 0, o, w, F, R => ⟨R.row.congr fun i _ => by rw [if_neg (by omega)], fun i => by show (if o ≤ i ∧ i < o + 0 then 0 else F i) < B; rw [if_neg (by omega)]; exact R.ws i⟩
  | n + 1, o, w, F, R => by
    have h := zeroed_row n (o + 1) _ _ (R.set o (r := 0) B_pos)
    rw [List.replicate_succ]
    refine ⟨h.row.congr fun i _ => ?_, fun i => ?_⟩
    · unfold put
      by_cases c : i = o
      · subst c; rw [if_neg (by omega), if_pos rfl, if_pos (by omega)]
      · by_cases d : o ≤ i ∧ i < o + (n + 1)
        · rw [if_pos (by omega), if_pos d]
        · rw [if_neg (by omega), if_neg c, if_neg d]
    · show (if o ≤ i ∧ i < o + (n + 1) then 0 else F i) < B
      split
      · exact B_pos
      · exact R.ws i
theorem zeroed_grown {w0 : World} {g : Nat} : ∀ (n o : Nat) (w : World), w0.grownBy w (some g) → w0.grownBy (w.setCells g o (List.replicate n (.int .u64 0))) (some g)
 | 0, _, _, h => h
 | n + 1, o, w, h => by rw [List.replicate_succ]; exact zeroed_grown n (o + 1) _ (grown_set h _)
def gW (hi lo d : Nat) : Nat := if d ≤ hi then B - 1 else (hi * B + lo) / d
theorem gW_lt {hi lo d : Nat} (hlo : lo < B) : gW hi lo d < B := by
 unfold gW
 split
 · unfold B; omega
 · rename_i h
   rw [Nat.div_lt_iff_lt_mul (by omega)]
   have : (hi + 1) * B ≤ d * B := Nat.mul_le_mul_right _ (by omega)
   rw [Nat.add_mul, Nat.one_mul] at this
   rw [Nat.mul_comm B d]
   omega
theorem guess_gen {u a b p c : Nat} : u + a * p + b * (p * c) = u + (b * c + a) * p := by grind
theorem guess_ge {f g : Nat → Nat} (hf : Ws f) {t : Nat} (h0 : g t ≠ 0) (hlt : V f (t + 1 + 1) < V g (t + 1) * B) : V f (t + 1 + 1) / V g (t + 1) ≤ gW (f (t + 1)) (f t) (g t) := by
 have hD : 0 < V g (t + 1) := Nat.lt_of_lt_of_le (Bp_pos t) (V_ge h0)
 unfold gW
 split
 · have : V f (t + 1 + 1) / V g (t + 1) < B := by rw [Nat.div_lt_iff_lt_mul hD, Nat.mul_comm]; exact hlt
   omega
 · have a : g t * B ^ t ≤ V g (t + 1) := by rw [V_succ]; omega
   have p : 0 < g t * B ^ t := Nat.mul_pos (by omega) (Bp_pos t)
   refine Nat.le_trans (Nat.div_le_div_left a p) ?_
   have e : V f (t + 1 + 1) = V f t + (f (t + 1) * B + f t) * B ^ t := by
    rw [V_succ, V_succ, Nat.pow_succ]
    exact guess_gen
   rw [e, Nat.mul_comm (g t), ← Nat.div_div_eq_div_mul, Nat.add_mul_div_right _ _ (Bp_pos t), Nat.div_eq_of_lt (V_lt hf t), Nat.zero_add]
   exact Nat.le_refl _
theorem guess_any (hi lo d : Nat) (h1 : hi < B) (h2 : lo < B) (h3 : d < B) (w : World) :
 Calls Tryz.prog 156 #[.int .u64 (hi : Int), .int .u64 (lo : Int), .int .u64 (d : Int)] w fun e w' => e = .returned (.int .u64 ((gW hi lo d : Nat) : Int)) ∧ Below w.heap.size w w' := by
 by_cases c : d ≤ hi
 · have e : gW hi lo d = 18446744073709551615 := by unfold gW; rw [if_pos c]; rfl
   rw [e]
   go_enter Tryz.func156, Tryz.ntmps156
   go_wp2
   go_ret
   exact ⟨rfl, Below.refl _ _⟩
 · have e : gW hi lo d = (hi * B + lo) / d := by unfold gW; rw [if_neg c]
   unfold B at h1 h2 h3 e
   have T := div64_any (hi : Int) (lo : Int) (d : Int) ⟨by omega, by omega⟩ ⟨by omega, by omega⟩ ⟨by omega, by omega⟩ (by omega) w
   have eq : dvQ (hi : Int) (lo : Int) (d : Int) = ((gW hi lo d : Nat) : Int) := by rw [e]; unfold dvQ; rw [Int.natCast_ediv, Int.natCast_add, Int.natCast_mul]; rfl
   rw [eq] at T
   generalize gW hi lo d = gg at *
   generalize dvR (hi : Int) (lo : Int) (d : Int) = rr at *
   clear e eq
   have c' : ¬ ((d : Int) ≤ (hi : Int)) := by omega
   go_enter Tryz.func156, Tryz.ntmps156
   go_wp2_with fail
   refine T.mono ?_
   rintro e wa ⟨rfl, hba⟩
   go_wp2
   go_ret
   exact ⟨rfl, hba⟩
theorem quo_eq {g D P : Nat} (h1 : g * D ≤ P) (h2 : P / D ≤ g) (hD : 0 < D) : g = P / D := by
 have := (Nat.le_div_iff_mul_le hD).mpr h1
 omega
theorem quo_gt {g D P : Nat} (h1 : P < g * D) (hD : 0 < D) : P / D < g := (Nat.div_lt_iff_lt_mul hD).mpr h1
theorem row_drewN {w : World} {g N nq : Nat} {F : Nat → Nat} (R : Row w g N F) : Row (w.drewN nq) g N F := ⟨R.row.of_block rfl, R.ws⟩
theorem grown_drewN {w wr : World} {row : Option Nat} {nq : Nat} (h : w.grownBy wr row) : w.grownBy (wr.drewN nq) row := ⟨h.os, h.tape, h.output, h.size, h.block⟩
theorem clear_run {w : World} {g N : Nat} {F : Nat → Nat} (R : Row w g N F) (hN : 0 < N) {c : Nat} :
 ∃ w2, (∀ ty, (Builtin.clear_ #[102] ty #[.slice (some ⟨g, 0, none⟩) N c]).run Tryz.prog w = .ok (.tuple #[]) w2) ∧ Row w2 g N (fun _ => 0) ∧ w.grownBy w2 (some g) := by
 refine ⟨w.setCells g 0 (List.replicate N (.int .u64 0)), fun ty => Lib.run_clear_slice w 102 22 ty (.int .u64 0) und_nat zero_u64 rfl rfl g 0 N c hN (fun j hj => ?_) (fun j hj => ?_), ?_, zeroed_grown N 0 w (World.grownBy.refl _ _)⟩
 · rw [Nat.zero_add, R.row.cell hj]; rfl
 · exact R.row.frozen _
 · have h := zeroed_row N 0 w F R
   exact ⟨h.row.congr fun i hi => by rw [if_pos (by omega)], fun _ => B_pos⟩
theorem quotientWord_any {w : World} {t n m : Nat} (hn : t + 1 = n) (hm : n + 1 = m) {po : Option Addr} {cp bp op : Nat} {H : Nat → Nat} (SP : Sl w po m cp bp op H) {dv : Option Addr} {cd bd od : Nat} {G : Nat → Nat} (SD : Sl w dv n cd bd od G) (h0 : G t ≠ 0) (ht : t ≤ 1000)
 {p : Nat} {Fp : Nat → Nat} (R : Row w p m Fp) (n1 : bp ≠ p) (n2 : bd ≠ p) (hlt : V H m < V G n * B) :
 Calls Tryz.prog 144 #[.slice po m cp, .slice dv n cd, .slice (some ⟨p, 0, none⟩) m m] w fun e w' => e = .returned (.int .u64 ((V H m / V G n : Nat) : Int)) ∧ w.grownBy w' (some p) ∧
  ∃ F, Row w' p m F ∧ V F m = V H m / V G n * V G n := by
 have hD : 0 < V G n := by subst hn; exact Nat.lt_of_lt_of_le (Bp_pos t) (V_ge h0)
 have gge : V H m / V G n ≤ gW (H n) (H t) (G t) := by subst hm hn; exact guess_ge SP.ws h0 hlt
 have glt := gW_lt (hi := H n) (d := G t) (SP.ws t)
 have T1 := fun W => guess_any (H n) (H t) (G t) (SP.ws _) (SP.ws _) (SD.ws _) W
 obtain rfl := SP.addr (by omega)
 obtain rfl := SD.addr (by omega)
 have HP : Hid (Sl w (some ⟨bp, op, none⟩) m cp bp op H) := SP
 have HD : Hid (Sl w (some ⟨bd, od, none⟩) n cd bd od G) := SD
 have cp1 := SP.cell n (by omega)
 have cp0 := SP.cell t (by omega)
 have cd0 := SD.cell t (by omega)
 have HG : Hid (V H m / V G n ≤ gW (H n) (H t) (G t) ∧ gW (H n) (H t) (G t) < B ∧ 0 < V G n) := ⟨gge, glt, hD⟩
 clear SP SD gge glt h0 hlt hD
 generalize gW (H n) (H t) (G t) = g0 at *
 have i1 : (0 : Int) ≤ (n : Int) := by omega
 have i2 : (n : Int) < (m : Int) := by omega
 have i2' : n < m := by omega
 have i3 : (n : Int) - 1 = (t : Int) := by omega
 have i4 : (t : Int) < (m : Int) := by omega
 have i5 : (t : Int) < (n : Int) := by omega
 have i6 : (0 : Int) ≤ (t : Int) := by omega
 have i7 : t < m := by omega
 have i8 : t < n := by omega
 have i10 : IntKind.i64.wrap (t : Int) = (t : Int) := by simp [IntKind.wrap, IntKind.signed, IntKind.bits]; omega
 have i9 : (1 : Int) ≤ (n : Int) := by omega
 have HNM : Hid (t + 1 = n ∧ n + 1 = m) := ⟨hn, hm⟩
 have k1 := HP.out.blk (by omega)
 have k2 := HD.out.blk (by omega)
 clear hn hm
 go_enter Tryz.func144, Tryz.ntmps144
 go_wp2
 go_step3
 go_wp2
 go_region_held3 (fun w' => w'.cell? ⟨bp, op + n, none⟩ = some (.int .u64 ((H n : Nat) : Int)) ∧ w'.cell? ⟨bp, op + t, none⟩ = some (.int .u64 ((H t : Nat) : Int)) ∧ w'.cell? ⟨bd, od + t, none⟩ = some (.int .u64 ((G t : Nat) : Int))) (simp [*, go_sem])
  (first | (go_at_call 156; refine (T1 _).mono ?_; rintro e wa ⟨rfl, hbd⟩; obtain ⟨hcd, hfd⟩ := bcell hbd; simp at hcd hfd))
 have hba : Below w.heap.size w wa := (Below.refl _ _).drew.trans hbd
 have SP1 := HP.out.below hba
 have SD1 := HD.out.below hba
 obtain ⟨w2, hcl, R2, hg2⟩ := clear_run (R.below hba) (by omega) (c := m)
 have SP2 := SP1.kept hg2 (fun _ => n1)
 have SD2 := SD1.kept hg2 (fun _ => n2)
 have T2 := times_any (g := p) (o := 0) (zo := some ⟨p, 0, none⟩) (n := n) (c := m) R2 SD2 (fun q => ⟨rfl, n2⟩) (by omega) (Nat.le_refl _) g0 HG.out.2.1
 clear cp1 cp0 cd0 hcd hfd
 go_wp2_with fail
 refine T2.mono ?_
 rintro e w3 ⟨v, F3, rfl, hvB, hg3, R3, hfr3, hv3⟩
 have cz := R3.row.cell (i := n) i2'
 have fz := R3.row.frozen n
 have R4 := R3.set n hvB
 have hv4 : V (put F3 n v) m = g0 * V G n := by
  rw [← HNM.out.2, V_succ, V_put_low (Nat.le_refl _), put_at]
  have e0 : (fun i => F3 (0 + i)) = F3 := funext fun i => by rw [Nat.zero_add]
  rw [e0, V_nought, Nat.zero_add] at hv3
  rw [hv3, Nat.mul_comm]
 have hga : w.grownBy wa (some p) := ⟨hba.os, hba.tape, hba.output, hba.size, fun k hk _ => hba.block k hk⟩
 have hg4 : w.grownBy (w3.setCell ⟨p, n, none⟩ (.int .u64 (v : Int))) (some p) := grown_set (grown_trans (grown_trans hga hg2) hg3) _
 have HR4 : Hid (Row (w3.setCell ⟨p, n, none⟩ (.int .u64 (v : Int))) p m (put F3 n v) ∧ V (put F3 n v) m = g0 * V G n ∧ w.grownBy (w3.setCell ⟨p, n, none⟩ (.int .u64 (v : Int))) (some p)) := ⟨R4, hv4, hg4⟩
 clear R3 R4 hv3 hv4 hfr3 hg4 hg3 hga T2 SP2 SD2 R2 hg2 SP1 SD1 hbd hba T1
 go_wp2
 go_step3
 go_wp2
 go_loopg [8] g0 (fun gk s wr => ∃ F', s = .int .u64 ((gk : Nat) : Int) ∧ Row wr p m F' ∧ V F' m = gk * V G n ∧ V H m / V G n ≤ gk ∧ gk < B ∧ w.grownBy wr (some p))
 case atStart => exact ⟨put F3 n v, rfl, HR4.out.1, HR4.out.2.1, HG.out.1, HG.out.2.1, HR4.out.2.2⟩
 case round =>
  obtain ⟨F', rfl, R', hv, hq, hlt, hgr⟩ := hrel
  obtain ⟨g, rfl⟩ : ∃ g, g = gk := ⟨gk, rfl⟩
  have HV : Hid (V F' m = g * V G n ∧ V H m / V G n ≤ g ∧ g < B) := ⟨hv, hq, hlt⟩
  have HR : Hid (Row wr p m F' ∧ w.grownBy wr (some p)) := ⟨R', hgr⟩
  clear HR4 hv hq hlt R' hgr cz fz
  go_wp2
  go_loopg [8, 9] m (fun kk s8 s wr2 => s8 = .int .u64 ((g : Nat) : Int) ∧ s = .int .i64 ((kk : Int) - 1) ∧ kk ≤ m ∧ Row wr2 p m F' ∧ w.grownBy wr2 (some p) ∧ ∀ j, kk ≤ j → j < m → F' j = H j)
  case atStart => exact ⟨rfl, by congr 1; have := HNM.out.2; omega, Nat.le_refl _, HR.out.1, HR.out.2, fun j a b => absurd a (by omega)⟩
  case round =>
   obtain ⟨rfl, rfl, hk, R', hgr, heq⟩ := hrel
   obtain ⟨k, rfl⟩ : ∃ k, k = gk := ⟨gk, rfl⟩
   have HE : Hid (∀ j, k ≤ j → j < m → F' j = H j) := heq
   have HR2 : Hid (Row wr p m F' ∧ w.grownBy wr (some p)) := ⟨R', hgr⟩
   clear heq HR
   by_cases c1 : 0 < k
   · have cz := R'.row.cell (i := k - 1) (by omega)
     have cq := (HP.out.kept hgr (fun _ => n1)).cell (k - 1) (by omega)
     clear R' hgr
     rcases Nat.lt_trichotomy (F' (k - 1)) (H (k - 1)) with z | z | z
     · have g1 : (1 : Int) ≤ (k : Int) := by omega
       have g3 : ¬ (((H (k - 1) : Nat) : Int) ≤ ((F' (k - 1) : Nat) : Int)) := by omega
       have hle : g * V G n ≤ V H m := by
        rw [← HV.out.1]
        exact Nat.le_of_lt (V_lt_at HR2.out.1.ws z (by omega) (fun j a b => HE.out j (by omega) b))
       have HQ : Hid (g = V H m / V G n) := quo_eq hle HV.out.2.1 HG.out.2.2
       clear hle z
       go_wp2
       go_quiet (fail)
       go_wp2
       try rw [Exit.noGoto_ret]
       go_ret
       refine ⟨by rw [← HQ.out]; rfl, grown_drewN HR2.out.2, F', row_drewN HR2.out.1, ?_⟩
       rw [HV.out.1, ← HQ.out]
     · have g1 : (1 : Int) ≤ (k : Int) := by omega
       have HZ : Hid (F' (k - 1) = H (k - 1)) := z
       have hk63 : (k : Int) ≤ 2000 := by have := HNM.out; omega
       rw [z] at cz
       clear z
       go_wp2
       go_quiet (fail)
       go_wp2
       go_quiet (fail)
       go_wp2
       go_roundg (k - 1)
       case measure => omega
       case rel =>
        refine ⟨rfl, by go_num, by omega, row_drewN HR2.out.1, grown_drewN HR2.out.2, fun j a b => ?_⟩
        by_cases y : j = k - 1
        · rw [y]; exact HZ.out
        · exact HE.out j (by omega) b
     · have g1 : (1 : Int) ≤ (k : Int) := by omega
       have g3 : ((H (k - 1) : Nat) : Int) ≤ ((F' (k - 1) : Nat) : Int) := by omega
       have g4 : ((H (k - 1) : Nat) : Int) < ((F' (k - 1) : Nat) : Int) := by omega
       have hgt : V H m < g * V G n := by
        rw [← HV.out.1]
        exact V_lt_at HP.out.ws z (by omega) (fun j a b => (HE.out j (by omega) b).symm)
       have hgq := quo_gt hgt HG.out.2.2
       have hg1 : 1 ≤ g := Nat.lt_of_le_of_lt (Nat.zero_le _) hgq
       have hle : V G n ≤ V F' m := by
        rw [HV.out.1]
        have q := Nat.mul_le_mul_right (V G n) hg1
        rw [Nat.one_mul] at q
        exact q
       have HQ : Hid (V H m / V G n < g) := hgq
       have hg2 : (1 : Int) ≤ (g : Int) := by omega
       have hgB : (g : Int) ≤ 18446744073709551615 := by have := HV.out.2.2; unfold B at this; omega
       have wg : IntKind.u64.wrap ((g : Int) - 1) = ((g - 1 : Nat) : Int) := by rw [IntKind.wrap_u64]; omega
       have e0 : (fun i => F' (0 + i)) = F' := funext fun i => by rw [Nat.zero_add]
       have hmm : m ≤ 9223372036854775807 := by have := HNM.out; omega
       have DD := fun nq => decrease_any (w := wr.drewN nq) (g := p) (o := 0) (n := m) (c := m) (row_drewN HR2.out.1) (by omega) (Nat.le_refl _) (by unfold maxLen; omega) (HD.out.kept (grown_drewN HR2.out.2) (fun _ => n2)) (fun _ => n2) (by omega) (by rw [e0]; exact hle)
       rw [e0] at DD
       clear hgt hgq hle z e0
       go_wp2
       go_quiet (fail)
       go_wp2
       go_quiet (fail)
       go_wp2_with fail
       refine (DD _).mono ?_
       rintro e w5 ⟨rfl, hg5, F5, R5, _, hv5⟩
       have HR5 : Hid (Row w5 p m F5 ∧ w.grownBy w5 (some p)) := ⟨R5, grown_trans (grown_drewN HR2.out.2) hg5⟩
       have HV5 : Hid (V F5 m + V G n = V F' m) := by
        have e1 : (fun i => F5 (0 + i)) = F5 := funext fun i => by rw [Nat.zero_add]
        rw [e1] at hv5
        exact hv5
       clear hv5 R5 hg5
       go_wp2
       go_roundg (g - 1)
       case measure => omega
       case rel =>
        refine ⟨F5, rfl, HR5.out.1, ?_, ?_, ?_, HR5.out.2⟩
        · have a := HV5.out
          rw [HV.out.1] at a
          obtain ⟨g', rfl⟩ : ∃ g', g = g' + 1 := ⟨g - 1, by omega⟩
          rw [Nat.add_mul, Nat.one_mul] at a
          rw [Nat.add_sub_cancel]
          omega
        · exact Nat.le_sub_one_of_lt HQ.out
        · exact Nat.lt_of_le_of_lt (Nat.sub_le _ _) HV.out.2.2
   · obtain rfl : k = 0 := by omega
     have hle : g * V G n ≤ V H m := by
      rw [← HV.out.1]
      exact Nat.le_of_eq (V_congr fun i hi => HE.out i (Nat.zero_le _) hi)
     have HQ : Hid (g = V H m / V G n) := quo_eq hle HV.out.2.1 HG.out.2.2
     clear hle c1 R' hgr
     go_wp2
     go_quiet (fail)
     go_wp2
     try rw [Exit.noGoto_ret]
     go_ret
     refine ⟨by rw [← HQ.out]; rfl, grown_drewN HR2.out.2, F', row_drewN HR2.out.1, ?_⟩
     rw [HV.out.1, ← HQ.out]
theorem lead_nat {x : Nat} (h0 : x ≠ 0) (hx : x < B) : ∃ s : Nat, (64 : Int) - blen (x : Int) = (s : Int) ∧ s < 64 ∧ x < 2 ^ (64 - s) := by
 unfold B at hx
 obtain ⟨n, e, hn, h1, h2⟩ := blen_bounds (x : Int) (by omega) (by omega)
 refine ⟨63 - n, by omega, by omega, ?_⟩
 rw [show 64 - (63 - n) = n + 1 by omega]
 rw [pow_cast] at h2
 omega
theorem div_len {G Fd : Nat → Nat} (hG : Ws G) (hF : Ws Fd) {m s : Nat} (hm : 0 < m) (hs : s < 64) (h0 : G (m - 1) ≠ 0) (hx : G (m - 1) < 2 ^ (64 - s)) (hv : V Fd (m + 1) = V G m * 2 ^ s) : tl Fd (m + 1) = m := by
 have t := tl_top Fd (m + 1)
 have v := tl_V Fd (m + 1)
 obtain ⟨k, rfl⟩ : ∃ k, m = k + 1 := ⟨m - 1, by omega⟩
 rw [Nat.add_sub_cancel] at h0 hx
 have p : 0 < 2 ^ s := Nat.pow_pos (by omega)
 have a : V G (k + 1) < 2 ^ (64 - s) * B ^ k := by
  have q := V_lt hG k
  have r : (G k + 1) * B ^ k ≤ 2 ^ (64 - s) * B ^ k := Nat.mul_le_mul_right _ hx
  rw [Nat.add_mul, Nat.one_mul] at r
  rw [V_succ]; omega
 have b : V G (k + 1) * 2 ^ s < B ^ (k + 1) := by
  have q := Nat.mul_lt_mul_of_pos_right a p
  rw [Nat.mul_right_comm, B_part (Nat.le_of_lt hs), Nat.mul_comm B, ← Nat.pow_succ] at q
  exact q
 have c : B ^ k ≤ V G (k + 1) * 2 ^ s := Nat.le_trans (V_ge h0) (Nat.le_mul_of_pos_right _ p)
 rw [hv] at v
 have d := len_le t (k := k + 1) (by rw [v]; exact b)
 rcases Nat.lt_or_ge (tl Fd (k + 1 + 1)) (k + 1) with y | y
 · exfalso
   have e := V_lt hF (tl Fd (k + 1 + 1))
   have g : B ^ tl Fd (k + 1 + 1) ≤ B ^ k := Nat.pow_le_pow_right B_pos (by omega)
   omega
 · omega
theorem Row.setOther {w : World} {g N : Nat} {F : Nat → Nat} (R : Row w g N F) {a : Addr} (h : g ≠ a.block) (v : Value) : Row (w.setCell a v) g N F := ⟨R.row.setOther h v, R.ws⟩
theorem Row.alloc {w : World} {g N : Nat} {F : Nat → Nat} (R : Row w g N F) (o : Obj) : Row (w.alloc o) g N F := ⟨R.row.alloc o, R.ws⟩
theorem V_put_add {f : Nat → Nat} {k x : Nat} (h : f k = 0) : ∀ {n : Nat}, k < n → V (put f k x) n = V f n + x * B ^ k
  | 0, hk => absurd hk (by omega)
  | n + 1, hk => by
    by_cases c : k = n
    · subst c; rw [V_succ, V_succ, V_put_low (Nat.le_refl _), put_at, h, Nat.zero_mul, Nat.add_zero]
    · have i := V_put_add (x := x) h (n := n) (by omega)
      rw [V_succ, V_succ, i, put_ne (by omega)]; omega
theorem div_sum {r a q D p : Nat} : r + (a + q * p) * D = r + q * p * D + a * D := by grind
theorem div_init {f G : Nat → Nat} (hf : Ws f) {n m s L : Nat} (hm : 0 < m) (h0 : G (m - 1) ≠ 0) (hL : L + m = n + 1 ∨ (n + 1 < m ∧ L = 0)) : V f n * 2 ^ s < V G m * 2 ^ s * B ^ L := by
 obtain ⟨k, rfl⟩ : ∃ k, m = k + 1 := ⟨m - 1, by omega⟩
 rw [Nat.add_sub_cancel] at h0
 have a := V_ge h0
 have b := V_lt hf n
 have p : 0 < 2 ^ s := Nat.pow_pos (by omega)
 rw [Nat.mul_right_comm]
 refine Nat.mul_lt_mul_of_pos_right ?_ p
 rcases hL with hL | ⟨hL, rfl⟩
 · have c := Nat.mul_le_mul_right (B ^ L) a
   rw [← Nat.pow_add, show k + L = n by omega] at c
   omega
 · rw [Nat.pow_zero, Nat.mul_one]
   have c : B ^ n ≤ B ^ k := Nat.pow_le_pow_right B_pos (by omega)
   omega
theorem div_window {Fr : Nat → Nat} {N k m D : Nat} (hD : D < B ^ m) (hk : k + m + 1 ≤ N) (h : V Fr N < D * B ^ (k + 1)) :
 V Fr N = V Fr k + V (fun i => Fr (k + i)) (m + 1) * B ^ k ∧ V (fun i => Fr (k + i)) (m + 1) < D * B ∧ V (fun i => Fr (k + i)) (N - k) = V (fun i => Fr (k + i)) (m + 1) := by
 have e1 := V_split Fr k (N - k)
 rw [show k + (N - k) = N by omega] at e1
 have e2 := V_split (fun i => Fr (k + i)) (m + 1) (N - k - (m + 1))
 rw [show m + 1 + (N - k - (m + 1)) = N - k by omega] at e2
 have a : V (fun i => Fr (k + i)) (N - k) < D * B := by
  have x : V (fun i => Fr (k + i)) (N - k) * B ^ k < D * B * B ^ k := by
   rw [Nat.pow_succ, Nat.mul_comm (B ^ k), ← Nat.mul_assoc] at h
   omega
  exact Nat.lt_of_mul_lt_mul_right x
 have b : D * B < B ^ (m + 1) := by rw [Nat.pow_succ]; exact Nat.mul_lt_mul_of_pos_right hD B_pos
 have z : V (fun i => Fr (k + (m + 1 + i))) (N - k - (m + 1)) = 0 := by
  rcases Nat.eq_zero_or_pos (V (fun i => Fr (k + (m + 1 + i))) (N - k - (m + 1))) with q | q
  · exact q
  · exfalso
    have r := Nat.mul_le_mul_right (B ^ (m + 1)) q
    rw [Nat.succ_mul, Nat.zero_mul, Nat.zero_add] at r
    omega
 rw [z, Nat.zero_mul, Nat.add_zero] at e2
 rw [e2] at a e1
 exact ⟨e1, a, e2⟩
theorem div_gen {v q D P r p T : Nat} (e : T = v + P * p) (h : r + q * D = P) : v + r * p + q * p * D = T := by
 rw [e, ← h]; grind
theorem div_after {Fr F' : Nat → Nat} (hF : Ws Fr) {N k m D q : Nat} (hD : 0 < D) (hk : k + m + 1 ≤ N) (h1 : V Fr N = V Fr k + V (fun i => Fr (k + i)) (m + 1) * B ^ k) (h2 : V (fun i => Fr (k + i)) (N - k) = V (fun i => Fr (k + i)) (m + 1))
 (hq : q = V (fun i => Fr (k + i)) (m + 1) / D) (h3 : V (fun i => F' (k + i)) (m + 1) + q * D = V (fun i => Fr (k + i)) (m + 1)) (h4 : ∀ i, i < k ∨ k + (m + 1) ≤ i → F' i = Fr i) :
 V F' N + q * B ^ k * D = V Fr N ∧ V F' N < D * B ^ k := by
 have a := V_tail (f := fun i => F' (k + i)) (g := fun i => Fr (k + i)) (k := m + 1) (n := N - k) (a := q * D) (b := 0) (by omega) h3 (fun i x y => h4 (k + i) (Or.inr (by omega)))
 rw [Nat.add_zero, h2] at a
 have e1 := V_split F' k (N - k)
 rw [show k + (N - k) = N by omega, V_congr (f := F') (g := Fr) (n := k) (fun i hi => h4 i (Or.inl hi))] at e1
 have r : V (fun i => F' (k + i)) (N - k) = V (fun i => Fr (k + i)) (m + 1) % D := by
  have x := Nat.div_add_mod (V (fun i => Fr (k + i)) (m + 1)) D
  rw [← hq, Nat.mul_comm] at x
  omega
 have s := Nat.mod_lt (V (fun i => Fr (k + i)) (m + 1)) hD
 rw [← r] at s
 constructor
 · rw [e1]; exact div_gen h1 a
 · have l := V_lt hF k
   have y := Nat.mul_le_mul_right (B ^ k) s
   rw [Nat.succ_mul] at y
   rw [e1]
   omega
theorem div_end {A D Q r a b s : Nat} (hA : A = a * 2 ^ s) (hD : D = b * 2 ^ s) (h : r + Q * D = A) (hr : r < D) : Q = a / b ∧ r / 2 ^ s = a % b := by
 have p : 0 < 2 ^ s := Nat.pow_pos (by omega)
 have hD0 : 0 < D := by omega
 have x := (Nat.div_mod_unique hD0 (a := A) (c := r) (d := Q)).mpr ⟨by rw [Nat.mul_comm D Q]; exact h, hr⟩
 rw [hA, hD, Nat.mul_div_mul_right _ _ p, Nat.mul_mod_mul_right] at x
 exact ⟨x.1.symm, by rw [← x.2, Nat.mul_div_cancel _ p]⟩
theorem shiftDown_none {w : World} {ao : Option Addr} {c s : Nat} (hs : s < 64) :
 Calls Tryz.prog 135 #[.slice ao 0 c, .int .i64 (s : Int)] w fun e w' => e = .returned (.tuple #[.slice none 0 0, .bool false]) ∧ w' = w := by
 have e1 : (s : Int) / 64 = 0 := by omega
 go_enter Tryz.func135, Tryz.ntmps135
 go_wp2
 refine bodyPost_ret (v := .tuple #[.slice none 0 0, .bool false]) (by simp [results, Tryz.results135, go_sem]) rfl ⟨rfl, rfl⟩
theorem divide_any {w : World} (hT : Tab w) {ao : Option Addr} {n ca ba oa : Nat} {f : Nat → Nat} (S : Sl w ao n ca ba oa f) (hn : n ≤ 128) {bo : Option Addr} {m cb bb ob : Nat} {G : Nat → Nat} (S' : Sl w bo m cb bb ob G) (hm : m ≤ 128) (hm0 : 0 < m) (h0 : G (m - 1) ≠ 0) :
    Calls Tryz.prog 134 #[.slice ao n ca, .slice bo m cb] w fun e w' => ∃ v1 v2, e = .returned (.tuple #[v1, v2]) ∧ NatV w' v1 (V f n / V G m) ∧ NatV w' v2 (V f n % V G m) ∧ Below w.heap.size w w' := by
  obtain ⟨s, es, hs, hx⟩ := lead_nat h0 (S'.ws (m - 1))
  obtain rfl := S'.addr hm0
  have cb0 := S'.cell (m - 1) (by omega)
  have L1 := lead64_any ((G (m - 1) : Nat) : Int) ⟨by omega, by have := S'.ws (m - 1); unfold B at this; omega⟩ w
  rw [es] at L1
  have U1 := shiftUp_any S' (by omega) s 0 s (by omega) hs (by omega)
  rw [Nat.zero_add] at U1
  have HS : Hid (Sl w ao n ca ba oa f) := S
  have HS' : Hid (Sl w (some ⟨bb, ob, none⟩) m cb bb ob G) := S'
  clear S S' es
  go_enter Tryz.func134, Tryz.ntmps134
  go_wp2_with fail
  refine L1.mono ?_
  rintro e w0 ⟨rfl, rfl⟩
  go_wp2_with fail
  refine U1.mono ?_
  rintro e w1 ⟨rfl, hb1, Fd, Rd, hvd⟩
  have hld := div_len HS'.out.ws Rd.ws hm0 hs h0 hx hvd
  have T1 := trim_any (row_sl0 Rd (by unfold maxLen; omega))
  rw [hld] at T1
  have U2 := shiftUp_any (HS.out.below hb1) (by omega) s 0 s (by omega) hs (by omega)
  rw [Nat.zero_add] at U2
  go_wp2_with fail
  refine T1.mono ?_
  rintro e w1' ⟨rfl, rfl⟩
  go_wp2_with fail
  refine U2.mono ?_
  rintro e w2 ⟨rfl, hb2, Fr, Rr, hvr⟩
  have Rd2 := Rd.below hb2
  have hB2 : Below w0.heap.size w0 w2 := hb1.trans (hb2.mono hb1.size)
  have hgd : w0.heap.size < w1'.heap.size := Rd.row.lt
  have hg1 := Rd2.row.lt
  have hsz1 := hb1.size
  have hg2 := Rr.row.lt
  clear Rd T1 U1 U2 L1 cb0
  obtain ⟨L, hL⟩ : ∃ L, L + m = n + 1 ∨ (n + 1 < m ∧ L = 0) := by
    rcases Nat.lt_or_ge (n + 1) m with q | q
    · exact ⟨0, Or.inr ⟨q, rfl⟩⟩
    · exact ⟨n + 1 - m, Or.inl (by omega)⟩
  have hLs : L ≤ 129 := by omega
  have hDlt : V Fd (m + 1) < B ^ m := by
    have q := tl_V Fd (m + 1)
    rw [hld] at q
    rw [← q]; exact V_lt Rd2.ws m
  have hini := div_init (s := s) HS.out.ws hm0 h0 hL
  rw [← hvd, ← hvr] at hini
  have hDpos : 0 < V Fd (m + 1) := by
    rcases Nat.eq_zero_or_pos (V Fd (m + 1)) with q | q
    · rw [q, Nat.zero_mul] at hini; omega
    · exact q
  have hdt : Fd (m - 1) ≠ 0 := by
    have q := tl_top Fd (m + 1)
    rw [hld] at q
    exact q.resolve_left (by omega)
  have HI : Hid (V Fr (n + 1) < V Fd (m + 1) * B ^ L ∧ V Fd (m + 1) < B ^ m ∧ 0 < V Fd (m + 1) ∧ Fd (m - 1) ≠ 0 ∧ V Fd (m + 1) = V G m * 2 ^ s ∧ V Fr (n + 1) = V f n * 2 ^ s ∧ tl Fd (m + 1) = m) := ⟨hini, hDlt, hDpos, hdt, hvd, hvr, hld⟩
  clear hini hDlt hDpos hdt hvd hvr hld h0 hx
  have hmp := run_make_row' (P := Tryz.prog) 102 22 (.int .u64 0) 8 und_nat info_u64 rfl .i64 .i64 (m + 1) (by omega) (by omega)
  simp only [Int.natCast_add, Int.natCast_one] at hmp
  have hmq0 := run_make_row' (P := Tryz.prog) 102 22 (.int .u64 0) 8 und_nat info_u64 rfl .i64 .i64 L (by omega) (by omega)
  have HLL : Hid (L + m = n + 1 ∨ (n + 1 < m ∧ L = 0)) := hL
  clear hL
  rcases Nat.lt_or_ge m (n + 1) with hL | hL
  · have hmq : ∀ W : World, (Instr.makeSlice 102 (.int .i64 ((n : Int) + 1 - (m : Int))) (.int .i64 ((n : Int) + 1 - (m : Int)))).run Tryz.prog W = .ok (.slice (some ⟨W.heap.size, 0, none⟩) L L) (W.alloc (.cells (madeCells #[.int .u64 0] L) 22)) := by
      intro W
      have q := hmq0 W
      rw [show (L : Int) = (n : Int) + 1 - (m : Int) by have := HLL.out; omega] at q
      exact q
    have hpos : (0 : Int) < (n : Int) + 1 - (m : Int) := by omega
    clear hmq0
    have eD : V Fd (m + 1) = V Fd m := by
      have q := tl_V Fd (m + 1)
      rw [HI.out.2.2.2.2.2.2] at q
      exact q.symm
    have HE : Hid (V Fd (m + 1) = V Fd m) := eD
    clear eD
    go_wp2
    clear hmq hmp
    go_loopw [11] (fun i wr => ∃ (k : Nat) (Fr' Fq Fp : Nat → Nat), i = .int .i64 ((k : Int) - 1) ∧ k ≤ L ∧ Row wr w0.heap.size (m + 1) Fd ∧ Row wr w1'.heap.size (n + 1) Fr' ∧ Row wr w2.heap.size L Fq ∧ Row wr (w2.heap.size + 1) (m + 1) Fp ∧ Below w0.heap.size w0 wr ∧ (∀ j, j < k → Fq j = 0) ∧ V Fr' (n + 1) + V Fq L * V Fd m = V f n * 2 ^ s ∧ V Fr' (n + 1) < V Fd m * B ^ k) (fun i _ => (intOf i + 1).toNat)
    case atStart =>
      refine ⟨L, Fr, fun _ => 0, fun _ => 0, rfl, Nat.le_refl _, (Rd2.alloc _).alloc _, (Rr.alloc _).alloc _, (made_row w2 L).alloc _, ?_, ((hB2.alloc (by omega) _).alloc (by simp; omega) _), fun _ _ => rfl, ?_, ?_⟩
      · have q := made_row (w2.alloc (.cells (madeCells #[.int .u64 0] L) 22)) (m + 1)
        rw [World.size_alloc] at q
        exact q
      · rw [V_nought, Nat.zero_mul, Nat.add_zero]; exact HI.out.2.2.2.2.2.1
      · rw [← HE.out]; exact HI.out.1
    case round =>
      obtain ⟨k, Fr', Fq, Fp, rfl, hk, Rd3, Rr3, Rq3, Rp3, hbl, hz, hsum, hlt⟩ := hrel
      have HR : Hid (Row wr w0.heap.size (m + 1) Fd ∧ Row wr w1'.heap.size (n + 1) Fr' ∧ Row wr w2.heap.size L Fq ∧ Row wr (w2.heap.size + 1) (m + 1) Fp ∧ Below w0.heap.size w0 wr) := ⟨Rd3, Rr3, Rq3, Rp3, hbl⟩
      have HV : Hid ((∀ j, j < k → Fq j = 0) ∧ V Fr' (n + 1) + V Fq L * V Fd m = V f n * 2 ^ s ∧ V Fr' (n + 1) < V Fd m * B ^ k) := ⟨hz, hsum, hlt⟩
      clear hz hsum hlt
      by_cases c1 : 0 < k
      · obtain ⟨i, rfl⟩ : ∃ i, k = i + 1 := ⟨k - 1, by omega⟩
        have hiL : i < L := by omega
        have hiN : i + m + 1 ≤ n + 1 := by have := HLL.out; omega
        have hDm : V Fd m < B ^ m := by rw [← HE.out]; exact HI.out.2.1
        have hDp : 0 < V Fd m := by rw [← HE.out]; exact HI.out.2.2.1
        obtain ⟨x1, x2, x3⟩ := div_window (m := m) hDm hiN HV.out.2.2
        have SP := Rr3.sl (o := i) (n := m + 1) (c := n + 1 - i) (by omega) (by omega) (by unfold maxLen; omega)
        have SD : Sl wr (some ⟨w0.heap.size, 0, none⟩) m m w0.heap.size 0 Fd := by
          have q := Rd3.sl (o := 0) (n := m) (c := m) (by omega) (Nat.le_refl _) (by unfold maxLen; omega)
          rw [show (fun i => Fd (0 + i)) = Fd from funext fun i => by rw [Nat.zero_add]] at q
          exact q
        have Q1 := quotientWord_any (t := m - 1) (n := m) (m := m + 1) (by omega) rfl SP SD HI.out.2.2.2.1 (by omega) Rp3 (by omega) (by omega) x2
        have HX : Hid (V Fr' (n + 1) = V Fr' i + V (fun j => Fr' (i + j)) (m + 1) * B ^ i ∧ V (fun j => Fr' (i + j)) (n + 1 - i) = V (fun j => Fr' (i + j)) (m + 1) ∧ 0 < V Fd m) := ⟨x1, x3, hDp⟩
        have qlt : V (fun j => Fr' (i + j)) (m + 1) / V Fd m < B := by rw [Nat.div_lt_iff_lt_mul hDp, Nat.mul_comm]; exact x2
        have HQL : Hid (V (fun j => Fr' (i + j)) (m + 1) / V Fd m < B) := qlt
        clear x1 x2 x3 SP SD hDm hDp Rd3 Rr3 Rq3 Rp3 hbl qlt
        obtain ⟨q, hq⟩ : ∃ q, V (fun j => Fr' (i + j)) (m + 1) / V Fd m = q := ⟨_, rfl⟩
        have HQ : Hid (q = V (fun j => Fr' (i + j)) (m + 1) / V Fd m) := hq.symm
        rw [hq] at Q1
        have HQB : Hid (q < B) := by rw [← hq]; exact HQL.out
        clear hq HQL
        rw [show ((i + 1 : Nat) : Int) - 1 = (i : Int) by omega]
        go_wp2_with fail
        refine Q1.mono ?_
        rintro e w5 ⟨rfl, hg5, F5, R5, hv5⟩
        have Rq5 := HR.out.2.2.1.kept hg5 (by omega)
        have cz := Rq5.row.cell hiL
        have fz := Rq5.row.frozen i
        have Rr6 := (HR.out.2.1.kept hg5 (by omega)).setOther (a := ⟨w2.heap.size, i, none⟩) (Nat.ne_of_lt hg2) (.int .u64 (q : Int))
        have Rp6 := R5.setOther (a := ⟨w2.heap.size, i, none⟩) (Nat.succ_ne_self _) (.int .u64 (q : Int))
        have Rd6 := (HR.out.1.kept hg5 (by omega)).setOther (a := ⟨w2.heap.size, i, none⟩) (by show w0.heap.size ≠ w2.heap.size; omega) (.int .u64 (q : Int))
        have Rq6 := Rq5.set i HQB.out
        have hqle : V F5 (m + 1) ≤ V (fun j => Fr' (i + j)) (m + 1) := by rw [hv5, HQ.out]; exact Nat.div_mul_le_self _ _
        have DD := decrease_any (o := i) (n := m + 1) (c := n + 1 - i) Rr6 (by omega) (by omega) (by unfold maxLen; omega) (row_sl0 Rp6 (by unfold maxLen; omega)) (fun _ => by omega) (Nat.le_refl _) hqle
        have hb6 : Below w0.heap.size w0 (w5.setCell ⟨w2.heap.size, i, none⟩ (.int .u64 (q : Int))) := (below_grown HR.out.2.2.2.2 hg5 (by omega)).setCell (by show w0.heap.size ≤ w2.heap.size; omega) _
        have H6 : Hid (Row (w5.setCell ⟨w2.heap.size, i, none⟩ (.int .u64 (q : Int))) w0.heap.size (m + 1) Fd ∧ Row (w5.setCell ⟨w2.heap.size, i, none⟩ (.int .u64 (q : Int))) w2.heap.size L (put Fq i q) ∧ Row (w5.setCell ⟨w2.heap.size, i, none⟩ (.int .u64 (q : Int))) (w2.heap.size + 1) (m + 1) F5 ∧ Below w0.heap.size w0 (w5.setCell ⟨w2.heap.size, i, none⟩ (.int .u64 (q : Int))) ∧ V F5 (m + 1) = q * V Fd m) := ⟨Rd6, Rq6, Rp6, hb6, hv5⟩
        clear Rd6 Rq6 Rp6 hb6 Rr6 Rq5 hqle hv5 R5 hg5 Q1
        go_wp2_with fail
        refine DD.mono ?_
        rintro e w7 ⟨rfl, hg7, F7, R7, hf7, hv7⟩
        have H7 : Hid (Row w7 w0.heap.size (m + 1) Fd ∧ Row w7 w1'.heap.size (n + 1) F7 ∧ Row w7 w2.heap.size L (put Fq i q) ∧ Row w7 (w2.heap.size + 1) (m + 1) F5 ∧ Below w0.heap.size w0 w7) := ⟨H6.out.1.kept hg7 (by omega), R7, H6.out.2.1.kept hg7 (by omega), H6.out.2.2.1.kept hg7 (by omega), below_grown H6.out.2.2.2.1 hg7 (by omega)⟩
        rw [H6.out.2.2.2.2] at hv7
        have da := div_after (HR.out.2.1.ws) HX.out.2.2 (by omega) HX.out.1 HX.out.2.1 HQ.out hv7 hf7
        have HDA : Hid (V F7 (n + 1) + q * B ^ i * V Fd m = V Fr' (n + 1) ∧ V F7 (n + 1) < V Fd m * B ^ i) := da
        clear da hv7 hf7 R7 hg7 DD cz fz
        go_wp2
        go_roundw
        case rel =>
          refine ⟨i, F7, put Fq i q, F5, by go_num, by omega, H7.out.1, H7.out.2.1, H7.out.2.2.1, H7.out.2.2.2.1, H7.out.2.2.2.2, fun j hj => ?_, ?_, HDA.out.2⟩
          · rw [put_ne (by omega)]; exact HV.out.1 j (by omega)
          · have e1 : V (put Fq i q) L = V Fq L + q * B ^ i := V_put_add (HV.out.1 i (by omega)) hiL
            rw [e1, ← HV.out.2.1, ← HDA.out.1]
            exact div_sum
        case measure => first | (simp [intOf]; done) | (simp [intOf]; omega)
      · obtain rfl : k = 0 := by omega
        clear Rd3 Rr3 Rq3 Rp3 hbl c1
        have hlt := HV.out.2.2
        rw [Nat.pow_zero, Nat.mul_one] at hlt
        obtain ⟨y1, y2⟩ := div_end (Q := V Fq L) (r := V Fr' (n + 1)) (a := V f n) (b := V G m) (s := s) rfl (by rw [← HE.out]; exact HI.out.2.2.2.2.1) HV.out.2.1 hlt
        have hX1 : V f n / V G m < B ^ 128 := Nat.lt_of_le_of_lt (Nat.div_le_self _ _) (Nat.lt_of_lt_of_le (V_lt HS.out.ws n) (Nat.pow_le_pow_right B_pos hn))
        have hX2 : V f n % V G m < B ^ 128 := Nat.lt_of_le_of_lt (Nat.mod_le _ _) (Nat.lt_of_lt_of_le (V_lt HS.out.ws n) (Nat.pow_le_pow_right B_pos hn))
        obtain ⟨nq, hlq⟩ := natv_tl HR.out.2.2.1 (by unfold maxLen; omega) y1 hX1
        have T3 := trim_any (row_sl0 HR.out.2.1 (by unfold maxLen; omega))
        have tv := tl_V Fr' (n + 1)
        have tle := tl_le Fr' (n + 1)
        have hbw := HR.out.2.2.2.2
        clear hlt hX1
        go_wp2_with fail
        refine T3.mono ?_
        rintro e w8 ⟨rfl, rfl⟩
        by_cases hz0 : tl Fr' (n + 1) = 0
        · have hv0 : V Fr' (n + 1) = 0 := by rw [← tv, hz0]; rfl
          rw [hv0, Nat.zero_div] at y2
          rw [hz0]
          have SN := shiftDown_none (w := w8) (ao := some ⟨w1'.heap.size, 0, none⟩) (c := 0) hs
          have TQ := trim_any (row_sl0 HR.out.2.2.1 (by unfold maxLen; omega))
          have TN := trim_any (w := w8) (ao := none) (n := 0) (c := 0) (b := 0) (o := 0) (f := fun _ => 0) ⟨Nat.le_refl _, Nat.zero_le _, fun h => absurd h (by omega), fun h => absurd h (by omega), fun i h => absurd h (by omega), fun _ => B_pos⟩
          have nz : NatV w8 (.slice none 0 0) (V f n % V G m) := ⟨none, 0, 0, 0, 0, fun _ => 0, rfl, ⟨Nat.le_refl _, Nat.zero_le _, fun h => absurd h (by omega), fun h => absurd h (by omega), fun i h => absurd h (by omega), fun _ => B_pos⟩, Or.inl rfl, y2, by omega⟩
          rw [show tl (fun _ => 0) 0 = 0 from rfl] at TN
          have HF : Hid (NatV w8 (.slice (some ⟨w2.heap.size, 0, none⟩) (tl Fq L) (tl Fq L)) (V f n / V G m) ∧ NatV w8 (.slice none 0 0) (V f n % V G m) ∧ Below w0.heap.size w0 w8) := ⟨nq, nz, hbw⟩
          clear nq nz y1 y2 hX2 hbw tv hv0 T3
          generalize tl Fq L = tq at *
          go_wp2_with (first
            | (go_at_call 135; refine SN.mono ?_; rintro e w9 ⟨rfl, rfl⟩)
            | (go_at_call_of 95 (Value.slice (none : Option Addr) 0 0); refine TN.mono ?_; rintro e wA ⟨rfl, rfl⟩)
            | (go_at_call 95; refine TQ.mono ?_; rintro e wB ⟨rfl, rfl⟩))
          refine bodyPost_ret (v := .tuple #[.slice (some ⟨w2.heap.size, 0, none⟩) tq tq, .slice none 0 0]) (by simp [results, Tryz.results134, go_sem]) rfl ⟨_, _, rfl, HF.out.1, HF.out.2.1, HF.out.2.2⟩
        · have SF : Sl w8 (some ⟨w1'.heap.size, 0, none⟩) (tl Fr' (n + 1)) (tl Fr' (n + 1)) w1'.heap.size 0 Fr' := by
            have q := HR.out.2.1.sl (o := 0) (n := tl Fr' (n + 1)) (c := tl Fr' (n + 1)) (by omega) (Nat.le_refl _) (by unfold maxLen; omega)
            rw [show (fun i => Fr' (0 + i)) = Fr' from funext fun i => by rw [Nat.zero_add]] at q
            exact q
          have hne : V Fr' (tl Fr' (n + 1)) ≠ 0 := by
            have q := Top_ge (tl_top Fr' (n + 1)) (by omega)
            have := Bp_pos (tl Fr' (n + 1) - 1)
            omega
          have SN := shiftDown_any (hT.next hbw) SF (by omega) s 0 s (by omega) hs (by omega) hne
          rw [tv, Nat.sub_zero, y2] at SN
          have TQ := trim_any (row_sl0 HR.out.2.2.1 (by unfold maxLen; omega))
          have HF : Hid (NatV w8 (.slice (some ⟨w2.heap.size, 0, none⟩) (tl Fq L) (tl Fq L)) (V f n / V G m) ∧ Row w8 w2.heap.size L Fq ∧ Below w0.heap.size w0 w8) := ⟨nq, HR.out.2.2.1, hbw⟩
          have HM : Hid (V f n % V G m < B ^ 128) := hX2
          have hln : tl Fr' (n + 1) ≤ 129 := by omega
          clear nq y1 y2 hX2 hbw tv SF hne tle T3
          generalize tl Fr' (n + 1) = tr at *
          generalize hb0 : decide (V Fr' (n + 1) % 2 ^ s ≠ 0) = bb0 at *
          clear hb0
          go_wp2_with fail
          refine SN.mono ?_
          rintro e w9 ⟨rfl, hb9, F9, R9, hv9⟩
          have TQ9 := trim_any (row_sl0 (HF.out.2.1.below hb9) (by unfold maxLen; omega))
          have TR9 := trim_any (row_sl0 R9 (by unfold maxLen; omega))
          obtain ⟨nr, hlr⟩ := natv_tl R9 (by unfold maxLen; omega) hv9 HM.out
          have HG : Hid (NatV w9 (.slice (some ⟨w2.heap.size, 0, none⟩) (tl Fq L) (tl Fq L)) (V f n / V G m) ∧ NatV w9 (.slice (some ⟨w8.heap.size, 0, none⟩) (tl F9 tr) (tl F9 tr)) (V f n % V G m) ∧ Below w0.heap.size w0 w9) := ⟨HF.out.1.below hb9, nr, HF.out.2.2.trans (hb9.mono HF.out.2.2.size)⟩
          clear TQ SN hv9 R9 nr hlr hlq
          generalize tl Fq L = tq at *
          generalize tl F9 tr = tr9 at *
          go_wp2_with fail
          refine TQ9.mono ?_
          rintro e wA ⟨rfl, rfl⟩
          go_wp2_with fail
          refine TR9.mono ?_
          rintro e wB ⟨rfl, rfl⟩
          go_wp2
          refine bodyPost_ret (v := .tuple #[.slice (some ⟨w2.heap.size, 0, none⟩) tq tq, .slice (some ⟨w8.heap.size, 0, none⟩) tr9 tr9]) (by simp [results, Tryz.results134, go_sem]) rfl ⟨_, _, rfl, HG.out.1, HG.out.2.1, HG.out.2.2⟩
  · have hmq : ∀ W : World, (Instr.makeSlice 102 (.int .i64 0) (.int .i64 0)).run Tryz.prog W = .ok (.slice (some ⟨W.heap.size, 0, none⟩) L L) (W.alloc (.cells (madeCells #[.int .u64 0] L) 22)) := by
      intro W
      have q := hmq0 W
      rw [show (L : Int) = 0 by have := HLL.out; omega] at q
      exact q
    have hpos : (n : Int) + 1 - (m : Int) ≤ 0 := by omega
    clear hmq0
    have eD : V Fd (m + 1) = V Fd m := by
      have q := tl_V Fd (m + 1)
      rw [HI.out.2.2.2.2.2.2] at q
      exact q.symm
    have HE : Hid (V Fd (m + 1) = V Fd m) := eD
    clear eD
    go_wp2
    clear hmq hmp
    go_loopw [11] (fun i wr => ∃ (k : Nat) (Fr' Fq Fp : Nat → Nat), i = .int .i64 ((k : Int) - 1) ∧ k ≤ L ∧ Row wr w0.heap.size (m + 1) Fd ∧ Row wr w1'.heap.size (n + 1) Fr' ∧ Row wr w2.heap.size L Fq ∧ Row wr (w2.heap.size + 1) (m + 1) Fp ∧ Below w0.heap.size w0 wr ∧ (∀ j, j < k → Fq j = 0) ∧ V Fr' (n + 1) + V Fq L * V Fd m = V f n * 2 ^ s ∧ V Fr' (n + 1) < V Fd m * B ^ k) (fun i _ => (intOf i + 1).toNat)
    case atStart =>
      refine ⟨L, Fr, fun _ => 0, fun _ => 0, rfl, Nat.le_refl _, (Rd2.alloc _).alloc _, (Rr.alloc _).alloc _, (made_row w2 L).alloc _, ?_, ((hB2.alloc (by omega) _).alloc (by simp; omega) _), fun _ _ => rfl, ?_, ?_⟩
      · have q := made_row (w2.alloc (.cells (madeCells #[.int .u64 0] L) 22)) (m + 1)
        rw [World.size_alloc] at q
        exact q
      · rw [V_nought, Nat.zero_mul, Nat.add_zero]; exact HI.out.2.2.2.2.2.1
      · rw [← HE.out]; exact HI.out.1
    case round =>
      obtain ⟨k, Fr', Fq, Fp, rfl, hk, Rd3, Rr3, Rq3, Rp3, hbl, hz, hsum, hlt⟩ := hrel
      have HR : Hid (Row wr w0.heap.size (m + 1) Fd ∧ Row wr w1'.heap.size (n + 1) Fr' ∧ Row wr w2.heap.size L Fq ∧ Row wr (w2.heap.size + 1) (m + 1) Fp ∧ Below w0.heap.size w0 wr) := ⟨Rd3, Rr3, Rq3, Rp3, hbl⟩
      have HV : Hid ((∀ j, j < k → Fq j = 0) ∧ V Fr' (n + 1) + V Fq L * V Fd m = V f n * 2 ^ s ∧ V Fr' (n + 1) < V Fd m * B ^ k) := ⟨hz, hsum, hlt⟩
      clear hz hsum hlt
      by_cases c1 : 0 < k
      · exfalso
        have := HLL.out
        omega
      · obtain rfl : k = 0 := by omega
        clear Rd3 Rr3 Rq3 Rp3 hbl c1
        have hlt := HV.out.2.2
        rw [Nat.pow_zero, Nat.mul_one] at hlt
        obtain ⟨y1, y2⟩ := div_end (Q := V Fq L) (r := V Fr' (n + 1)) (a := V f n) (b := V G m) (s := s) rfl (by rw [← HE.out]; exact HI.out.2.2.2.2.1) HV.out.2.1 hlt
        have hX1 : V f n / V G m < B ^ 128 := Nat.lt_of_le_of_lt (Nat.div_le_self _ _) (Nat.lt_of_lt_of_le (V_lt HS.out.ws n) (Nat.pow_le_pow_right B_pos hn))
        have hX2 : V f n % V G m < B ^ 128 := Nat.lt_of_le_of_lt (Nat.mod_le _ _) (Nat.lt_of_lt_of_le (V_lt HS.out.ws n) (Nat.pow_le_pow_right B_pos hn))
        obtain ⟨nq, hlq⟩ := natv_tl HR.out.2.2.1 (by unfold maxLen; omega) y1 hX1
        have T3 := trim_any (row_sl0 HR.out.2.1 (by unfold maxLen; omega))
        have tv := tl_V Fr' (n + 1)
        have tle := tl_le Fr' (n + 1)
        have hbw := HR.out.2.2.2.2
        clear hlt hX1
        go_wp2_with fail
        refine T3.mono ?_
        rintro e w8 ⟨rfl, rfl⟩
        by_cases hz0 : tl Fr' (n + 1) = 0
        · have hv0 : V Fr' (n + 1) = 0 := by rw [← tv, hz0]; rfl
          rw [hv0, Nat.zero_div] at y2
          rw [hz0]
          have SN := shiftDown_none (w := w8) (ao := some ⟨w1'.heap.size, 0, none⟩) (c := 0) hs
          have TQ := trim_any (row_sl0 HR.out.2.2.1 (by unfold maxLen; omega))
          have TN := trim_any (w := w8) (ao := none) (n := 0) (c := 0) (b := 0) (o := 0) (f := fun _ => 0) ⟨Nat.le_refl _, Nat.zero_le _, fun h => absurd h (by omega), fun h => absurd h (by omega), fun i h => absurd h (by omega), fun _ => B_pos⟩
          have nz : NatV w8 (.slice none 0 0) (V f n % V G m) := ⟨none, 0, 0, 0, 0, fun _ => 0, rfl, ⟨Nat.le_refl _, Nat.zero_le _, fun h => absurd h (by omega), fun h => absurd h (by omega), fun i h => absurd h (by omega), fun _ => B_pos⟩, Or.inl rfl, y2, by omega⟩
          rw [show tl (fun _ => 0) 0 = 0 from rfl] at TN
          have HF : Hid (NatV w8 (.slice (some ⟨w2.heap.size, 0, none⟩) (tl Fq L) (tl Fq L)) (V f n / V G m) ∧ NatV w8 (.slice none 0 0) (V f n % V G m) ∧ Below w0.heap.size w0 w8) := ⟨nq, nz, hbw⟩
          clear nq nz y1 y2 hX2 hbw tv hv0 T3
          generalize tl Fq L = tq at *
          go_wp2_with (first
            | (go_at_call 135; refine SN.mono ?_; rintro e w9 ⟨rfl, rfl⟩)
            | (go_at_call_of 95 (Value.slice (none : Option Addr) 0 0); refine TN.mono ?_; rintro e wA ⟨rfl, rfl⟩)
            | (go_at_call 95; refine TQ.mono ?_; rintro e wB ⟨rfl, rfl⟩))
          refine bodyPost_ret (v := .tuple #[.slice (some ⟨w2.heap.size, 0, none⟩) tq tq, .slice none 0 0]) (by simp [results, Tryz.results134, go_sem]) rfl ⟨_, _, rfl, HF.out.1, HF.out.2.1, HF.out.2.2⟩
        · have SF : Sl w8 (some ⟨w1'.heap.size, 0, none⟩) (tl Fr' (n + 1)) (tl Fr' (n + 1)) w1'.heap.size 0 Fr' := by
            have q := HR.out.2.1.sl (o := 0) (n := tl Fr' (n + 1)) (c := tl Fr' (n + 1)) (by omega) (Nat.le_refl _) (by unfold maxLen; omega)
            rw [show (fun i => Fr' (0 + i)) = Fr' from funext fun i => by rw [Nat.zero_add]] at q
            exact q
          have hne : V Fr' (tl Fr' (n + 1)) ≠ 0 := by
            have q := Top_ge (tl_top Fr' (n + 1)) (by omega)
            have := Bp_pos (tl Fr' (n + 1) - 1)
            omega
          have SN := shiftDown_any (hT.next hbw) SF (by omega) s 0 s (by omega) hs (by omega) hne
          rw [tv, Nat.sub_zero, y2] at SN
          have TQ := trim_any (row_sl0 HR.out.2.2.1 (by unfold maxLen; omega))
          have HF : Hid (NatV w8 (.slice (some ⟨w2.heap.size, 0, none⟩) (tl Fq L) (tl Fq L)) (V f n / V G m) ∧ Row w8 w2.heap.size L Fq ∧ Below w0.heap.size w0 w8) := ⟨nq, HR.out.2.2.1, hbw⟩
          have HM : Hid (V f n % V G m < B ^ 128) := hX2
          have hln : tl Fr' (n + 1) ≤ 129 := by omega
          clear nq y1 y2 hX2 hbw tv SF hne tle T3
          generalize tl Fr' (n + 1) = tr at *
          generalize hb0 : decide (V Fr' (n + 1) % 2 ^ s ≠ 0) = bb0 at *
          clear hb0
          go_wp2_with fail
          refine SN.mono ?_
          rintro e w9 ⟨rfl, hb9, F9, R9, hv9⟩
          have TQ9 := trim_any (row_sl0 (HF.out.2.1.below hb9) (by unfold maxLen; omega))
          have TR9 := trim_any (row_sl0 R9 (by unfold maxLen; omega))
          obtain ⟨nr, hlr⟩ := natv_tl R9 (by unfold maxLen; omega) hv9 HM.out
          have HG : Hid (NatV w9 (.slice (some ⟨w2.heap.size, 0, none⟩) (tl Fq L) (tl Fq L)) (V f n / V G m) ∧ NatV w9 (.slice (some ⟨w8.heap.size, 0, none⟩) (tl F9 tr) (tl F9 tr)) (V f n % V G m) ∧ Below w0.heap.size w0 w9) := ⟨HF.out.1.below hb9, nr, HF.out.2.2.trans (hb9.mono HF.out.2.2.size)⟩
          clear TQ SN hv9 R9 nr hlr hlq
          generalize tl Fq L = tq at *
          generalize tl F9 tr = tr9 at *
          go_wp2_with fail
          refine TQ9.mono ?_
          rintro e wA ⟨rfl, rfl⟩
          go_wp2_with fail
          refine TR9.mono ?_
          rintro e wB ⟨rfl, rfl⟩
          go_wp2
          refine bodyPost_ret (v := .tuple #[.slice (some ⟨w2.heap.size, 0, none⟩) tq tq, .slice (some ⟨w8.heap.size, 0, none⟩) tr9 tr9]) (by simp [results, Tryz.results134, go_sem]) rfl ⟨_, _, rfl, HG.out.1, HG.out.2.1, HG.out.2.2⟩
def ch (d : Nat) : Nat := if d < 10 then 48 + d else 87 + d
def chV (xs : List Nat) : List Value := xs.map fun d => Value.int .u8 ((ch d : Nat) : Int)
def lows (b x k : Nat) : List Nat := (List.range k).map fun j => x / b ^ j % b
theorem lows_succ (b x k : Nat) : lows b x (k + 1) = lows b x k ++ [x / b ^ k % b] := by unfold lows; rw [List.range_succ, List.map_append]; rfl
theorem ch_at {r : Nat} (h : r < 36) : ∀ hh, ((⟨#[48, 49, 50, 51, 52, 53, 54, 55, 56, 57, 97, 98, 99, 100, 101, 102, 103, 104, 105, 106, 107, 108, 109, 110, 111, 112, 113, 114, 115, 116, 117, 118, 119, 120, 121, 122]⟩ : ByteArray)[r]'hh).toNat = ch r := by
 have key : ∀ r : Fin 36, ((⟨#[48, 49, 50, 51, 52, 53, 54, 55, 56, 57, 97, 98, 99, 100, 101, 102, 103, 104, 105, 106, 107, 108, 109, 110, 111, 112, 113, 114, 115, 116, 117, 118, 119, 120, 121, 122]⟩ : ByteArray)[r.val]'r.isLt).toNat = ch r.val := by decide
 intro hh
 exact key ⟨r, h⟩
theorem chV_append (xs ys : List Nat) : chV (xs ++ ys) = chV xs ++ chV ys := by unfold chV; rw [List.map_append]
theorem und_text : Tryz.prog.underlying 115 = some (.slice 5) := by kernel_rfl
theorem info_u8 : (Tryz.prog.info? 5).map (fun i => (i.zero, i.size, i.bytes)) = some (some (.int .u8 0), 1, 1) := by kernel_rfl
theorem lowest_any {w : World} {base n : Nat} {tv : Value} {xs : List Nat} (ho : w.ownsRow base 5 1 tv n (chV xs)) (hb : base ≤ w.heap.size) (x : Nat) (hx : x < B) (k : Nat) (hk : k ≤ 64) (hn : n ≤ 100000) (b : Nat) (h1 : 2 ≤ b) (h2 : b ≤ 36) :
 Calls Tryz.prog 99 #[tv, .int .u64 (x : Int), .int .i64 (k : Int), .int .i64 (b : Int)] w fun e w' => ∃ v', e = .returned v' ∧ w'.ownsRow base 5 1 v' (n + k) (chV (xs ++ lows b x k)) ∧ Below base w w' := by
 obtain ⟨i0, hi, hz0, hz1, hz2⟩ := info_parts info_u8
 go_enter Tryz.func99, Tryz.ntmps99
 go_wp2
 go_loopw [0, 1, 10] (fun v y i wr => ∃ j z : Nat, y = .int .u64 (z : Int) ∧ i = .int .i64 (j : Int) ∧ Hid (z = x / b ^ j) ∧ j ≤ k ∧ z < B ∧ wr.ownsRow base 5 1 v (n + j) (chV (xs ++ lows b x j)) ∧ Below base w wr) (fun _ _ i _ => k - (intOf i).toNat)
 case atStart => exact ⟨0, x, rfl, rfl, by show x = x / b ^ 0; rw [Nat.pow_zero, Nat.div_one], Nat.zero_le _, hx, by rw [show lows b x 0 = [] from rfl, List.append_nil]; exact ho, Below.refl _ _⟩
 case round =>
  obtain ⟨j, z, rfl, rfl, HZ, hj, hzB, hown, hbl⟩ := hrel
  have hsz := hbl.size
  by_cases c1 : j < k
  · have m1 : (z : Int) % (b : Int) = ((z % b : Nat) : Int) := by rw [Int.natCast_emod]
    have m2 : (z : Int) / (b : Int) = ((z / b : Nat) : Int) := by rw [Int.natCast_ediv]
    have hr : z % b < 36 := Nat.lt_of_lt_of_le (Nat.mod_lt _ (by omega)) h2
    have HQ : Hid (z / b = x / b ^ (j + 1) ∧ z % b = x / b ^ j % b ∧ z / b < B) := ⟨by rw [HZ.out, Nat.div_div_eq_div_mul, Nat.pow_succ], by rw [HZ.out], Nat.lt_of_le_of_lt (Nat.div_le_self _ _) hzB⟩
    generalize z % b = r at *
    generalize z / b = q at *
    unfold B at hzB
    have hc := ch_at hr
    obtain ⟨cr, hcr⟩ : ∃ c, ch r = c := ⟨_, rfl⟩
    rw [hcr] at hc
    have HC : Hid (ch r = cr) := hcr
    have HO : Hid (wr.ownsRow base 5 1 _ (n + j) (chV (xs ++ lows b x j)) ∧ Below base w wr) := ⟨hown, hbl⟩
    clear hcr
    go_wp2_with (first
     | (at_builtin; refine wpList_append_own _ rfl _ _ 115 rfl base 5 i0 (.int .u8 0) 1 1 und_text hi hz0 hz1 hz2 rfl (by decide) _ _ _ rfl (hown.alloc _) ⟨wr.heap.size, 0, none⟩ 1 1 [.int .u8 (cr : Int)] rfl rfl ?c1 ?c2 ?c3 ?c4 ?c5 ?_)
     | go_in)
    case c2 => rfl
    case c3 => unfold maxLen; omega
    case c4 => omega
    case c5 => omega
    intro v' w3 hown' hgrow hnil
    have hb3 : Below base w w3 := (hbl.alloc (by omega) _).grown hgrow (by rw [World.size_alloc]; omega) (fun q hq => (hown.lt q hq).1)
    have HO3 : Hid (w3.ownsRow base 5 1 v' (n + j + 1) (chV (xs ++ lows b x j) ++ [.int .u8 (cr : Int)]) ∧ Below base w w3) := ⟨hown', hb3⟩
    clear hown' hb3 hgrow hnil hown hbl
    go_wp2
    go_roundw
    case rel =>
     refine ⟨j + 1, q, by congr 1; rw [IntKind.wrap_u64]; have := HQ.out.2.2; unfold B at this; omega, by go_num, HQ.out.1, by omega, HQ.out.2.2, ?_, HO3.out.2⟩
     rw [lows_succ, ← List.append_assoc, chV_append, ← HQ.out.2.1]
     have e : chV [r] = [.int .u8 (cr : Int)] := by unfold chV; rw [List.map_cons, HC.out]; rfl
     rw [e]
     exact HO3.out.1
    case measure => simp [intOf]; omega
  · obtain rfl : j = k := by omega
    go_wp2
    go_ret
    exact ⟨_, rfl, hown, hbl⟩
theorem natv_pos {w : World} {ao : Option Addr} {n c b o : Nat} {f : Nat → Nat} (S : Sl w ao n c b o f) (h : V f n ≠ 0) : 0 < n := by
 rcases Nat.eq_zero_or_pos n with q | q
 · subst q; exact absurd rfl h
 · exact q
theorem div_ok {w : World} (hT : Tab w) {va vb : Value} {X Y : Nat} (ha : NatV w va X) (hb : NatV w vb Y) (h : Y ≠ 0) :
 Calls Tryz.prog 114 #[va, vb] w fun e w' => ∃ v1 v2, e = .returned (.tuple #[v1, v2, .nilIface]) ∧ NatV w' v1 (X / Y) ∧ NatV w' v2 (X % Y) ∧ Below w.heap.size w w' := by
 obtain ⟨ao, n, c, b, o, f, rfl, S, t, rfl, hn⟩ := ha
 obtain ⟨bo, m, cb, bb, ob, G, rfl, S', t', rfl, hm⟩ := hb
 have hm0 := natv_pos S' h
 have h1 := both_any S S'
 rw [verr2_ok hn t hm t'] at h1
 unfold errV at h1
 have hz : ((m : Int) == 0) = false := beq_eq_false_iff_ne.mpr (by omega)
 go_enter Tryz.func114, Tryz.ntmps114
 go_wp2_with fail
 refine h1.mono ?_
 rintro e wa ⟨rfl, hba⟩
 have T := divide_any (hT.next hba) (S.below hba) hn (S'.below hba) hm hm0 (t'.resolve_left (by omega))
 go_wp2_with fail
 refine T.mono ?_
 rintro e wb ⟨v1, v2, rfl, n1, n2, hbb⟩
 go_wp2
 refine bodyPost_ret (v := .tuple #[v1, v2, .nilIface]) (by simp [results, Tryz.results114, go_sem]) rfl ⟨_, _, rfl, n1, n2, hba.trans (hbb.mono hba.size)⟩
theorem nat_one {x : Nat} : V (fun i => if i = 0 then x else 0) 1 = x := by rw [V_succ, V_zero, Nat.pow_zero]; simp
theorem natv_lit {w : World} {x : Nat} (hx : x < B) (h0 : x ≠ 0) (t : TypeId) : NatV (w.alloc (.cells #[.int .u64 (x : Int)] t)) (.slice (some ⟨w.heap.size, 0, none⟩) 1 1) x := by
 refine ⟨_, 1, 1, w.heap.size, 0, fun i => if i = 0 then x else 0, rfl, ⟨Nat.le_refl _, by unfold maxLen; omega, fun _ => rfl, fun _ => by simp, fun i hi => ?_, fun i => ?_⟩, Or.inr h0, nat_one, by omega⟩
 · obtain rfl : i = 0 := by omega
   simp
 · show (if i = 0 then x else 0) < B
   split
   · exact hx
   · exact B_pos
theorem natv_nil (w : World) : NatV w (.slice none 0 0) 0 :=
 ⟨none, 0, 0, 0, 0, fun _ => 0, rfl, ⟨Nat.le_refl _, Nat.zero_le _, fun h => absurd h (by omega), fun h => absurd h (by omega), fun i h => absurd h (by omega), fun _ => B_pos⟩, Or.inl rfl, rfl, by omega⟩
theorem of_any (x : Nat) (hx : x < B) (w : World) :
 Calls Tryz.prog 53 #[.int .u64 (x : Int)] w fun e w' => ∃ v, e = .returned v ∧ NatV w' v x ∧ Below w.heap.size w w' := by
 by_cases c : x = 0
 · subst c
   go_enter Tryz.func53, Tryz.ntmps53
   go_wp2
   go_ret
   exact ⟨_, rfl, natv_nil w, Below.refl _ _⟩
 · have c' : ((x : Int) == 0) = false := beq_eq_false_iff_ne.mpr (by omega)
   go_enter Tryz.func53, Tryz.ntmps53
   go_wp2
   go_ret
   exact ⟨_, rfl, natv_lit hx c _, (Below.refl _ _).alloc (Nat.le_refl _) _⟩
theorem len_any (x : Nat) (hx : x < B) (w : World) :
 Calls Tryz.prog 89 #[.int .u64 (x : Int)] w fun e w' => e = .returned (.int .i64 (blen (x : Int))) ∧ w' = w := by
 unfold B at hx
 have T := len64_any (x : Int) ⟨by omega, by omega⟩ w
 go_enter Tryz.func89, Tryz.ntmps89
 go_wp2_with fail
 refine T.mono ?_
 rintro e wa ⟨rfl, rfl⟩
 go_wp2
 go_ret
 exact ⟨rfl, rfl⟩
theorem div64N (hi lo d : Nat) (h2 : lo < B) (h3 : d < B) (hlt : hi < d) (w : World) :
 Calls Tryz.prog 125 #[.int .u64 (hi : Int), .int .u64 (lo : Int), .int .u64 (d : Int)] w fun e w' => e = .returned (.tuple #[.int .u64 (((hi * B + lo) / d : Nat) : Int), .int .u64 (((hi * B + lo) % d : Nat) : Int)]) ∧ Below w.heap.size w w' := by
 unfold B at *
 refine (div64_any (hi : Int) (lo : Int) (d : Int) ⟨by omega, by omega⟩ ⟨by omega, by omega⟩ ⟨by omega, by omega⟩ (by omega) w).mono ?_
 rintro e w' ⟨rfl, hb⟩
 refine ⟨?_, hb⟩
 unfold dvQ dvR
 rw [Int.natCast_ediv, Int.natCast_emod, Int.natCast_add, Int.natCast_mul]
 rfl
theorem by_step {T x d : Nat} (hd : 0 < d) : (T * B + x) / d = T / d * B + (T % d * B + x) / d ∧ (T * B + x) % d = (T % d * B + x) % d := by
 have e := Nat.div_add_mod T d
 have q : T * B + x = d * (T / d * B) + (T % d * B + x) := by
  generalize T / d = a at *
  generalize T % d = b at *
  rw [← e]
  generalize B = β
  grind
 rw [q]
 exact ⟨by rw [Nat.mul_add_div hd], by rw [Nat.mul_add_mod]⟩
theorem V_top (f : Nat → Nat) (k n : Nat) (h : k < n) : V (fun i => f (k + i)) (n - k) = V (fun i => f (k + 1 + i)) (n - (k + 1)) * B + f k := by
 have e := V_split (fun i => f (k + i)) 1 (n - (k + 1))
 rw [show 1 + (n - (k + 1)) = n - k by omega, V_succ, V_zero, Nat.pow_zero, Nat.pow_one, Nat.zero_add, Nat.mul_one, Nat.add_zero] at e
 rw [e, Nat.add_comm]
 congr 2
 exact V_congr fun i _ => by show f (k + (1 + i)) = f (k + 1 + i); rw [Nat.add_assoc]
theorem divideBy_any {w : World} {g N n c : Nat} {F : Nat → Nat} (R : Row w g N F) (hn : n ≤ N) (hn2 : n ≤ 1000) (d : Nat) (hd : 0 < d) (hdB : d < B) :
 Calls Tryz.prog 100 #[.slice (some ⟨g, 0, none⟩) n c, .int .u64 (d : Int)] w fun e w' => e = .returned (.int .u64 ((V F n % d : Nat) : Int)) ∧ w.grownBy w' (some g) ∧
  ∃ F', Row w' g N F' ∧ V F' n = V F n / d := by
 have HD : Hid (0 < d ∧ d < B) := ⟨hd, hdB⟩
 clear hd hdB
 go_enter Tryz.func100, Tryz.ntmps100
 go_wp2
 go_loopw [5, 6] (fun lf i wr => ∃ (k l : Nat) (F' : Nat → Nat), lf = .int .u64 (l : Int) ∧ i = .int .i64 ((k : Int) - 1) ∧ k ≤ n ∧ Row wr g N F' ∧ w.grownBy wr (some g) ∧ (∀ i, i < k → F' i = F i) ∧ V (fun i => F' (k + i)) (n - k) = V (fun i => F (k + i)) (n - k) / d ∧ l = V (fun i => F (k + i)) (n - k) % d) (fun _ i _ => (intOf i + 1).toNat)
 case atStart => exact ⟨n, 0, F, rfl, rfl, Nat.le_refl _, R, World.grownBy.refl _ _, fun i _ => rfl, by rw [Nat.sub_self, V_zero, Nat.zero_div], by rw [Nat.sub_self, V_zero, Nat.zero_mod]⟩
 case round =>
  obtain ⟨k, l, F', rfl, rfl, hk, R', hgr, hfr, hv, hl⟩ := hrel
  have HR : Hid (Row wr g N F' ∧ w.grownBy wr (some g)) := ⟨R', hgr⟩
  have HV : Hid ((∀ i, i < k → F' i = F i) ∧ V (fun i => F' (k + i)) (n - k) = V (fun i => F (k + i)) (n - k) / d ∧ l = V (fun i => F (k + i)) (n - k) % d) := ⟨hfr, hv, hl⟩
  clear hfr hv
  by_cases c1 : 0 < k
  · obtain ⟨i, rfl⟩ : ∃ i, k = i + 1 := ⟨k - 1, by omega⟩
    have cz := R'.row.cell (i := i) (by omega)
    have fz := R'.row.frozen i
    have hld : l < d := by rw [hl]; exact Nat.mod_lt _ HD.out.1
    have T := fun W => div64N l (F' i) d (R'.ws i) HD.out.2 hld W
    have hqB : (l * B + F' i) / d < B := by
     have q := gW_lt (hi := l) (d := d) (R'.ws i)
     unfold gW at q
     rw [if_neg (by omega)] at q
     exact q
    obtain ⟨b1, b2⟩ := by_step (T := V (fun j => F (i + 1 + j)) (n - (i + 1))) (x := F i) HD.out.1
    have HB : Hid ((V (fun j => F (i + 1 + j)) (n - (i + 1)) * B + F i) / d = V (fun j => F (i + 1 + j)) (n - (i + 1)) / d * B + (l * B + F' i) / d ∧ (V (fun j => F (i + 1 + j)) (n - (i + 1)) * B + F i) % d = (l * B + F' i) % d) := by
     rw [HV.out.1 i (by omega), hl]; exact ⟨b1, b2⟩
    have HQ : Hid ((l * B + F' i) / d < B) := hqB
    clear R' hgr hl b1 b2 hqB hld
    generalize (l * B + F' i) / d = q at *
    generalize (l * B + F' i) % d = r at *
    rw [show ((i + 1 : Nat) : Int) - 1 = (i : Int) by omega]
    go_wp2_with fail
    refine (T _).mono ?_
    rintro e wa ⟨rfl, hba⟩
    have Ra := HR.out.1.below hba
    have ca := Ra.row.cell (i := i) (by omega)
    have fa := Ra.row.frozen i
    have HRa : Hid (Row wa g N F' ∧ w.grownBy wa (some g)) := ⟨Ra, grown_trans HR.out.2 ⟨hba.os, hba.tape, hba.output, hba.size, fun k hk _ => hba.block k hk⟩⟩
    clear Ra cz fz hba T
    go_wp2
    go_roundw
    case rel =>
     refine ⟨i, r, put F' i q, rfl, by go_num, by omega, HRa.out.1.set i HQ.out, grown_set HRa.out.2 _, fun j hj => ?_, ?_, ?_⟩
     · rw [put_ne (by omega)]; exact HV.out.1 j (by omega)
     · rw [V_top (put F' i q) i n (by omega), V_top F i n (by omega), put_at, V_congr (f := fun j => put F' i q (i + 1 + j)) (g := fun j => F' (i + 1 + j)) (fun j _ => put_ne (by omega)), HV.out.2.1]
       exact HB.out.1.symm
     · rw [V_top F i n (by omega)]; exact HB.out.2.symm
    case measure => first | (simp [intOf]; done) | (simp [intOf]; omega)
  · obtain rfl : k = 0 := by omega
    have e0 : ∀ f : Nat → Nat, (fun i => f (0 + i)) = f := fun f => funext fun i => by rw [Nat.zero_add]
    have h2 := HV.out.2
    rw [e0, e0, Nat.sub_zero] at h2
    have HE : Hid (V F' n = V F n / d ∧ l = V F n % d) := h2
    clear R' hgr hl h2 c1 e0
    go_wp2
    go_ret
    exact ⟨by rw [← HE.out.2]; rfl, HR.out.2, F', HR.out.1, HE.out.1⟩
theorem chunk_any (b : Nat) (h1 : 2 ≤ b) (h2 : b ≤ 36) (w : World) :
 Calls Tryz.prog 98 #[.int .i64 (b : Int)] w fun e w' => ∃ k P : Nat, e = .returned (.tuple #[.int .i64 (k : Int), .int .u64 (P : Int)]) ∧ P = b ^ k ∧ 1 ≤ k ∧ k ≤ 64 ∧ P < B ∧ w' = w := by
 go_enter Tryz.func98, Tryz.ntmps98
 go_wp2
 go_loop [4, 5] (fun c p => ∃ k P : Nat, c = .int .i64 (k : Int) ∧ p = .int .u64 (P : Int) ∧ Hid (P = b ^ k) ∧ k ≤ 64 ∧ P < B) (fun c _ => 64 - (intOf c).toNat)
 case atStart => exact ⟨0, 1, rfl, rfl, rfl, by omega, by decide⟩
 case round =>
  obtain ⟨k, P, rfl, rfl, HP, hk, hlt⟩ := hrel
  have hk64 : k < 64 := by
   rcases Nat.lt_or_ge k 64 with z | z
   · exact z
   · exfalso
     have a : 2 ^ 64 ≤ 2 ^ k := Nat.pow_le_pow_right (by omega) z
     have c : 2 ^ k ≤ b ^ k := Nat.pow_le_pow_left h1 k
     have e : B = 2 ^ 64 := rfl
     have := HP.out
     omega
  have HL : Hid (P < B) := hlt
  have hltB : P < 18446744073709551616 := hlt
  clear hlt
  by_cases c1 : (P : Int) ≤ 18446744073709551615 / (b : Int)
  · have hm : P * b < B := by
     have a : P ≤ 18446744073709551615 / b := by
      have z : (18446744073709551615 : Int) / (b : Int) = ((18446744073709551615 / b : Nat) : Int) := by rw [Int.natCast_ediv]; rfl
      rw [z] at c1
      exact Int.ofNat_le.mp c1
     have c := Nat.mul_le_mul_right b a
     have e := Nat.div_mul_le_self 18446744073709551615 b
     unfold B; omega
    have HM : Hid (P * b < B) := hm
    have wr1 : IntKind.u64.wrap ((P : Int) * (b : Int)) = ((P * b : Nat) : Int) := by
     unfold B at hm
     rw [← Int.natCast_mul, IntKind.wrap_u64]; omega
    clear hm
    obtain ⟨Q, hQ⟩ : ∃ Q, P * b = Q := ⟨_, rfl⟩
    have HQ : Hid (P * b = Q) := hQ
    rw [hQ] at wr1
    clear hQ
    go_wp2
    go_round
    case rel => exact ⟨k + 1, Q, by go_num, rfl, by show Q = b ^ (k + 1); rw [Nat.pow_succ, ← HP.out, HQ.out], by omega, by rw [← HQ.out]; exact HM.out⟩
    case measure => simp [intOf]; omega
  · have c1' : decide ((P : Int) ≤ 18446744073709551615 / (b : Int)) = false := by simpa using c1
    have hk1 : 1 ≤ k := by
     rcases Nat.eq_zero_or_pos k with z | z
     · exfalso
       apply c1
       have e1 : P = 1 := by rw [HP.out, z, Nat.pow_zero]
       rw [e1, show (18446744073709551615 : Int) / (b : Int) = ((18446744073709551615 / b : Nat) : Int) by rw [Int.natCast_ediv]; rfl]
       have : 1 ≤ 18446744073709551615 / b := (Nat.le_div_iff_mul_le (by omega)).mpr (by omega)
       omega
     · exact z
    clear c1
    go_wp2
    go_ret2
    exact ⟨k, P, rfl, HP.out, hk1, hk, HL.out, rfl⟩
theorem isBase_yes (b : Nat) (h1 : 2 ≤ b) (h2 : b ≤ 36) (w : World) :
 Calls Tryz.prog 97 #[.int .i64 (b : Int)] w fun e w' => e = .returned (.bool true) ∧ w' = w := by
 have h3 : decide ((b : Int) ≤ 36) = true := by simp; omega
 go_enter Tryz.func97, Tryz.ntmps97
 go_wp2
 go_ret
 exact ⟨rfl, rfl⟩
def rowText (b x k : Nat) : ByteArray := strOfNums ((List.range k).map fun i => ((ch (x / b ^ (k - 1 - i) % b) : Nat) : Int))
theorem lows_glue (b x k j : Nat) : lows b x k ++ lows b (x / b ^ k) j = lows b x (k + j) := by
 induction j with
 | zero => show lows b x k ++ [] = _; rw [List.append_nil]; rfl
 | succ j ih => rw [lows_succ, ← List.append_assoc, ih, show k + (j + 1) = k + j + 1 by omega, lows_succ, Nat.div_div_eq_div_mul, ← Nat.pow_add]
theorem lows_mod (b x k j : Nat) (h : j ≤ k) : lows b (x % b ^ k) j = lows b x j := by
 unfold lows
 refine List.map_congr_left fun i hi => ?_
 have hi' : i < j := by simpa using hi
 rw [show b ^ k = b ^ i * b ^ (k - i) by rw [← Nat.pow_add, show i + (k - i) = k by omega], Nat.mod_mul_right_div_self]
 refine Nat.mod_mod_of_dvd _ ?_
 rw [show k - i = k - i - 1 + 1 by omega, Nat.pow_succ]
 exact Nat.dvd_mul_left _ _
theorem first_digit {b X : Nat} (hX : X ≠ 0) : ∀ k, X < b ^ k → ∃ K, K ≤ k ∧ 1 ≤ K ∧ b ^ (K - 1) ≤ X ∧ X < b ^ K
  | 0, h => by rw [Nat.pow_zero] at h; omega
  | k + 1, h => by
    rcases Nat.lt_or_ge X (b ^ k) with c | c
    · obtain ⟨K, a, r⟩ := first_digit hX k c
      exact ⟨K, by omega, r⟩
    · exact ⟨k + 1, Nat.le_refl _, by omega, by rw [Nat.add_sub_cancel]; exact c, h⟩
theorem few {X n r k b : Nat} (hb : 2 ≤ b) (hX : X < B ^ 128) (h : X / b ^ (r * k) ≠ 0) (hn : n = r * k) : n ≤ 8192 := by
 subst hn
 rcases Nat.lt_or_ge 8192 (r * k) with c | c
 · exfalso
   apply h
   apply Nat.div_eq_of_lt
   refine Nat.lt_of_lt_of_le hX ?_
   rw [B_pow]
   have c' : 64 * 128 ≤ r * k := by omega
   generalize 64 * 128 = N at *
   exact Nat.le_trans (Nat.pow_le_pow_right (by omega) c') (Nat.pow_le_pow_left hb _)
 · exact c
theorem ch_lt {d : Nat} (h : d < 36) : ch d < 256 := by unfold ch; split <;> omega
theorem rowText_size (b x k : Nat) : (rowText b x k).size = k := by unfold rowText; rw [strOfNums_size]; simp
theorem rowText_at {b x k i : Nat} (hb : 0 < b) (h2 : b ≤ 36) : ∀ hh, ((rowText b x k)[i]'hh).toNat = ch (x / b ^ (k - 1 - i) % b) := by
 intro hh
 have e : (rowText b x k)[i]'hh = UInt8.ofNat (ch (x / b ^ (k - 1 - i) % b)) := by
  show (rowText b x k).data[i]'hh = _
  unfold rowText strOfNums
  simp
 rw [e]
 exact Nat.mod_eq_of_lt (ch_lt (Nat.lt_of_lt_of_le (Nat.mod_lt _ hb) h2))
theorem rowText_cut {b x k K : Nat} (h : K ≤ k) : (rowText b x k).extract (k - K) k = rowText b x K := by
 apply ByteArray.ext
 rw [ByteArray.data_extract]
 apply Array.ext
 · unfold rowText strOfNums
   simp
   omega
 · intro i h1 h2
   unfold rowText strOfNums
   simp
   rw [show k - 1 - (k - K + i) = K - 1 - i by omega]
theorem digit_zero {b x K j : Nat} (h : x < b ^ K) (hj : K ≤ j) (hb : 0 < b) : x / b ^ j % b = 0 := by
 rw [Nat.div_eq_of_lt (Nat.lt_of_lt_of_le h (Nat.pow_le_pow_right hb hj)), Nat.zero_mod]
theorem digit_first {b x K : Nat} (hb : 0 < b) (hK : 1 ≤ K) (h1 : b ^ (K - 1) ≤ x) (h2 : x < b ^ K) : x / b ^ (K - 1) % b ≠ 0 := by
 have p : 0 < b ^ (K - 1) := Nat.pow_pos hb
 have a : 1 ≤ x / b ^ (K - 1) := (Nat.le_div_iff_mul_le p).mpr (by omega)
 have c : x / b ^ (K - 1) < b := by
  rw [Nat.div_lt_iff_lt_mul p, Nat.mul_comm, ← Nat.pow_succ, show (K - 1).succ = K by omega]; exact h2
 rw [Nat.mod_eq_of_lt c]
 omega
theorem ch_48 {d : Nat} : ch d = 48 ↔ d = 0 := by unfold ch; split <;> omega
theorem und_byte8 : Tryz.prog.underlying 5 = some (.int .u8) := by kernel_rfl
theorem und_str9 : Tryz.prog.underlying 9 = some .string := by kernel_rfl
structure DgI (g n b X P k0 r t base : Nat) (Fr : Nat → Nat) (tx : Value) (w0 wr : World) : Prop where
 row : Row wr g n Fr
 tn : t ≤ n
 top : Top Fr t
 val : V Fr t = X / b ^ (r * k0)
 own : wr.ownsRow base 5 1 tx (r * k0) (chV (lows b X (r * k0)))
 below : Below w0.heap.size w0 wr
 size : base ≤ wr.heap.size
 small : r * k0 ≤ 8256
theorem digits_any {w : World} {va : Value} {X : Nat} (ha : NatV w va X) (hX : X ≠ 0) (b : Nat) (h1 : 2 ≤ b) (h2 : b ≤ 36) :
 Calls Tryz.prog 55 #[va, .int .i64 (b : Int)] w fun e w' => ∃ K : Nat, e = .returned (.tuple #[.string (rowText b X K), .nilIface]) ∧ 1 ≤ K ∧ b ^ (K - 1) ≤ X ∧ X < b ^ K ∧ Below w.heap.size w w' := by
 obtain ⟨ao, n, c, bb, o, f, rfl, S, t, rfl, hn⟩ := ha
 have hn0 := natv_pos S hX
 have hXB : V f n < B ^ 128 := Nat.lt_of_lt_of_le (V_lt S.ws n) (Nat.pow_le_pow_right B_pos hn)
 have V1 := valid_any S
 rw [verr_ok hn t] at V1
 unfold errV at V1
 have hz : ((n : Int) == 0) = false := beq_eq_false_iff_ne.mpr (by omega)
 have IB := isBase_yes b h1 h2
 have CH := chunk_any b h1 h2
 have hmk := run_make_row' (P := Tryz.prog) 102 22 (.int .u64 0) 8 und_nat info_u64 rfl .i64 .i64 n (by omega) (by omega)
 have HX : Hid (V f n ≠ 0 ∧ V f n < B ^ 128 ∧ Top f n) := ⟨hX, hXB, t⟩
 clear hX hXB t
 go_enter Tryz.func55, Tryz.ntmps55
 go_wp2_with fail
 refine V1.mono ?_
 rintro e w1 ⟨rfl, hb1⟩
 go_wp2_with fail
 refine (IB _).mono ?_
 rintro e w1' ⟨rfl, rfl⟩
 have S1 := S.below hb1
 have bA : Below w1'.heap.size w1' (w1'.alloc (.cells (madeCells #[.int .u64 0] n) 22)) := (Below.refl _ _).alloc (Nat.le_refl _) _
 obtain ⟨w2, hcp, R2, hg2⟩ := copy_run (cz := n) (made_row w1' n) (S1.below bA) (Nat.le_refl n)
 have b2 : Below w1'.heap.size w1' w2 := below_grown bA hg2 (Nat.le_refl _)
 go_wp2_with fail
 refine (CH _).mono ?_
 rintro e w3 ⟨k0, P, rfl, hP, hk1, hk64, hPB, rfl⟩
 have HP : Hid (P = b ^ k0 ∧ P < B) := ⟨hP, hPB⟩
 have hglt : w1'.heap.size < w3.heap.size := R2.row.lt
 have hwf : Ws (fun i => if i < n then f i else 0) := R2.ws
 have D0 : Hid (DgI w1'.heap.size n b (V f n) P k0 0 n w3.heap.size (fun i => if i < n then f i else 0) (.slice none 0 0) w w3) := by
  refine ⟨R2, Nat.le_refl _, ?_, ?_, ?_, hb1.trans (b2.mono hb1.size), Nat.le_refl _, by omega⟩
  · rcases HX.out.2.2 with q | q
    · exact Or.inl q
    · right; show (if n - 1 < n then f (n - 1) else 0) ≠ 0; rw [if_pos (by omega)]; exact q
  · rw [Nat.zero_mul, Nat.pow_zero, Nat.div_one]; exact V_congr fun i hi => by show (if i < n then f i else 0) = f i; rw [if_pos hi]
  · rw [Nat.zero_mul]; exact World.ownsRow_nil _ _ _ _
 clear hP hPB R2 hg2 bA b2 S1 hmk hcp hwf V1 IB CH
 go_wp2
 go_loopg [7, 10] (V f n) (fun gk rs tx wr => ∃ (r t cc : Nat) (Fr : Nat → Nat), rs = .slice (some ⟨w1'.heap.size, 0, none⟩) t cc ∧ gk = V Fr t ∧ t ≤ cc ∧ cc ≤ n ∧ DgI w1'.heap.size n b (V f n) P k0 r t w3.heap.size Fr tx w wr)
 case atStart => exact ⟨0, n, n, _, rfl, by rw [D0.out.val, Nat.zero_mul, Nat.pow_zero, Nat.div_one], Nat.le_refl _, Nat.le_refl _, D0.out⟩
 case round =>
  obtain ⟨r, t, cc, Fr, rfl, rfl, htc, hcn, I⟩ := hrel
  have tn := I.tn
  have HI : Hid (DgI w1'.heap.size n b (V f n) P k0 r t w3.heap.size Fr _ w wr) := I
  clear I D0
  by_cases c1 : 0 < t
  · have DB := divideBy_any (c := cc) HI.out.row tn (by omega) P (by have := HP.out.1; have := Nat.pow_pos (n := k0) (show 0 < b by omega); omega) HP.out.2
    have hvt := HI.out.val
    have hvne : V Fr t ≠ 0 := by
     have q := Top_ge HI.out.top c1
     have := Bp_pos (t - 1)
     omega
    have hfew : r * k0 ≤ 8192 := few h1 HX.out.2.1 (by rw [← hvt]; exact hvne) rfl
    have hP2 : 2 ≤ P := by
     rw [HP.out.1]
     have q : b ^ 1 ≤ b ^ k0 := Nat.pow_le_pow_right (by omega) hk1
     rw [Nat.pow_one] at q
     omega
    have hmB : V Fr t % P < B := Nat.lt_trans (Nat.mod_lt _ (by omega)) HP.out.2
    have HN : Hid (V Fr t ≠ 0 ∧ V Fr t = V f n / b ^ (r * k0) ∧ V Fr t % P < B) := ⟨hvne, hvt, hmB⟩
    clear hvt hvne hmB
    obtain ⟨md, hmd⟩ : ∃ x, V Fr t % P = x := ⟨_, rfl⟩
    have HMD : Hid (V Fr t % P = md) := hmd
    rw [hmd] at DB
    clear hmd
    go_wp2_with fail
    refine DB.mono ?_
    rintro e w5 ⟨rfl, hg5, F5, R5, hv5⟩
    have own5 := HI.out.own.kept hg5 (Or.inr (fun e => by have := (HI.out.own.lt _ e).1; omega))
    have hs5 : w3.heap.size ≤ w5.heap.size := Nat.le_trans HI.out.size hg5.size
    have LW := lowest_any own5 hs5 md (by rw [← HMD.out]; exact HN.out.2.2) k0 hk64 (by omega) b h1 h2
    go_wp2_with fail
    refine LW.mono ?_
    rintro e w6 ⟨v6, rfl, own6, hb6⟩
    have R6 : Row w6 w1'.heap.size n F5 := ⟨R5.row.of_block (hb6.block _ hglt), R5.ws⟩
    have S6 : Sl w6 (some ⟨w1'.heap.size, 0, none⟩) t cc w1'.heap.size 0 F5 := by
     have q := R6.sl (o := 0) (n := t) (c := cc) (by omega) htc (by unfold maxLen; omega)
     rw [show (fun i => F5 (0 + i)) = F5 from funext fun i => by rw [Nat.zero_add]] at q
     exact q
    have TR := trim_any S6
    have hb56 : Below w.heap.size w w6 := (below_grown HI.out.below hg5 hb1.size).trans (hb6.mono (by have := hb1.size; omega))
    have H6 : Hid (DgI w1'.heap.size n b (V f n) P k0 (r + 1) (tl F5 t) w3.heap.size F5 v6 w w6 ∧ V F5 (tl F5 t) < V Fr t ∧ tl F5 t ≤ n) := by
     have tle := tl_le F5 t
     refine ⟨⟨R6, by omega, tl_top F5 t, ?_, ?_, hb56, Nat.le_trans hs5 hb6.size, by rw [Nat.succ_mul]; omega⟩, ?_, by omega⟩
     · rw [tl_V, hv5, HN.out.2.1, HP.out.1, Nat.div_div_eq_div_mul, ← Nat.pow_add, Nat.succ_mul]
     · rw [Nat.succ_mul, ← lows_glue, ← HN.out.2.1]
       rw [← HMD.out, HP.out.1, lows_mod b _ k0 k0 (Nat.le_refl _)] at own6
       exact own6
     · rw [tl_V, hv5]; exact Nat.div_lt_self (Nat.pos_of_ne_zero HN.out.1) hP2
    clear hb56 S6 R6 own6 hb6 LW own5 R5 hv5 hg5 DB
    generalize tl F5 t = t6 at *
    go_wp2_with fail
    refine TR.mono ?_
    rintro e w7 ⟨rfl, rfl⟩
    go_wp2
    go_roundg (V F5 t6)
    case measure => exact H6.out.2.1
    case rel => exact ⟨r + 1, t6, t6, F5, rfl, rfl, Nat.le_refl _, H6.out.2.2, H6.out.1⟩
  · obtain rfl : t = 0 := by omega
    have hv0 := HI.out.val
    rw [V_zero] at hv0
    have hXlt : V f n < b ^ (r * k0) := by
     have p : 0 < b ^ (r * k0) := Nat.pow_pos (by omega)
     exact (Nat.div_eq_zero_iff_lt p).mp hv0.symm
    have sm := HI.out.small
    have hbel := HI.out.below
    have hsz3 := HI.out.size
    have hN0 : 0 < r * k0 := by
     rcases Nat.eq_zero_or_pos (r * k0) with q | q
     · rw [q, Nat.pow_zero] at hXlt; have := HX.out.1; omega
     · exact q
    obtain ⟨K, hKk, hK1, hKlo, hKhi⟩ := first_digit HX.out.1 (r * k0) hXlt
    have hown := HI.out.own
    clear hv0 hXlt
    obtain ⟨N, hN⟩ : ∃ N, r * k0 = N := ⟨_, rfl⟩
    rw [hN] at sm hN0 hKk hown
    rcases hown.2 with ⟨_, q⟩ | ⟨gt, cap, cur, hv, hbg, hheap, hle, hmx, hcs, htk⟩
    · omega
    rw [Nat.mul_one] at hcs htk
    have hfv : ∀ i, i < N → (fun i => cur.getD i undef) i = .int .u8 ((ch (V f n / b ^ i % b) : Nat) : Int) := by
     intro i hi
     have q : (cur.toList.take N)[i]? = (chV (lows b (V f n) N))[i]? := by rw [htk]
     rw [List.getElem?_take_of_lt hi] at q
     have q2 : (chV (lows b (V f n) N))[i]? = some (.int .u8 ((ch (V f n / b ^ i % b) : Nat) : Int)) := by
      unfold chV lows
      rw [List.getElem?_map, List.getElem?_map, List.getElem?_range hi]
      rfl
     rw [q2] at q
     have q3 : cur[i]? = some (.int .u8 ((ch (V f n / b ^ i % b) : Nat) : Int)) := by simpa using q
     show cur.getD i undef = _
     rw [Array.getD_eq_getD_getElem?, q3]
     rfl
    have hrow : wr.rowIs gt 5 cap (fun i => cur.getD i undef) := ⟨cur, hheap, hcs, fun i hi => by
     show cur[i]? = some (cur.getD i undef)
     rw [Array.getD_eq_getD_getElem?, Array.getElem?_eq_getElem (by omega)]
     rfl⟩
    have hfv2 : ∀ i, i < N → cur.getD i undef = .int .u8 ((ch (V f n / b ^ i % b) : Nat) : Int) := hfv
    have RV := reverse_any (c := cap) hrow hfv hle (by omega)
    have hgt : w.heap.size ≤ gt := by have := hb1.size; omega
    have HF : Hid (1 ≤ K ∧ b ^ (K - 1) ≤ V f n ∧ V f n < b ^ K ∧ K ≤ N ∧ Below w.heap.size w wr) := ⟨hK1, hKlo, hKhi, hKk, hbel⟩
    clear hK1 hKlo hKhi hKk hbel hrow hfv htk hheap hown hcs
    subst hv
    go_wp2_with fail
    refine RV.mono ?_
    rintro e w8 ⟨rfl, hg8, f8, R8, h8⟩
    have hcell : ∀ i, i < N → w8.cell? ⟨gt, 0 + i, none⟩ = some (.int .u8 (((List.range N).map fun i => ((ch (V f n / b ^ (N - 1 - i) % b) : Nat) : Int)).getD i 0)) := by
     intro i hi
     rw [Nat.zero_add, R8.cell (by omega), h8 i hi, hfv2 (N - 1 - i) (by omega)]
     congr 2
     rw [List.getD_eq_getElem?_getD, List.getElem?_map, List.getElem?_range hi]
     rfl
    have hconv := run_convert_bytes_arg w8 115 5 und_text und_byte8 gt 0 N cap ((List.range N).map fun i => ((ch (V f n / b ^ (N - 1 - i) % b) : Nat) : Int)) (by simp) hcell 9 und_str9
    rw [show strOfNums ((List.range N).map fun i => ((ch (V f n / b ^ (N - 1 - i) % b) : Nat) : Int)) = rowText b (V f n) N from rfl] at hconv
    have rs := rowText_size b (V f n) N
    have TL := trimLeft_any (rowText b (V f n) N) (by rw [rs]; omega) (N - K) (by rw [rs]; omega) (by rw [rs]; exact hN0)
     (fun i hi => by rw [rowText_at (by omega) h2, ch_48]; exact digit_zero HF.out.2.2.1 (by have := HF.out.2.2.2.1; omega) (by omega))
     (fun hh => by
      rw [rowText_at (by omega) h2]
      intro q
      rw [ch_48, show N - 1 - (N - K) = K - 1 by have := HF.out.2.2.2.1; have := HF.out.1; omega] at q
      exact digit_first (by omega) HF.out.1 HF.out.2.1 HF.out.2.2.1 q)
    rw [rs, rowText_cut HF.out.2.2.2.1] at TL
    have HB8 : Hid (Below w.heap.size w w8) := below_grown HF.out.2.2.2.2 hg8 hgt
    clear hcell rs h8 R8 hg8 RV
    generalize rowText b (V f n) N = TT at *
    go_wp2_with fail
    refine (TL _).mono ?_
    rintro e w9 ⟨rfl, rfl⟩
    go_wp2
    refine bodyPost_ret (v := .tuple #[.string (rowText b (V f n) K), .nilIface]) (by simp [results, Tryz.results55, go_sem]) rfl ⟨K, rfl, HF.out.1, HF.out.2.1, HF.out.2.2.1, HB8.out⟩
theorem length_any {w : World} {ao : Option Addr} {n c b o : Nat} {f : Nat → Nat} (S : Sl w ao n c b o f) (h0 : 0 < n) (hn : n ≤ 1000) :
 Calls Tryz.prog 94 #[.slice ao n c] w fun e w' => e = .returned (.int .i64 (((n : Int) - 1) * 64 + blen (f (n - 1) : Int))) ∧ Below w.heap.size w w' := by
 obtain rfl := S.addr h0
 have hc := S.cell (n - 1) (by omega)
 have hw := S.ws (n - 1)
 unfold B at hw
 have hb := blen_01 (f (n - 1) : Int) (by omega) (by omega)
 have e1 : ((n : Int) == 0) = false := beq_eq_false_iff_ne.mpr (by omega)
 have HL := len64_any (f (n - 1) : Int) ⟨by omega, by omega⟩ w
 generalize blen (f (n - 1) : Int) = L at *
 go_enter Tryz.func94, Tryz.ntmps94
 go_wp2_with fail
 refine HL.mono ?_
 rintro e w' ⟨rfl, rfl⟩
 go_wp2
 go_ret
 exact ⟨rfl, Below.refl _ _⟩
theorem twoB_pow (k : Nat) : B ^ k = 2 ^ (64 * k) := by
 rw [Nat.pow_mul]
 rfl
theorem length_le {f : Nat → Nat} {n : Nat} (hf : Ws f) (t : Top f n) (h0 : 0 < n) : ∃ L : Nat, ((n : Int) - 1) * 64 + blen (f (n - 1) : Int) = (L : Int) + 1 ∧ 2 ^ L ≤ V f n := by
 obtain ⟨k, rfl⟩ : ∃ k, n = k + 1 := ⟨n - 1, by omega⟩
 have tk : f k ≠ 0 := by
  rcases t with z | z
  · omega
  · simpa using z
 have hw := hf k
 have hw' : f k < 18446744073709551616 := hw
 obtain ⟨m, e, hm, h1, _⟩ := blen_bounds (f k : Int) (by omega) (by omega)
 refine ⟨64 * k + m, ?_, ?_⟩
 · rw [show k + 1 - 1 = k by omega, e]
   omega
 · rw [V_succ, Nat.pow_add, ← twoB_pow]
   have h1' : 2 ^ m ≤ f k := by exact_mod_cast h1
   have := Nat.mul_le_mul_left (B ^ k) h1'
   rw [Nat.mul_comm (B ^ k) (f k)] at this
   omega
theorem shl_ok {w : World} {va : Value} {X : Nat} (ha : NatV w va X) (s : Nat) (h : X * 2 ^ s < B ^ 128) (hs : s ≤ 8192) :
 Calls Tryz.prog 54 #[va, .int .i64 (s : Int)] w fun e w' => ∃ v, e = .returned (.tuple #[v, .nilIface]) ∧ NatV w' v (X * 2 ^ s) ∧ Below w.heap.size w w' := by
 obtain ⟨ao, n, c, b, o, f, rfl, S, t, rfl, hn⟩ := ha
 have h1 := valid_any S
 rw [verr_ok hn t] at h1
 unfold errV at h1
 by_cases h0 : n = 0
 · subst h0
   go_enter Tryz.func54, Tryz.ntmps54
   go_wp2_with fail
   refine h1.mono ?_
   rintro e wa ⟨rfl, hba⟩
   go_wp2
   refine bodyPost_ret (v := .tuple #[.slice none 0 0, .nilIface]) (by simp [results, Tryz.results54, go_sem]) rfl ⟨_, rfl, ?_, hba⟩
   rw [V_zero, Nat.zero_mul]
   exact natv_nil _
 · have e1 : ((n : Int) == 0) = false := beq_eq_false_iff_ne.mpr (by omega)
   obtain ⟨L, eL, hL⟩ := length_le S.ws t (by omega)
   have hLs : L + s < 8192 := by
    obtain ⟨M, hM, hBM⟩ : ∃ M, M = 8192 ∧ B ^ 128 = 2 ^ M := ⟨64 * 128, rfl, twoB_pow 128⟩
    have q : 2 ^ (L + s) < 2 ^ M := by
     rw [Nat.pow_add]
     refine Nat.lt_of_le_of_lt (Nat.mul_le_mul_right _ hL) ?_
     rw [hBM] at h
     exact h
    have := (Nat.pow_lt_pow_iff_right (a := 2) (by omega)).1 q
    omega
   have HH : Hid (V f n * 2 ^ s < B ^ 128) := h
   have HS : Hid (Sl w ao n c b o f) := S
   obtain ⟨q, p, hsq, hp⟩ : ∃ q p, s = 64 * q + p ∧ p < 64 := ⟨s / 64, s % 64, by omega, by omega⟩
   have hq : q ≤ 1000 := by omega
   have cL : ¬ (8192 : Int) - ((L : Int) + 1) < (s : Int) := by omega
   have cL2 : (0 : Int) ≤ (s : Int) := by omega
   have HQ : Hid (s = 64 * q + p) := hsq
   clear h hL S t hsq
   go_enter Tryz.func54, Tryz.ntmps54
   go_wp2_with fail
   refine h1.mono ?_
   rintro e wa ⟨rfl, hba⟩
   have LN := length_any (HS.out.below hba) (by omega) (by omega)
   rw [eL] at LN
   clear h1
   go_wp2_with fail
   refine LN.mono ?_
   rintro e wb ⟨rfl, hbb⟩
   have BB : Below w.heap.size w wb := hba.trans (hbb.mono hba.size)
   have SU := shiftUp_any (HS.out.below BB) (by omega) s q p HQ.out hp hq
   clear LN eL hba hbb
   go_wp2_with fail
   refine SU.mono ?_
   rintro e wc ⟨rfl, hbc, F, R, hv⟩
   obtain ⟨nv, hl⟩ := natv_tl R (by unfold maxLen; omega) hv HH.out
   have BC : Below w.heap.size w wc := BB.trans (hbc.mono BB.size)
   have TT := trim_any (row_sl0 R (by unfold maxLen; omega))
   go_wp2_with fail
   refine TT.mono ?_
   rintro e w4 ⟨rfl, rfl⟩
   go_wp2
   refine bodyPost_ret (v := .tuple #[.slice (some ⟨wb.heap.size, 0, none⟩) (tl F (q + n + 1)) (tl F (q + n + 1)), .nilIface]) (by simp [results, Tryz.results54, go_sem]) rfl ⟨_, rfl, nv, BC⟩
theorem blen_nat {x : Nat} (hx : x < B) : ∃ K : Nat, blen (x : Int) = (K : Int) ∧ K ≤ 64 ∧ x < 2 ^ K := by
 unfold B at hx
 by_cases c : x = 0
 · subst c; exact ⟨0, by decide, by omega, by decide⟩
 · obtain ⟨n, e, hn, h1, h2⟩ := blen_bounds (x : Int) (by omega) (by omega)
   refine ⟨n + 1, by omega, by omega, ?_⟩
   rw [pow_cast] at h2
   omega
theorem pow_le_fit {b n k : Nat} (h : b ^ n < B ^ 128) (hk : k ≤ n) : b ^ k < B ^ 128 := by
  rcases Nat.eq_zero_or_pos b with c | c
  · subst c
    refine Nat.lt_of_le_of_lt (?_ : 0 ^ k ≤ 1) (by have : 1 < B := by decide
                                                   exact Nat.one_lt_pow (by omega) this)
    rcases Nat.eq_zero_or_pos k with d | d
    · subst d; decide
    · rw [Nat.zero_pow d]; omega
  · exact Nat.lt_of_le_of_lt (Nat.pow_le_pow_right c hk) h
theorem and_one (a : Nat) (ha : a < 9223372036854775808) : bits .and .i64 (a : Int) 1 = ((a % 2 : Nat) : Int) := by
 have h1 : (BitVec.ofInt 64 (a : Int)).toNat = a := by
  rw [BitVec.ofInt_natCast, BitVec.toNat_ofNat]; exact Nat.mod_eq_of_lt (by omega)
 show IntKind.i64.wrap ((BitVec.ofInt 64 (a : Int) &&& BitVec.ofInt 64 (1 : Int)).toNat : Int) = _
 rw [BitVec.toNat_and, h1, show (BitVec.ofInt 64 (1 : Int)).toNat = 1 by decide, Nat.and_one_is_mod, IntWalk.i64_left, IntWalk.wrap64_in _ ⟨by omega, by omega⟩]
theorem bit_step (n i : Nat) : n / 2 ^ i = 2 * (n / 2 ^ (i + 1)) + n / 2 ^ i % 2 := by
 rw [Nat.pow_succ, ← Nat.div_div_eq_div_mul]; omega
theorem power_ok (b n : Nat) (hb : b < B) (hn : n ≤ 9223372036854775807) (hf : b ^ n < B ^ 128) (w : World) :
 Calls Tryz.prog 51 #[.int .u64 (b : Int), .int .i64 (n : Int)] w fun e w' => ∃ v, e = .returned (.tuple #[v, .nilIface]) ∧ NatV w' v (b ^ n) ∧ Below w.heap.size w w' := by
 obtain ⟨K, eK, hK, hnK⟩ := blen_nat (x := n) (by unfold B; omega)
 have LN := fun W => len_any n (by unfold B; omega) W
 rw [eK] at LN
 have O1 := fun W => of_any 1 (by decide) W
 have O2 := fun W => of_any b hb W
 have HF : Hid (b ^ n < B ^ 128 ∧ n < 2 ^ K) := ⟨hf, hnK⟩
 clear hf hnK eK
 go_enter Tryz.func51, Tryz.ntmps51
 go_wp2_with fail
 refine (O1 _).mono ?_
 rintro e w1 ⟨v1, rfl, nv1, hb1⟩
 go_wp2_with fail
 refine (O2 _).mono ?_
 rintro e w2 ⟨v2, rfl, nv2, hb2⟩
 have hB2 : Below w.heap.size w w2 := hb1.trans (hb2.mono hb1.size)
 have nv1' := nv1.below hb2
 go_wp2_with fail
 refine (LN _).mono ?_
 rintro e w3 ⟨rfl, rfl⟩
 clear LN O1 O2
 go_wp2
 go_loopw [6, 8] (fun z i wr => ∃ k : Nat, i = .int .i64 ((k : Int) - 1) ∧ k ≤ K ∧ NatV wr z (b ^ (n / 2 ^ k)) ∧ NatV wr v2 b ∧ Below w.heap.size w wr) (fun _ i _ => (intOf i + 1).toNat)
 case atStart => exact ⟨K, rfl, Nat.le_refl _, by rw [Nat.div_eq_of_lt HF.out.2, Nat.pow_zero]; exact nv1', nv2, hB2⟩
 case round =>
  obtain ⟨k, rfl, hk, nz, nf, hbl⟩ := hrel
  by_cases c1 : 0 < k
  · obtain ⟨i, rfl⟩ : ∃ i, k = i + 1 := ⟨k - 1, by omega⟩
    obtain ⟨ao, zn, zc, zb, zo, f, rfl, S, t, hv, hzn⟩ := nz
    have nf' := nf
    obtain ⟨bo, fn, fc, fb, fo, G, rfl, S', t', hv', hfn⟩ := nf'
    have M1 := multiply_any S S (by omega) (by omega)
    rw [hv] at M1
    have hfit : b ^ (n / 2 ^ i) < B ^ 128 := pow_le_fit HF.out.1 (Nat.div_le_self _ _)
    have hst := bit_step n i
    have hand : bits BinOp.and IntKind.i64 ((n : Int) / 2 ^ i) 1 = ((n / 2 ^ i % 2 : Nat) : Int) := by
     have q := and_one (n / 2 ^ i) (Nat.lt_of_le_of_lt (Nat.div_le_self _ _) (by omega))
     rw [← q, pow_cast]; rfl
    have HB : Hid (Below w.heap.size w wr ∧ NatV wr (.slice bo fn fc) b) := ⟨hbl, nf⟩
    have hi63 : i < 64 := by omega
    clear t t' nf hv
    have hn0 : (0 : Int) ≤ (n : Int) / 2 ^ i := by rw [pow_cast]; exact Int.natCast_nonneg (n / 2 ^ i)
    rw [show ((i + 1 : Nat) : Int) - 1 = (i : Int) by omega]
    rcases Nat.mod_two_eq_zero_or_one (n / 2 ^ i) with hb0 | hb0
    · rw [hb0] at hand hst
      have hX : b ^ (n / 2 ^ (i + 1)) * b ^ (n / 2 ^ (i + 1)) = b ^ (n / 2 ^ i) := by rw [← Nat.pow_add, hst]; congr 1; omega
      rw [hX] at M1
      clear hb0 hst hX
      go_wp2_with fail
      refine M1.mono ?_
      rintro e w4 ⟨rfl, hb4, F4, R4, hv4⟩
      obtain ⟨nv, hl⟩ := natv_tl R4 (by unfold maxLen; omega) hv4 hfit
      have FT := fit_ok (row_sl0 R4 (by unfold maxLen; omega)) hl
      have H4 : Hid (NatV w4 (.slice (some ⟨wr.heap.size, 0, none⟩) (tl F4 (zn + zn)) (tl F4 (zn + zn))) (b ^ (n / 2 ^ i)) ∧ NatV w4 (.slice bo fn fc) b ∧ Below w.heap.size w w4) := ⟨nv, HB.out.2.below hb4, HB.out.1.trans (hb4.mono HB.out.1.size)⟩
      clear nv hl hv4 R4 hbl
      generalize tl F4 (zn + zn) = tz at *
      go_wp2_with fail
      refine FT.mono ?_
      rintro e w5 ⟨rfl, rfl⟩
      go_wp2
      go_roundw
      case rel => exact ⟨i, by go_num, by omega, H4.out.1, H4.out.2.1, H4.out.2.2⟩
      case measure => first | (simp [intOf]; done) | (simp [intOf]; omega)
    · rw [hb0] at hand hst
      have hX : b ^ (n / 2 ^ (i + 1)) * b ^ (n / 2 ^ (i + 1)) * b = b ^ (n / 2 ^ i) := by rw [← Nat.pow_add, hst, ← Nat.pow_succ]; congr 1; omega
      clear hb0 hst
      go_wp2_with fail
      refine M1.mono ?_
      rintro e w4 ⟨rfl, hb4, F4, R4, hv4⟩
      have M2 := multiply_any (row_sl0 R4 (by unfold maxLen; omega)) (S'.below hb4) (by omega) (by omega)
      rw [hv4, hv', hX] at M2
      have H4 : Hid (NatV w4 (.slice bo fn fc) b ∧ Below w.heap.size w w4) := ⟨HB.out.2.below hb4, HB.out.1.trans (hb4.mono HB.out.1.size)⟩
      clear hv4 R4 hbl
      go_wp2_with fail
      refine M2.mono ?_
      rintro e w5 ⟨rfl, hb5, F5, R5, hv5⟩
      obtain ⟨nv, hl⟩ := natv_tl R5 (by unfold maxLen; omega) hv5 hfit
      have FT := fit_ok (row_sl0 R5 (by unfold maxLen; omega)) hl
      have H5 : Hid (NatV w5 (.slice (some ⟨w4.heap.size, 0, none⟩) (tl F5 (zn + zn + fn)) (tl F5 (zn + zn + fn))) (b ^ (n / 2 ^ i)) ∧ NatV w5 (.slice bo fn fc) b ∧ Below w.heap.size w w5) := ⟨nv, H4.out.1.below hb5, H4.out.2.trans (hb5.mono H4.out.2.size)⟩
      clear nv hl hv5 R5
      generalize tl F5 (zn + zn + fn) = tz at *
      go_wp2_with fail
      refine FT.mono ?_
      rintro e w6 ⟨rfl, rfl⟩
      go_wp2
      go_roundw
      case rel => exact ⟨i, by go_num, by omega, H5.out.1, H5.out.2.1, H5.out.2.2⟩
      case measure => first | (simp [intOf]; done) | (simp [intOf]; omega)
  · obtain rfl : k = 0 := by omega
    rw [Nat.pow_zero, Nat.div_one] at nz
    have HB : Hid (Below w.heap.size w wr) := hbl
    clear hbl c1
    go_wp2
    refine bodyPost_ret (v := .tuple #[u6, .nilIface]) (by simp [results, Tryz.results51, go_sem]) rfl ⟨_, rfl, nz, HB.out⟩
theorem digits_zero {w : World} {ao : Option Addr} {c b' o : Nat} {f : Nat → Nat} (S : Sl w ao 0 c b' o f) (b : Nat) (h1 : 2 ≤ b) (h2 : b ≤ 36) :
 Calls Tryz.prog 55 #[.slice ao 0 c, .int .i64 (b : Int)] w fun e w' => e = .returned (.tuple #[.string ⟨#[48]⟩, .nilIface]) ∧ Below w.heap.size w w' := by
 have V1 := valid_any S
 rw [verr_ok (by omega) (Or.inl rfl)] at V1
 unfold errV at V1
 go_enter Tryz.func55, Tryz.ntmps55
 go_wp2_with fail
 refine V1.mono ?_
 rintro e wa ⟨rfl, hba⟩
 go_wp2_with fail
 refine (isBase_yes b h1 h2 _).mono ?_
 rintro e wb ⟨rfl, rfl⟩
 go_wp2
 refine bodyPost_ret (v := .tuple #[.string ⟨#[48]⟩, .nilIface]) (by simp [results, Tryz.results55, go_sem]) rfl ⟨rfl, hba⟩
end Go.Proofs.YtjagnfddmlkalaaGreatDoor
