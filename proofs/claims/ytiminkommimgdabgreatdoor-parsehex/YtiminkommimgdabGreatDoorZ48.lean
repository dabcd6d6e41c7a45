/-
  Holds: URnJ.
-/
import Derived.Test.YtiminkommimgdabGreatDoorRows
import Derived.Laws.Externs
import Derived.WalkKit
import Derived.WalkSpells
import Derived.WalkLawsBesides
import Derived.Lib.Mul64
import Derived.Lib.TrailingZeros
import Derived.Lib.ItoaNum
import Derived.Deep.OwnRows
import Derived.Laws.CopyOwn
import Derived.BigQuiet
import Derived.Deep.RegionHeld3
import Derived.Deep.LoopGhost
import Derived.Deep.AppendLies
import Derived.Deep.DeepCutAuto
import Derived.Stop.Asserts
import Derived.RowKitTokens
import Derived.Lib.Strings
import Derived.Lib.BufferWrite
import Derived.Lib.ConvBytes
import Derived.Test.YtiminkommimgdabGreatDoorZ5
import Derived.Test.YtiminkommimgdabGreatDoorZ13
set_option maxRecDepth 100000
set_option maxHeartbeats 4000000
namespace Go.Proofs.YtiminkommimgdabGreatDoor
open Go.RowKit
def anR (g : Nat) (c : Bool) (p : Nat × Bool) : Value := .tuple #[.int .u64 ((sgd g c p.1 : Nat) : Int), .int .i64 (if p.2 then 4 else 0)]
theorem rsigned_z2 {s : Int} {g n f T : Nat} {L : Int} (h : Fz s g n f T L) {x : Nat} (hx : x ≤ T * 2 ^ f) (c : Bool) (w : World) : Calls Tryz.prog 27 #[.bool c, .int .u64 (x : Int), .int .i64 s] w fun e w' => e = .returned (.int .u64 ((sgd g c x : Nat) : Int)) ∧ w' = w := by
 rcases h with ⟨rfl, rfl, rfl, rfl, rfl, rfl⟩ | ⟨rfl, rfl, rfl, rfl, rfl, rfl⟩
 · exact rsigned_32 (by omega) c w
 · exact rsigned_64 (by omega) c w
theorem rrnd_ok {s : Int} {g n' f T : Nat} {L : Int} (hz : Fz s g n' f T L) {w : World} {vn vd : Value} {X Y : Nat} {e : Int} (c more : Bool) (hn : Big.NatV w vn X) (hd : Big.NatV w vd Y) (fX : Fits 256 X) (fY : Fits 256 Y) (y0 : Y ≠ 0) : Calls Tryz.prog 15 #[.int .i64 s, .bool c, vn, vd, .int .i64 e, .bool more] w fun x w' => x = .returned (anR g c (rdA f T L X Y e more)) ∧ Below w.heap.size w w' := by
 have hf : 0 < f ∧ f ≤ 52 ∧ 2 ≤ T ∧ T ≤ 2047 ∧ L ≤ 0 ∧ -1074 ≤ L := by rcases hz with ⟨_, _, _, h, h', h''⟩ | ⟨_, _, _, h, h', h''⟩ <;> omega
 obtain ⟨f1, f2, f3, f4, f5, f6⟩ := hf
 have en := rdA_end (f := f) (T := T) (L := L) (n := X) (d := Y) (e := e) (more := more) (by omega)
 have bX := bl_fits fX
 have bY := bl_fits fY
 obtain ⟨ao, m, cp, rfl, hm0⟩ := big_slice hn
 by_cases z : X = 0 ∨ e < -20000
 · have hA : rdA f T L X Y e more = (0, false) := by
    rcases z with z | z
    · unfold rdA; rw [if_pos z]
    · exact rdA_low f1 (by omega) more y0 (bl_lt X) (by omega)
   have SG := fun W => rsigned_z2 hz (x := 0) (Nat.zero_le _) c W
   rw [show ((0 : Nat) : Int) = 0 from rfl] at SG
   have eA : anR g c (rdA f T L X Y e more) = .tuple #[.int .u64 ((sgd g c 0 : Nat) : Int), .int .i64 0] := by rw [hA]; rfl
   rw [eA]
   generalize sgd g c 0 = y at *
   have zz : m = 0 ∨ (((m : Int) == 0) = false ∧ e < -20000) := by
    by_cases q : m = 0
    · exact .inl q
    · refine .inr ⟨by simp; omega, ?_⟩
      rcases z with z | z
      · exact absurd (hm0.2 z) q
      · exact z
   clear hA eA en hz hn hd fX fY y0 hm0 z bX bY f1 f2 f3 f4 f5 f6
   rcases zz with rfl | ⟨z1, z2⟩
   · go_enter Tryz.func15, Tryz.ntmps15
     go_wp2_with fail
     refine (SG _).mono ?_
     rintro x wz ⟨rfl, rfl⟩
     go_wp2
     go_ret2
     exact ⟨rfl, Below.refl _ _⟩
   · go_enter Tryz.func15, Tryz.ntmps15
     go_wp2_with fail
     refine (SG _).mono ?_
     rintro x wz ⟨rfl, rfl⟩
     go_wp2
     go_ret2
     exact ⟨rfl, Below.refl _ _⟩
 · have x0 : X ≠ 0 := fun q => z (.inl q)
   have m0 : ((m : Int) == 0) = false := by
    have : m ≠ 0 := fun q => x0 (hm0.1 q)
    simp; omega
   have z2 : ¬ e < -20000 := fun q => z (.inr q)
   have TI := fun W => rinf_z hz W
   by_cases k : 20000 < e
   · have hA : rdA f T L X Y e more = (T * 2 ^ f, true) := rdA_high f1 (by omega) more x0 y0 (bl_lt Y) (by omega)
     have SG := fun W => rsigned_z2 hz (x := T * 2 ^ f) (Nat.le_refl _) c W
     have eA : anR g c (rdA f T L X Y e more) = .tuple #[.int .u64 ((sgd g c (T * 2 ^ f) : Nat) : Int), .int .i64 4] := by rw [hA]; rfl
     rw [eA]
     generalize sgd g c (T * 2 ^ f) = y at *
     generalize T * 2 ^ f = t at *
     clear hA eA en hz hn hd fX fY y0 hm0 z bX bY f1 f2 f3 f4 f5 f6 x0
     go_enter Tryz.func15, Tryz.ntmps15
     go_wp2_with fail
     refine (TI _).mono ?_
     rintro x wz ⟨rfl, rfl⟩
     go_wp2_with fail
     refine (SG _).mono ?_
     rintro x wy ⟨rfl, rfl⟩
     go_wp2
     go_ret2
     exact ⟨rfl, Below.refl _ _⟩
   · have TF := rfrac_ok (e := e) hz more hn hd fX fY x0 y0 (by omega) (by omega)
     have SG := fun W => rsigned_z2 hz en.1 c W
     unfold anR
     generalize (rdA f T L X Y e more).1 = b at *
     generalize (rdA f T L X Y e more).2 = fl at *
     generalize sgd g c b = y at *
     generalize T * 2 ^ f = t at *
     have k2 : e ≤ 20000 := by omega
     clear en hz hn hd fX fY y0 hm0 z bX bY f1 f2 f3 f4 f5 f6 x0 k
     cases fl
     · go_enter Tryz.func15, Tryz.ntmps15
       go_wp2_with fail
       refine (TI _).mono ?_
       rintro x wz ⟨rfl, rfl⟩
       go_wp2_with fail
       refine TF.mono ?_
       rintro x wy ⟨rfl, by1⟩
       have BY : Hid (Below wz.heap.size wz wy) := by1
       clear by1
       go_wp2_with fail
       refine (SG _).mono ?_
       rintro x wv ⟨rfl, rfl⟩
       go_wp2
       go_ret2
       exact ⟨rfl, BY.out⟩
     · go_enter Tryz.func15, Tryz.ntmps15
       go_wp2_with fail
       refine (TI _).mono ?_
       rintro x wz ⟨rfl, rfl⟩
       go_wp2_with fail
       refine TF.mono ?_
       rintro x wy ⟨rfl, by1⟩
       have BY : Hid (Below wz.heap.size wz wy) := by1
       clear by1
       go_wp2_with fail
       refine (SG _).mono ?_
       rintro x wv ⟨rfl, rfl⟩
       go_wp2
       go_ret2
       exact ⟨rfl, BY.out⟩
theorem rwhole_ok {s : Int} {g n' f T : Nat} {L : Int} (hz : Fz s g n' f T L) (c more : Bool) {m : Nat} {e : Int} (hm : m < 18446744073709551616) (p1 : ¬ e < -1099511627776) (p2 : ¬ 1099511627776 < e) (w : World) : Calls Tryz.prog 7 #[.int .i64 s, .bool c, .int .u64 (m : Int), .int .i64 e, .bool more] w fun x w' => x = .returned (anR g c (rdA f T L m 1 e more)) ∧ Below w.heap.size w w' := by
 have HS := fun W => rsize_z hz W
 have S1 := fun W => small_nat m hm W
 have S2 : ∀ W, Calls Tryz.prog 16 #[.int .u64 1] W fun e w' => ∃ v, e = .returned v ∧ Big.NatV w' v 1 ∧ Below W.heap.size W w' := fun W => small_nat 1 (by unfold B; decide) W
 have fm : Fits 256 m := (Fits.word (n := 1) (by rw [Nat.pow_one]; exact hm)).up (by omega)
 have f1 : Fits 256 1 := (two_fits (s := 0) (k := 1) (by omega)).up (by omega)
 have H0 : Hid (Fits 256 m ∧ Fits 256 1 ∧ Fz s g n' f T L) := ⟨fm, f1, hz⟩
 clear fm f1 hz hm
 unfold anR
 go_enter Tryz.func7, Tryz.ntmps7
 go_wp2_with fail
 refine (HS _).mono ?_
 rintro x w3 ⟨rfl, rfl⟩
 go_wp2_with fail
 refine (S1 _).mono ?_
 rintro x w4 ⟨v1, rfl, n1, b4⟩
 have N1 : Hid (Big.NatV w4 v1 m ∧ Below w3.heap.size w3 w4) := ⟨n1, b4⟩
 clear n1 b4 S1
 go_wp2_with fail
 refine (S2 _).mono ?_
 rintro x w5 ⟨v2, rfl, n2, b5⟩
 have N2 : Hid (Below w3.heap.size w3 w5) := N1.out.2.trans (b5.mono N1.out.2.size)
 have TR := rrnd_ok (e := e) H0.out.2.2 c more (N1.out.1.below b5) n2 H0.out.1 H0.out.2.1 (by omega)
 unfold anR at TR
 clear n2 b5 S2 N1
 go_wp2_with fail
 refine TR.mono ?_
 rintro x w6 ⟨rfl, b6⟩
 have B6 : Hid (Below w3.heap.size w3 w6) := N2.out.trans (b6.mono N2.out.size)
 clear b6 TR N2
 go_wp2
 all_goals go_ret2
 all_goals exact ⟨rfl, B6.out⟩
end Go.Proofs.YtiminkommimgdabGreatDoor
