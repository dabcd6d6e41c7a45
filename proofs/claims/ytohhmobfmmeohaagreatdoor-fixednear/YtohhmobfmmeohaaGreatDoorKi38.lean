/-
  Holds: VCo0 FxV LawFxC LawFxN LawFxD.
-/
import Derived.Test.YtohhmobfmmeohaaGreatDoorRows
import Derived.Laws.Externs
import Derived.WalkKit
import Derived.WalkSpells
import Derived.WalkLawsBesides
import Derived.Lib.Mul64
import Derived.Stop.Asserts
import Derived.RowKitTokens
import Derived.Lib.Strings
import Derived.Lib.BufferWrite
import Derived.Deep.OwnRows
import Derived.Deep.RegionHeld3
import Derived.BigQuiet
import Derived.Lib.ConvBytes
import Derived.Laws.CopyOwn
import Derived.Lib.TrailingZeros
import Derived.Lib.ItoaNum
import Derived.Deep.LoopGhost
import Derived.Deep.AppendLies
import Derived.Deep.DeepCutAuto
import Derived.Test.YtohhmobfmmeohaaGreatDoorKi33
import Derived.Test.YtohhmobfmmeohaaGreatDoorKi36
import Derived.Test.YtohhmobfmmeohaaGreatDoorKi37
set_option maxRecDepth 100000
set_option maxHeartbeats 4000000
namespace Go.Proofs.YtohhmobfmmeohaaGreatDoor
open Go.RowKit
theorem rvalue_walk {s b : Int} {x0 : Bool} {x1 : Int} {x2 : Nat} {x3 : Int} {w : World} (h2 : x2 < 18446744073709551616) (h0 : -1100 ≤ x3) (h1 : x3 ≤ 1000) (H : ∀ W, Calls Tryz.prog 33 #[.int .u64 b, .int .i64 s] W fun e w' => e = .returned (.tuple #[.agg #[.bool x0, .int .i64 x1, .int .u64 (x2 : Int), .int .i64 x3], .int .i64 0]) ∧ Below W.heap.size W w') : Calls Tryz.prog 17 #[.int .u64 b, .int .i64 s] w fun e w' => ∃ (v1 v2 : Value) (N D : Nat), e = .returned (.tuple #[.bool x0, v1, v2, .int .i64 0]) ∧ NatV w' v1 N ∧ NatV w' v2 D ∧ Frc N D x2 x3 ∧ Below w.heap.size w w' := by
 have HR := fun W => rexact_ok h2 h0 h1 W
 clear h2 h0 h1
 go_enter Tryz.func17, Tryz.ntmps17
 go_wp2_with fail
 refine (H _).mono ?_
 rintro e w1 ⟨rfl, hb⟩
 have B2 : Hid (Below w.heap.size w (w1.alloc (.cells #[.bool x0, .int .i64 x1, .int .u64 (x2 : Int), .int .i64 x3] 63))) := hb.alloc hb.size _
 have X2 : Hid (FlB (w1.alloc (.cells #[.bool x0, .int .i64 x1, .int .u64 (x2 : Int), .int .i64 x3] 63)) w1.heap.size _ _ _ _) := FlB.new w1 _ _ _ _ _
 have T := HR (w1.alloc (.cells #[.bool x0, .int .i64 x1, .int .u64 (x2 : Int), .int .i64 x3] 63))
 clear hb H HR
 go_wp2_with fail
 refine T.mono ?_
 rintro x w3 ⟨v1, v2, N, D, rfl, n1, n2, hf, f1, f2, hb⟩
 have N3 : Hid (Big.NatV w3 v2 D ∧ Fits 100 D ∧ Frc N D x2 x3 ∧ Below w.heap.size w w3) := ⟨n2, f2, hf, B2.out.trans (hb.mono B2.out.size)⟩
 have K3 : Hid (FlB w3 w1.heap.size _ _ _ _) := X2.out.step hb
 have T1 := words_nat n1 f1
 clear hb n1 n2 hf f1 f2 T B2 X2
 go_wp2_with fail
 refine T1.mono ?_
 rintro x w4 ⟨v3, rfl, n3, hb⟩
 have N4 : Hid (NatV w4 v3 N ∧ Frc N D x2 x3 ∧ Below w.heap.size w w4) := ⟨n3, N3.out.2.2.1, N3.out.2.2.2.trans (hb.mono N3.out.2.2.2.size)⟩
 have K4 : Hid (FlB w4 w1.heap.size _ _ _ _) := K3.out.step hb
 have T2 := words_nat (N3.out.1.below hb) N3.out.2.1
 clear hb n3 T1 N3 K3
 go_wp2_with fail
 refine T2.mono ?_
 rintro x w5 ⟨v4, rfl, n4, hb⟩
 have N5 : Hid (NatV w5 v3 N ∧ NatV w5 v4 D ∧ Frc N D x2 x3 ∧ Below w.heap.size w w5) := ⟨N4.out.1.below hb, n4, N4.out.2.1, N4.out.2.2.trans (hb.mono N4.out.2.2.size)⟩
 have K5 : Hid (FlB w5 w1.heap.size _ _ _ _) := K4.out.step hb
 clear hb n4 T2 N4 K4
 obtain ⟨_, a0, _, _, _, _, _, _, _⟩ := K5.out
 go_wp2
 exact bodyPost_ret (v := .tuple #[.bool x0, v3, v4, .int .i64 0]) (by simp [results, Tryz.results17, go_sem]) rfl ⟨v3, v4, N, D, rfl, N5.out.1, N5.out.2.1, N5.out.2.2.1, N5.out.2.2.2⟩
theorem parts_lim {s : Int} {g n f T : Nat} {L : Int} (hz : Fz s g n f T L) {m : Nat} (hm : m < n) : mt f m < 9007199254740992 ∧ -1074 ≤ xp f L m ∧ xp f L m ≤ 971 := by
 have e23 : (2 : Nat) ^ 23 = 8388608 := by decide
 have e52 : (2 : Nat) ^ 52 = 4503599627370496 := by decide
 unfold mt xp
 rcases hz with ⟨_, _, rfl, rfl, _, rfl⟩ | ⟨_, _, rfl, rfl, _, rfl⟩
 · rw [e23]
   split <;> omega
 · rw [e52]
   split <;> omega
theorem of_nat {w : World} {v : Value} {X : Nat} (h : NatV w v X) : (∃ ao n c, v = .slice ao n c) ∧ Fits 256 X ∧ Calls Tryz.prog 22 #[v] w fun e w' => ∃ v', e = .returned v' ∧ Big.NatV w' v' X ∧ Below w.heap.size w w' := by
 obtain ⟨ao, n, c, b, o, f, rfl, S, t, rfl, l⟩ := h
 refine ⟨⟨_, _, _, rfl⟩, ?_, rofA_any S (by omega)⟩
 exact (Fits.word (V_lt S.ws n)).up (by omega)
theorem dig16 {s : ByteArray} (hs : s.size ≤ 801) (hd : DG s) (w : World) : Calls Tryz.prog 36 #[.string s] w fun e w' => ∃ v, e = .returned v ∧ Big.NatV w' v (dvA s 0 s.size) ∧ Below w.heap.size w w' := by
 have T0 := fun W => dig14 hs hd W
 go_enter Tryz.func36, Tryz.ntmps36
 go_wp2_with fail
 refine (T0 _).mono ?_
 rintro e w1 ⟨v1, rfl, n1, b1⟩
 have H : Hid (Big.NatV w1 v1 (dvA s 0 s.size) ∧ Below w.heap.size w w1) := ⟨n1, b1⟩
 clear n1 b1 T0
 go_wp2
 go_ret
 exact ⟨v1, rfl, H.out.1, H.out.2⟩
theorem lfrac_up {s : ByteArray} (hs : s.size ≤ 801) (hd : DG s) {p : Int} (c : Bool) (h1 : p ≤ 500) {k : Nat} (hk : p = (s.size : Int) + k) (w : World) : Calls Tryz.prog 18 #[dcV s p c] w fun e w' => ∃ v1 v2, e = .returned (.tuple #[v1, v2]) ∧ Big.NatV w' v1 (dvA s 0 s.size * 10 ^ k) ∧ Big.NatV w' v2 1 ∧ Below w.heap.size w w' := by
 have T0 := fun W => dig16 hs hd W
 have T1 := fun W => raised_far 10 k (by decide) (by decide) (by omega) W
 rw [show ((10 : Nat) : Int) = 10 from rfl] at T1
 have T2 := fun W => small_nat 1 (by unfold B; decide) W
 rw [show ((1 : Nat) : Int) = 1 from rfl] at T2
 have FF : Hid (Fits 1000 (dvA s 0 s.size) ∧ Fits 1000 (10 ^ k)) := ⟨dvA_fits hd (by omega), fits_far (by decide) (by omega)⟩
 have ek : p - (s.size : Int) = (k : Int) := by omega
 have k0 : (0 : Int) ≤ (k : Int) := by omega
 clear hk hd
 unfold dcV
 go_enter Tryz.func18, Tryz.ntmps18
 go_wp2_with fail
 refine (T0 _).mono ?_
 rintro e w1 ⟨v1, rfl, n1, b1⟩
 have D1 : Hid (DcB w1 w.heap.size (.string s) (.int .i64 p) (.bool c)) := (DcB.new w _ _ _ _).step b1
 have N1 : Hid (Big.NatV w1 v1 (dvA s 0 s.size) ∧ Below w.heap.size w w1) := ⟨n1, ((Below.refl _ _).alloc (Nat.le_refl _) _).trans (b1.mono (by simp))⟩
 clear n1 b1 T0
 obtain ⟨_, a0, a1, a2, _, _, _⟩ := D1.out
 go_wp2_with fail
 refine (T1 _).mono ?_
 rintro e w2 ⟨v2, rfl, n2, b2⟩
 have N2 : Hid (Big.NatV w2 v2 (10 ^ k) ∧ Big.NatV w2 v1 (dvA s 0 s.size) ∧ Below w.heap.size w w2) := ⟨n2, N1.out.1.below b2, N1.out.2.trans (b2.mono N1.out.2.size)⟩
 clear n2 b2 T1 N1 a0 a1 a2 D1
 have T := times_nat N2.out.2.1 N2.out.1 FF.out.1 FF.out.2
 go_wp2_with fail
 refine T.mono ?_
 rintro e w3 ⟨v3, rfl, n3, b3⟩
 have N3 : Hid (Big.NatV w3 v3 (dvA s 0 s.size * 10 ^ k) ∧ Below w.heap.size w w3) := ⟨n3, N2.out.2.2.trans (b3.mono N2.out.2.2.size)⟩
 clear n3 b3 T N2
 go_wp2_with fail
 refine (T2 _).mono ?_
 rintro e w4 ⟨v4, rfl, n4, b4⟩
 have N4 : Hid (Big.NatV w4 v3 (dvA s 0 s.size * 10 ^ k) ∧ Big.NatV w4 v4 1 ∧ Below w.heap.size w w4) := ⟨N3.out.1.below b4, n4, N3.out.2.trans (b4.mono N3.out.2.size)⟩
 clear n4 b4 T2 N3
 go_wp2
 exact bodyPost_ret (v := .tuple #[v3, v4]) (by simp [results, Tryz.results18, go_sem]) rfl ⟨v3, v4, rfl, N4.out.1, N4.out.2.1, N4.out.2.2⟩
theorem lfrac_dn {s : ByteArray} (hs : s.size ≤ 801) (hd : DG s) {p : Int} (c : Bool) {k : Nat} (k0 : 0 < k) (k9 : k ≤ 2400) (hk : (s.size : Int) = p + k) (w : World) : Calls Tryz.prog 18 #[dcV s p c] w fun e w' => ∃ v1 v2, e = .returned (.tuple #[v1, v2]) ∧ Big.NatV w' v1 (dvA s 0 s.size) ∧ Big.NatV w' v2 (10 ^ k) ∧ Below w.heap.size w w' := by
 have T0 := fun W => dig16 hs hd W
 have T1 := fun W => raised_far 10 k (by decide) (by decide) k9 W
 rw [show ((10 : Nat) : Int) = 10 from rfl] at T1
 have ek : p - (s.size : Int) = -(k : Int) := by omega
 have k1 : ¬ (0 : Int) ≤ -(k : Int) := by omega
 have p1 : -9000000000 ≤ p ∧ p ≤ 801 := by omega
 clear hk hd k0
 unfold dcV
 go_enter Tryz.func18, Tryz.ntmps18
 go_wp2_with fail
 refine (T0 _).mono ?_
 rintro e w1 ⟨v1, rfl, n1, b1⟩
 have D1 : Hid (DcB w1 w.heap.size (.string s) (.int .i64 p) (.bool c)) := (DcB.new w _ _ _ _).step b1
 have N1 : Hid (Big.NatV w1 v1 (dvA s 0 s.size) ∧ Below w.heap.size w w1) := ⟨n1, ((Below.refl _ _).alloc (Nat.le_refl _) _).trans (b1.mono (by simp))⟩
 clear n1 b1 T0
 obtain ⟨_, a0, a1, a2, _, _, _⟩ := D1.out
 go_wp2_with fail
 refine (T1 _).mono ?_
 rintro e w2 ⟨v2, rfl, n2, b2⟩
 have N2 : Hid (Big.NatV w2 v2 (10 ^ k) ∧ Big.NatV w2 v1 (dvA s 0 s.size) ∧ Below w.heap.size w w2) := ⟨n2, N1.out.1.below b2, N1.out.2.trans (b2.mono N1.out.2.size)⟩
 clear n2 b2 T1 N1 a0 a1 a2 D1
 go_wp2
 exact bodyPost_ret (v := .tuple #[v1, v2]) (by simp [results, Tryz.results18, go_sem]) rfl ⟨v1, v2, rfl, N2.out.2.1, N2.out.1, N2.out.2.2⟩
theorem lfrac_any {s : ByteArray} {p : Int} {X : Nat} (G : Dx s p X) (h1 : p ≤ 400) (h2 : (s.size : Int) - p ≤ 400) (w : World) : Calls Tryz.prog 18 #[dcV s p false] w fun e w' => ∃ v1 v2, e = .returned (.tuple #[v1, v2]) ∧ Big.NatV w' v1 (fqN s p) ∧ Big.NatV w' v2 (fqD s p) ∧ Below w.heap.size w w' := by
 have hd : DG s := by
  rcases G.vd with ⟨z, _⟩ | g
  · intro i hi
    omega
  · exact g.dg
 have hs : s.size ≤ 801 := by
  rcases G.vd with ⟨z, _⟩ | g
  · omega
  · have := g.len
    omega
 unfold fqN fqD
 rcases Int.lt_or_le p (s.size : Int) with c | c
 · have r := lfrac_dn hs hd (p := p) false (k := ((s.size : Int) - p).toNat) (by omega) (by omega) (by omega) w
   rw [show (p - (s.size : Int)).toNat = 0 by omega, Nat.pow_zero, Nat.mul_one]
   exact r
 · have r := lfrac_up hs hd (p := p) false (by omega) (k := (p - (s.size : Int)).toNat) (by omega) w
   rw [show ((s.size : Int) - p).toNat = 0 by omega, Nat.pow_zero]
   exact r
theorem fq_fits {s : ByteArray} {p : Int} {X : Nat} (G : Dx s p X) (h1 : p ≤ 400) (h2 : (s.size : Int) - p ≤ 400) : Fits 110 (fqN s p) ∧ Fits 60 (fqD s p) := by
 have hd : DG s := by
  rcases G.vd with ⟨z, _⟩ | g
  · intro i hi
    omega
  · exact g.dg
 have hs : s.size ≤ 801 := by
  rcases G.vd with ⟨z, _⟩ | g
  · omega
  · have := g.len
    omega
 have d := dvA_lt hd 0 s.size
 constructor
 · unfold fqN
   refine fits_ten (k := s.size + (p - (s.size : Int)).toNat) ?_ (by omega)
   rw [Nat.pow_add]
   exact Nat.mul_le_mul_right _ (Nat.le_of_lt d)
 · unfold fqD
   exact fits_ten (k := ((s.size : Int) - p).toNat) (Nat.le_refl _) (by omega)
theorem minus_nat {w : World} {va vb : Value} {X Y : Nat} (ha : Big.NatV w va X) (hb : Big.NatV w vb Y) (hX : Fits 1000 X) (hle : Y ≤ X) :
 Calls Tryz.prog 23 #[va, vb] w fun e w' => ∃ v, e = .returned v ∧ Big.NatV w' v (X - Y) ∧ Below w.heap.size w w' := by
 refine (minus_new ha hb hX hle).mono ?_
 rintro e w' ⟨v, rfl, n, b⟩
 exact ⟨v, rfl, n.nat, b⟩
theorem gr_lt {w : World} {va vb : Value} {X Y : Nat} (ha : Big.NatV w va X) (hb : Big.NatV w vb Y) (c : X < Y) :
 Calls Tryz.prog 24 #[va, vb] w fun e w' => e = .returned vb ∧ Below w.heap.size w w' := by
 have C := bcmp_nat ha hb
 obtain ⟨k, hk, kc⟩ : ∃ k : Int, ord X Y = k ∧ k < 0 := ⟨_, rfl, by unfold ord; split <;> (try split) <;> omega⟩
 rw [hk] at C
 clear hk c ha hb
 go_enter Tryz.func24, Tryz.ntmps24
 go_wp2_with fail
 refine C.mono ?_
 rintro o w1 ⟨rfl, b1⟩
 have B1 : Hid (Below w.heap.size w w1) := b1
 clear b1 C
 go_wp2
 go_ret
 exact ⟨rfl, B1.out⟩
theorem gr_ge {w : World} {va vb : Value} {X Y : Nat} (ha : Big.NatV w va X) (hb : Big.NatV w vb Y) (c : ¬ X < Y) :
 Calls Tryz.prog 24 #[va, vb] w fun e w' => e = .returned va ∧ Below w.heap.size w w' := by
 have C := bcmp_nat ha hb
 obtain ⟨k, hk, kc⟩ : ∃ k : Int, ord X Y = k ∧ ¬ k < 0 := ⟨_, rfl, by unfold ord; split <;> (try split) <;> omega⟩
 rw [hk] at C
 clear hk c ha hb
 go_enter Tryz.func24, Tryz.ntmps24
 go_wp2_with fail
 refine C.mono ?_
 rintro o w1 ⟨rfl, b1⟩
 have B1 : Hid (Below w.heap.size w w1) := b1
 clear b1 C
 go_wp2
 go_ret
 exact ⟨rfl, B1.out⟩
theorem le_lt {w : World} {va vb : Value} {X Y : Nat} (ha : Big.NatV w va X) (hb : Big.NatV w vb Y) (c : X < Y) :
 Calls Tryz.prog 25 #[va, vb] w fun e w' => e = .returned va ∧ Below w.heap.size w w' := by
 have C := bcmp_nat ha hb
 obtain ⟨k, hk, kc⟩ : ∃ k : Int, ord X Y = k ∧ k < 0 := ⟨_, rfl, by unfold ord; split <;> (try split) <;> omega⟩
 rw [hk] at C
 clear hk c ha hb
 go_enter Tryz.func25, Tryz.ntmps25
 go_wp2_with fail
 refine C.mono ?_
 rintro o w1 ⟨rfl, b1⟩
 have B1 : Hid (Below w.heap.size w w1) := b1
 clear b1 C
 go_wp2
 go_ret
 exact ⟨rfl, B1.out⟩
theorem le_ge {w : World} {va vb : Value} {X Y : Nat} (ha : Big.NatV w va X) (hb : Big.NatV w vb Y) (c : ¬ X < Y) :
 Calls Tryz.prog 25 #[va, vb] w fun e w' => e = .returned vb ∧ Below w.heap.size w w' := by
 have C := bcmp_nat ha hb
 obtain ⟨k, hk, kc⟩ : ∃ k : Int, ord X Y = k ∧ ¬ k < 0 := ⟨_, rfl, by unfold ord; split <;> (try split) <;> omega⟩
 rw [hk] at C
 clear hk c ha hb
 go_enter Tryz.func25, Tryz.ntmps25
 go_wp2_with fail
 refine C.mono ?_
 rintro o w1 ⟨rfl, b1⟩
 have B1 : Hid (Below w.heap.size w w1) := b1
 clear b1 C
 go_wp2
 go_ret
 exact ⟨rfl, B1.out⟩
theorem Sf.fz {z : Int} {f T : Nat} {L : Int} {S I : Nat} (h : Sf z f T L S I) : Fz z S I f T L := by
 rcases h with ⟨a, b, c, d, e, g⟩ | ⟨a, b, c, d, e, g⟩
 · exact Or.inl ⟨a, e, g, b, c, d⟩
 · exact Or.inr ⟨a, e, g, b, c, d⟩
theorem value22 {z : Int} {f T : Nat} {L : Int} {S I b : Nat} (h : Fn z f T L S I b) (W : World) : Calls Tryz.prog 17 #[.int .u64 (b : Int), .int .i64 z] W fun x w' => ∃ (sg : Bool) (v1 v2 : Value) (N D : Nat), x = .returned (.tuple #[.bool sg, v1, v2, .int .i64 0]) ∧ NatV w' v1 N ∧ NatV w' v2 D ∧ Frc N D (mt f (mg S b)) (xp f L (mg S b)) ∧ Below W.heap.size W w' := by
 have hz := h.sf.fz
 have hm := h.fin
 have H := fun W => rfin_yes hz (b := b) h.lt hm W
 obtain ⟨p1, p2, p3⟩ := parts_lim hz hm
 rcases cl_cases I (mg S b) with ⟨q, k⟩ | ⟨_, _, k⟩ | ⟨_, q, k⟩ | ⟨q, k⟩
 · rw [k] at H
   unfold uM uE at H
   rw [k, if_neg (by decide), if_neg (by decide)] at H
   refine (rvalue_walk (w := W) (x2 := 0) (x3 := 0) (by decide) (by decide) (by decide) H).mono ?_
   rintro o w' ⟨v1, v2, N, D, rfl, n1, n2, h, hb⟩
   refine ⟨_, v1, v2, N, D, rfl, n1, n2, ?_, hb⟩
   rw [q, mt_nought]
   exact Frc.none _ h
 · rw [k] at H
   unfold uM uE at H
   rw [k, if_pos rfl, if_pos rfl] at H
   refine (rvalue_walk (w := W) (by omega) (by omega) (by omega) H).mono ?_
   rintro o w' ⟨v1, v2, N, D, rfl, n1, n2, h, hb⟩
   exact ⟨_, v1, v2, N, D, rfl, n1, n2, h, hb⟩
 · omega
 · omega
theorem wnat_fits {w : World} {v : Value} {X : Nat} (h : NatV w v X) : Fits 256 X := (of_nat h).2.1
theorem wnat_of {w : World} {v : Value} {X : Nat} (h : NatV w v X) : Calls Tryz.prog 22 #[v] w fun e w' => ∃ v', e = .returned v' ∧ Big.NatV w' v' X ∧ Below w.heap.size w w' := (of_nat h).2.2
theorem fn_err {b z n m : Int} (HP : ∀ W, Calls Tryz.prog 9 #[.int .u64 b, .int .i64 z, .int .i64 n] W fun e w' => e = .returned (.tuple #[.agg #[.string ⟨#[]⟩, .int .i64 0, .bool false], .iface 57 (.int .i64 m)]) ∧ Below W.heap.size W w')  (w : World) :
 Calls Tryz.prog 5 #[.int .u64 b, .int .i64 z, .int .i64 n] w fun x w' => x = .returned (.bool true) ∧ Below w.heap.size w w' := by
 have F0 : Hid (Below w.heap.size w w) := Below.refl _ _
 go_enter Tryz.func5, Tryz.ntmps5
 go_wp2_with fail
 all_goals first | (exfalso; omega) | skip
 refine (HP _).mono ?_
 rintro o1 w1 ⟨rfl, bb⟩
 have F1 : Hid (Below w.heap.size w w1) := (F0.out).trans (bb.mono (F0.out).size)
 clear F0
 clear bb
 have le0 := (F1.out).size
 have F2 : Hid (Bk (w1.alloc (.cells #[.string ⟨#[]⟩, .int .i64 0, .bool false] 24)) (w1.heap.size) [.string ⟨#[]⟩, .int .i64 0, .bool false] ∧ Below w.heap.size w (w1.alloc (.cells #[.string ⟨#[]⟩, .int .i64 0, .bool false] 24))) := ⟨Bk.new3 w1 (.string ⟨#[]⟩) (.int .i64 0) (.bool false) 24, (F1.out).alloc ((F1.out).size) _⟩
 clear F1
 go_upto_region 2 with fail
 generalize (w1.alloc (.cells #[.string ⟨#[]⟩, .int .i64 0, .bool false] 24)) = w2 at *
 have l1_0 := F2.out.1.lt
 have a1_0_0 := F2.out.1.cell 0 _ rfl
 have f1_0_0 := F2.out.1.fz 0
 have a1_0_1 := F2.out.1.cell 1 _ rfl
 have f1_0_1 := F2.out.1.fz 1
 have a1_0_2 := F2.out.1.cell 2 _ rfl
 have f1_0_2 := F2.out.1.fz 2
 go_wp2_with fail
 all_goals first | (exfalso; omega) | skip
 refine (works22 _).mono ?_
 rintro o3 w3 ⟨rfl, bb⟩
 have F3 : Hid (Bk w3 (w1.heap.size) [.string ⟨#[]⟩, .int .i64 0, .bool false] ∧ Below w.heap.size w w3) := ⟨(F2.out.1).step bb, (F2.out.2).trans (bb.mono (F2.out.2).size)⟩
 clear F2
 clear bb
 go_wp2
 go_ret
 exact ⟨rfl, F3.out.2⟩
theorem fn_far {b z n : Int} {v : ByteArray} {k : Int} (q1 : 400 < n) (HP : ∀ W, Calls Tryz.prog 9 #[.int .u64 b, .int .i64 z, .int .i64 n] W fun e w' => e = .returned (.tuple #[.agg #[.string v, .int .i64 k, .bool false], .nilIface]) ∧ Below W.heap.size W w')  (w : World) :
 Calls Tryz.prog 5 #[.int .u64 b, .int .i64 z, .int .i64 n] w fun x w' => x = .returned (.bool true) ∧ Below w.heap.size w w' := by
 have F0 : Hid (Below w.heap.size w w) := Below.refl _ _
 go_enter Tryz.func5, Tryz.ntmps5
 go_wp2_with fail
 all_goals first | (exfalso; omega) | skip
 refine (HP _).mono ?_
 rintro o1 w1 ⟨rfl, bb⟩
 have F1 : Hid (Below w.heap.size w w1) := (F0.out).trans (bb.mono (F0.out).size)
 clear F0
 clear bb
 have le0 := (F1.out).size
 have F2 : Hid (Bk (w1.alloc (.cells #[.string v, .int .i64 k, .bool false] 24)) (w1.heap.size) [.string v, .int .i64 k, .bool false] ∧ Below w.heap.size w (w1.alloc (.cells #[.string v, .int .i64 k, .bool false] 24))) := ⟨Bk.new3 w1 (.string v) (.int .i64 k) (.bool false) 24, (F1.out).alloc ((F1.out).size) _⟩
 clear F1
 go_upto_region 2 with fail
 generalize (w1.alloc (.cells #[.string v, .int .i64 k, .bool false] 24)) = w2 at *
 have l1_0 := F2.out.1.lt
 have a1_0_0 := F2.out.1.cell 0 _ rfl
 have f1_0_0 := F2.out.1.fz 0
 have a1_0_1 := F2.out.1.cell 1 _ rfl
 have f1_0_1 := F2.out.1.fz 1
 have a1_0_2 := F2.out.1.cell 2 _ rfl
 have f1_0_2 := F2.out.1.fz 2
 go_wp2_with fail
 all_goals first | (exfalso; omega) | skip
 refine (works22 _).mono ?_
 rintro o3 w3 ⟨rfl, bb⟩
 have F3 : Hid (Bk w3 (w1.heap.size) [.string v, .int .i64 k, .bool false] ∧ Below w.heap.size w w3) := ⟨(F2.out.1).step bb, (F2.out.2).trans (bb.mono (F2.out.2).size)⟩
 clear F2
 clear bb
 go_wp2
 go_ret
 exact ⟨rfl, F3.out.2⟩
structure Nr (E N D x y : Nat) (ev : Prop) : Prop where
 fN : Fits 256 N
 fD : Fits 256 D
 c : (if E * 2 * N * y < E * 2 * x * D then E * 2 * x * D - E * 2 * N * y else E * 2 * N * y - E * 2 * x * D) < D * y ∨ ((if E * 2 * N * y < E * 2 * x * D then E * 2 * x * D - E * 2 * N * y else E * 2 * N * y - E * 2 * x * D) = D * y ∧ ev)
theorem fits_two : Fits 2 2 := ⟨1, by decide, by unfold Big.B; decide⟩
theorem fn_lt {b z n k : Int} {v : ByteArray} {E X Y : Nat} {Q : Nat → Nat → Prop} {EV : Prop} (n0 : 0 ≤ n) (n1 : n ≤ 400) (k0 : -1200 ≤ k) (k1 : k ≤ 400) (v8 : v.size ≤ 800) (hp : (v.size : Int) - k ≤ n) (hDG : ∀ i, 48 ≤ dgt v i ∧ dgt v i ≤ 57) (hEV : EV → ∀ j : Nat, (j : Int) = k + n - 1 → j < v.size → (dgt v j - 48) % 2 = 0) (fe : Fits 60 E ∧ Fits 120 X ∧ Fits 60 Y) (hQ : ∀ N D, Q N D → Nr E N D X Y EV ∧ E * 2 * N * Y < E * 2 * X * D) (HP : ∀ W, Calls Tryz.prog 9 #[.int .u64 b, .int .i64 z, .int .i64 n] W fun e w' => e = .returned (.tuple #[.agg #[.string v, .int .i64 k, .bool false], .nilIface]) ∧ Below W.heap.size W w') (HV : ∀ W, Calls Tryz.prog 17 #[.int .u64 b, .int .i64 z] W fun x w' => ∃ (sg : Bool) (v1 v2 : Value) (N D : Nat), x = .returned (.tuple #[.bool sg, v1, v2, .int .i64 0]) ∧ NatV w' v1 N ∧ NatV w' v2 D ∧ Q N D ∧ Below W.heap.size W w') (HF : ∀ W, Calls Tryz.prog 18 #[.agg #[.string v, .int .i64 k, .bool false]] W fun e w' => ∃ v1 v2, e = .returned (.tuple #[v1, v2]) ∧ Big.NatV w' v1 X ∧ Big.NatV w' v2 Y ∧ Below W.heap.size W w') (HR : ∀ W, Calls Tryz.prog 20 #[.int .u64 10, .int .i64 n] W fun e w' => ∃ v, e = .returned v ∧ Big.NatV w' v E ∧ Below W.heap.size W w') (HT : ∀ W, Calls Tryz.prog 21 #[.int .u64 2] W fun e w' => ∃ v, e = .returned v ∧ Big.NatV w' v 2 ∧ Below W.heap.size W w') (w : World) :
 Calls Tryz.prog 5 #[.int .u64 b, .int .i64 z, .int .i64 n] w fun x w' => x = .returned (.bool true) ∧ Below w.heap.size w w' := by
 have F0 : Hid (Below w.heap.size w w) := Below.refl _ _
 go_enter Tryz.func5, Tryz.ntmps5
 go_wp2_with fail
 all_goals first | (exfalso; omega) | skip
 refine (HP _).mono ?_
 rintro o1 w1 ⟨rfl, bb⟩
 have F1 : Hid (Below w.heap.size w w1) := (F0.out).trans (bb.mono (F0.out).size)
 clear F0
 clear bb
 have le0 := (F1.out).size
 have F2 : Hid (Bk (w1.alloc (.cells #[.string v, .int .i64 k, .bool false] 24)) (w1.heap.size) [.string v, .int .i64 k, .bool false] ∧ Below w.heap.size w (w1.alloc (.cells #[.string v, .int .i64 k, .bool false] 24))) := ⟨Bk.new3 w1 (.string v) (.int .i64 k) (.bool false) 24, (F1.out).alloc ((F1.out).size) _⟩
 clear F1
 go_upto_region 2 with fail
 generalize (w1.alloc (.cells #[.string v, .int .i64 k, .bool false] 24)) = w2 at *
 have l1_0 := F2.out.1.lt
 have a1_0_0 := F2.out.1.cell 0 _ rfl
 have f1_0_0 := F2.out.1.fz 0
 have a1_0_1 := F2.out.1.cell 1 _ rfl
 have f1_0_1 := F2.out.1.fz 1
 have a1_0_2 := F2.out.1.cell 2 _ rfl
 have f1_0_2 := F2.out.1.fz 2
 have wk : IntKind.i64.wrap ((v.size : Int) - k) = (v.size : Int) - k := by rw [IntKind.wrap_i64]; omega
 have CC := HV w2
 go_wp2_with fail
 all_goals first | (exfalso; omega) | skip
 refine CC.mono ?_
 rintro o3 w3 ⟨sg, v1, v2, N, D, rfl, n1, n2, hq, bb⟩
 have F3 : Hid (Bk w3 (w1.heap.size) [.string v, .int .i64 k, .bool false] ∧ NatV w3 v1 (N) ∧ NatV w3 v2 (D) ∧ Below w.heap.size w w3) := ⟨(F2.out.1).step bb, n1, n2, (F2.out.2).trans (bb.mono (F2.out.2).size)⟩
 clear F2
 clear bb CC n1 n2
 clear l1_0 a1_0_0 f1_0_0 a1_0_1 f1_0_1 a1_0_2 f1_0_2
 have HNr : Hid (Nr E N D X Y EV ∧ E * 2 * N * Y < E * 2 * X * D) := ⟨(hQ N D hq).1, (hQ N D hq).2⟩
 clear hq hQ
 have FE : Hid (Fits 60 E ∧ Fits 120 X ∧ Fits 60 Y) := fe
 clear fe
 have l2_0 := F3.out.1.lt
 have a2_0_0 := F3.out.1.cell 0 _ rfl
 have f2_0_0 := F3.out.1.fz 0
 have a2_0_1 := F3.out.1.cell 1 _ rfl
 have f2_0_1 := F3.out.1.fz 1
 have a2_0_2 := F3.out.1.cell 2 _ rfl
 have f2_0_2 := F3.out.1.fz 2
 have CC := HF w3
 go_wp2_with fail
 all_goals first | (exfalso; omega) | skip
 refine CC.mono ?_
 rintro o4 w4 ⟨v3, v4, rfl, n1, n2, bb⟩
 have F4 : Hid (Bk w4 (w1.heap.size) [.string v, .int .i64 k, .bool false] ∧ NatV w4 v1 (N) ∧ NatV w4 v2 (D) ∧ Big.NatV w4 v3 (X) ∧ Big.NatV w4 v4 (Y) ∧ Below w.heap.size w w4) := ⟨(F3.out.1).step bb, (F3.out.2.1).below bb, (F3.out.2.2.1).below bb, n1, n2, (F3.out.2.2.2).trans (bb.mono (F3.out.2.2.2).size)⟩
 clear F3
 clear bb CC n1 n2
 clear l2_0 a2_0_0 f2_0_0 a2_0_1 f2_0_1 a2_0_2 f2_0_2
 have CC := HR w4
 go_wp2_with fail
 all_goals first | (exfalso; omega) | skip
 refine CC.mono ?_
 rintro o5 w5 ⟨v5, rfl, n1, bb⟩
 have F5 : Hid (Bk w5 (w1.heap.size) [.string v, .int .i64 k, .bool false] ∧ NatV w5 v1 (N) ∧ NatV w5 v2 (D) ∧ Big.NatV w5 v3 (X) ∧ Big.NatV w5 v4 (Y) ∧ Big.NatV w5 v5 (E) ∧ Below w.heap.size w w5) := ⟨(F4.out.1).step bb, (F4.out.2.1).below bb, (F4.out.2.2.1).below bb, (F4.out.2.2.2.1).below bb, (F4.out.2.2.2.2.1).below bb, n1, (F4.out.2.2.2.2.2).trans (bb.mono (F4.out.2.2.2.2.2).size)⟩
 clear F4
 clear bb CC n1
 have CC := HT w5
 go_wp2_with fail
 all_goals first | (exfalso; omega) | skip
 refine CC.mono ?_
 rintro o6 w6 ⟨v6, rfl, n1, bb⟩
 have F6 : Hid (Bk w6 (w1.heap.size) [.string v, .int .i64 k, .bool false] ∧ NatV w6 v1 (N) ∧ NatV w6 v2 (D) ∧ Big.NatV w6 v3 (X) ∧ Big.NatV w6 v4 (Y) ∧ Big.NatV w6 v5 (E) ∧ Big.NatV w6 v6 (2) ∧ Below w.heap.size w w6) := ⟨(F5.out.1).step bb, (F5.out.2.1).below bb, (F5.out.2.2.1).below bb, (F5.out.2.2.2.1).below bb, (F5.out.2.2.2.2.1).below bb, (F5.out.2.2.2.2.2.1).below bb, n1, (F5.out.2.2.2.2.2.2).trans (bb.mono (F5.out.2.2.2.2.2.2).size)⟩
 clear F5
 clear bb CC n1
 have CC := times_nat (F6.out.2.2.2.2.2.1) (F6.out.2.2.2.2.2.2.1) ((FE.out.1).up (by omega)) (((fits_two : Fits 2 2)).up (by omega))
 go_wp2_with fail
 all_goals first | (exfalso; omega) | skip
 refine CC.mono ?_
 rintro o7 w7 ⟨v7, rfl, n1, bb⟩
 have F7 : Hid (Bk w7 (w1.heap.size) [.string v, .int .i64 k, .bool false] ∧ NatV w7 v1 (N) ∧ NatV w7 v2 (D) ∧ Big.NatV w7 v3 (X) ∧ Big.NatV w7 v4 (Y) ∧ Big.NatV w7 v5 (E) ∧ Big.NatV w7 v6 (2) ∧ Big.NatV w7 v7 (E * 2) ∧ Below w.heap.size w w7) := ⟨(F6.out.1).step bb, (F6.out.2.1).below bb, (F6.out.2.2.1).below bb, (F6.out.2.2.2.1).below bb, (F6.out.2.2.2.2.1).below bb, (F6.out.2.2.2.2.2.1).below bb, (F6.out.2.2.2.2.2.2.1).below bb, n1, (F6.out.2.2.2.2.2.2.2).trans (bb.mono (F6.out.2.2.2.2.2.2.2).size)⟩
 clear F6
 clear bb CC n1
 have F8 : Hid (Bk w7 (w1.heap.size) [.string v, .int .i64 k, .bool false] ∧ NatV w7 v1 (N) ∧ NatV w7 v2 (D) ∧ Big.NatV w7 v3 (X) ∧ Big.NatV w7 v4 (Y) ∧ Big.NatV w7 v7 (E * 2) ∧ Below w.heap.size w w7) := ⟨F7.out.1, F7.out.2.1, F7.out.2.2.1, F7.out.2.2.2.1, F7.out.2.2.2.2.1, F7.out.2.2.2.2.2.2.2.1, F7.out.2.2.2.2.2.2.2.2⟩
 clear F7
 have CC := wnat_of (F8.out.2.1)
 go_wp2_with fail
 all_goals first | (exfalso; omega) | skip
 refine CC.mono ?_
 rintro o8 w8 ⟨v8, rfl, n1, bb⟩
 have F9 : Hid (Bk w8 (w1.heap.size) [.string v, .int .i64 k, .bool false] ∧ NatV w8 v1 (N) ∧ NatV w8 v2 (D) ∧ Big.NatV w8 v3 (X) ∧ Big.NatV w8 v4 (Y) ∧ Big.NatV w8 v7 (E * 2) ∧ Big.NatV w8 v8 (N) ∧ Below w.heap.size w w8) := ⟨(F8.out.1).step bb, (F8.out.2.1).below bb, (F8.out.2.2.1).below bb, (F8.out.2.2.2.1).below bb, (F8.out.2.2.2.2.1).below bb, (F8.out.2.2.2.2.2.1).below bb, n1, (F8.out.2.2.2.2.2.2).trans (bb.mono (F8.out.2.2.2.2.2.2).size)⟩
 clear F8
 clear bb CC n1
 have F10 : Hid (Bk w8 (w1.heap.size) [.string v, .int .i64 k, .bool false] ∧ NatV w8 v2 (D) ∧ Big.NatV w8 v3 (X) ∧ Big.NatV w8 v4 (Y) ∧ Big.NatV w8 v7 (E * 2) ∧ Big.NatV w8 v8 (N) ∧ Below w.heap.size w w8) := ⟨F9.out.1, F9.out.2.2.1, F9.out.2.2.2.1, F9.out.2.2.2.2.1, F9.out.2.2.2.2.2.1, F9.out.2.2.2.2.2.2.1, F9.out.2.2.2.2.2.2.2⟩
 clear F9
 have CC := times_nat (F10.out.2.2.2.2.1) (F10.out.2.2.2.2.2.1) ((Fits.mul (FE.out.1) ((fits_two : Fits 2 2))).up (by omega)) ((HNr.out.1.fN).up (by omega))
 go_wp2_with fail
 all_goals first | (exfalso; omega) | skip
 refine CC.mono ?_
 rintro o9 w9 ⟨v9, rfl, n1, bb⟩
 have F11 : Hid (Bk w9 (w1.heap.size) [.string v, .int .i64 k, .bool false] ∧ NatV w9 v2 (D) ∧ Big.NatV w9 v3 (X) ∧ Big.NatV w9 v4 (Y) ∧ Big.NatV w9 v7 (E * 2) ∧ Big.NatV w9 v8 (N) ∧ Big.NatV w9 v9 (E * 2 * N) ∧ Below w.heap.size w w9) := ⟨(F10.out.1).step bb, (F10.out.2.1).below bb, (F10.out.2.2.1).below bb, (F10.out.2.2.2.1).below bb, (F10.out.2.2.2.2.1).below bb, (F10.out.2.2.2.2.2.1).below bb, n1, (F10.out.2.2.2.2.2.2).trans (bb.mono (F10.out.2.2.2.2.2.2).size)⟩
 clear F10
 clear bb CC n1
 have F12 : Hid (Bk w9 (w1.heap.size) [.string v, .int .i64 k, .bool false] ∧ NatV w9 v2 (D) ∧ Big.NatV w9 v3 (X) ∧ Big.NatV w9 v4 (Y) ∧ Big.NatV w9 v7 (E * 2) ∧ Big.NatV w9 v9 (E * 2 * N) ∧ Below w.heap.size w w9) := ⟨F11.out.1, F11.out.2.1, F11.out.2.2.1, F11.out.2.2.2.1, F11.out.2.2.2.2.1, F11.out.2.2.2.2.2.2.1, F11.out.2.2.2.2.2.2.2⟩
 clear F11
 have CC := times_nat (F12.out.2.2.2.2.2.1) (F12.out.2.2.2.1) ((Fits.mul (Fits.mul (FE.out.1) ((fits_two : Fits 2 2))) (HNr.out.1.fN)).up (by omega)) ((FE.out.2.2).up (by omega))
 go_wp2_with fail
 all_goals first | (exfalso; omega) | skip
 refine CC.mono ?_
 rintro o10 w10 ⟨v10, rfl, n1, bb⟩
 have F13 : Hid (Bk w10 (w1.heap.size) [.string v, .int .i64 k, .bool false] ∧ NatV w10 v2 (D) ∧ Big.NatV w10 v3 (X) ∧ Big.NatV w10 v4 (Y) ∧ Big.NatV w10 v7 (E * 2) ∧ Big.NatV w10 v9 (E * 2 * N) ∧ Big.NatV w10 v10 (E * 2 * N * Y) ∧ Below w.heap.size w w10) := ⟨(F12.out.1).step bb, (F12.out.2.1).below bb, (F12.out.2.2.1).below bb, (F12.out.2.2.2.1).below bb, (F12.out.2.2.2.2.1).below bb, (F12.out.2.2.2.2.2.1).below bb, n1, (F12.out.2.2.2.2.2.2).trans (bb.mono (F12.out.2.2.2.2.2.2).size)⟩
 clear F12
 clear bb CC n1
 have F14 : Hid (Bk w10 (w1.heap.size) [.string v, .int .i64 k, .bool false] ∧ NatV w10 v2 (D) ∧ Big.NatV w10 v3 (X) ∧ Big.NatV w10 v4 (Y) ∧ Big.NatV w10 v7 (E * 2) ∧ Big.NatV w10 v10 (E * 2 * N * Y) ∧ Below w.heap.size w w10) := ⟨F13.out.1, F13.out.2.1, F13.out.2.2.1, F13.out.2.2.2.1, F13.out.2.2.2.2.1, F13.out.2.2.2.2.2.2.1, F13.out.2.2.2.2.2.2.2⟩
 clear F13
 have CC := times_nat (F14.out.2.2.2.2.1) (F14.out.2.2.1) ((Fits.mul (FE.out.1) ((fits_two : Fits 2 2))).up (by omega)) ((FE.out.2.1).up (by omega))
 go_wp2_with fail
 all_goals first | (exfalso; omega) | skip
 refine CC.mono ?_
 rintro o11 w11 ⟨v11, rfl, n1, bb⟩
 have F15 : Hid (Bk w11 (w1.heap.size) [.string v, .int .i64 k, .bool false] ∧ NatV w11 v2 (D) ∧ Big.NatV w11 v3 (X) ∧ Big.NatV w11 v4 (Y) ∧ Big.NatV w11 v7 (E * 2) ∧ Big.NatV w11 v10 (E * 2 * N * Y) ∧ Big.NatV w11 v11 (E * 2 * X) ∧ Below w.heap.size w w11) := ⟨(F14.out.1).step bb, (F14.out.2.1).below bb, (F14.out.2.2.1).below bb, (F14.out.2.2.2.1).below bb, (F14.out.2.2.2.2.1).below bb, (F14.out.2.2.2.2.2.1).below bb, n1, (F14.out.2.2.2.2.2.2).trans (bb.mono (F14.out.2.2.2.2.2.2).size)⟩
 clear F14
 clear bb CC n1
 have F16 : Hid (Bk w11 (w1.heap.size) [.string v, .int .i64 k, .bool false] ∧ NatV w11 v2 (D) ∧ Big.NatV w11 v4 (Y) ∧ Big.NatV w11 v10 (E * 2 * N * Y) ∧ Big.NatV w11 v11 (E * 2 * X) ∧ Below w.heap.size w w11) := ⟨F15.out.1, F15.out.2.1, F15.out.2.2.2.1, F15.out.2.2.2.2.2.1, F15.out.2.2.2.2.2.2.1, F15.out.2.2.2.2.2.2.2⟩
 clear F15
 have CC := wnat_of (F16.out.2.1)
 go_wp2_with fail
 all_goals first | (exfalso; omega) | skip
 refine CC.mono ?_
 rintro o12 w12 ⟨v12, rfl, n1, bb⟩
 have F17 : Hid (Bk w12 (w1.heap.size) [.string v, .int .i64 k, .bool false] ∧ NatV w12 v2 (D) ∧ Big.NatV w12 v4 (Y) ∧ Big.NatV w12 v10 (E * 2 * N * Y) ∧ Big.NatV w12 v11 (E * 2 * X) ∧ Big.NatV w12 v12 (D) ∧ Below w.heap.size w w12) := ⟨(F16.out.1).step bb, (F16.out.2.1).below bb, (F16.out.2.2.1).below bb, (F16.out.2.2.2.1).below bb, (F16.out.2.2.2.2.1).below bb, n1, (F16.out.2.2.2.2.2).trans (bb.mono (F16.out.2.2.2.2.2).size)⟩
 clear F16
 clear bb CC n1
 have CC := times_nat (F17.out.2.2.2.2.1) (F17.out.2.2.2.2.2.1) ((Fits.mul (Fits.mul (FE.out.1) ((fits_two : Fits 2 2))) (FE.out.2.1)).up (by omega)) ((HNr.out.1.fD).up (by omega))
 go_wp2_with fail
 all_goals first | (exfalso; omega) | skip
 refine CC.mono ?_
 rintro o13 w13 ⟨v13, rfl, n1, bb⟩
 have F18 : Hid (Bk w13 (w1.heap.size) [.string v, .int .i64 k, .bool false] ∧ NatV w13 v2 (D) ∧ Big.NatV w13 v4 (Y) ∧ Big.NatV w13 v10 (E * 2 * N * Y) ∧ Big.NatV w13 v11 (E * 2 * X) ∧ Big.NatV w13 v12 (D) ∧ Big.NatV w13 v13 (E * 2 * X * D) ∧ Below w.heap.size w w13) := ⟨(F17.out.1).step bb, (F17.out.2.1).below bb, (F17.out.2.2.1).below bb, (F17.out.2.2.2.1).below bb, (F17.out.2.2.2.2.1).below bb, (F17.out.2.2.2.2.2.1).below bb, n1, (F17.out.2.2.2.2.2.2).trans (bb.mono (F17.out.2.2.2.2.2.2).size)⟩
 clear F17
 clear bb CC n1
 have F19 : Hid (Bk w13 (w1.heap.size) [.string v, .int .i64 k, .bool false] ∧ NatV w13 v2 (D) ∧ Big.NatV w13 v4 (Y) ∧ Big.NatV w13 v10 (E * 2 * N * Y) ∧ Big.NatV w13 v13 (E * 2 * X * D) ∧ Below w.heap.size w w13) := ⟨F18.out.1, F18.out.2.1, F18.out.2.2.1, F18.out.2.2.2.1, F18.out.2.2.2.2.2.2.1, F18.out.2.2.2.2.2.2.2⟩
 clear F18
 have CC := wnat_of (F19.out.2.1)
 go_wp2_with fail
 all_goals first | (exfalso; omega) | skip
 refine CC.mono ?_
 rintro o14 w14 ⟨v14, rfl, n1, bb⟩
 have F20 : Hid (Bk w14 (w1.heap.size) [.string v, .int .i64 k, .bool false] ∧ NatV w14 v2 (D) ∧ Big.NatV w14 v4 (Y) ∧ Big.NatV w14 v10 (E * 2 * N * Y) ∧ Big.NatV w14 v13 (E * 2 * X * D) ∧ Big.NatV w14 v14 (D) ∧ Below w.heap.size w w14) := ⟨(F19.out.1).step bb, (F19.out.2.1).below bb, (F19.out.2.2.1).below bb, (F19.out.2.2.2.1).below bb, (F19.out.2.2.2.2.1).below bb, n1, (F19.out.2.2.2.2.2).trans (bb.mono (F19.out.2.2.2.2.2).size)⟩
 clear F19
 clear bb CC n1
 have F21 : Hid (Bk w14 (w1.heap.size) [.string v, .int .i64 k, .bool false] ∧ Big.NatV w14 v4 (Y) ∧ Big.NatV w14 v10 (E * 2 * N * Y) ∧ Big.NatV w14 v13 (E * 2 * X * D) ∧ Big.NatV w14 v14 (D) ∧ Below w.heap.size w w14) := ⟨F20.out.1, F20.out.2.2.1, F20.out.2.2.2.1, F20.out.2.2.2.2.1, F20.out.2.2.2.2.2.1, F20.out.2.2.2.2.2.2⟩
 clear F20
 have CC := times_nat (F21.out.2.2.2.2.1) (F21.out.2.1) ((HNr.out.1.fD).up (by omega)) ((FE.out.2.2).up (by omega))
 go_wp2_with fail
 all_goals first | (exfalso; omega) | skip
 refine CC.mono ?_
 rintro o15 w15 ⟨v15, rfl, n1, bb⟩
 have F22 : Hid (Bk w15 (w1.heap.size) [.string v, .int .i64 k, .bool false] ∧ Big.NatV w15 v4 (Y) ∧ Big.NatV w15 v10 (E * 2 * N * Y) ∧ Big.NatV w15 v13 (E * 2 * X * D) ∧ Big.NatV w15 v14 (D) ∧ Big.NatV w15 v15 (D * Y) ∧ Below w.heap.size w w15) := ⟨(F21.out.1).step bb, (F21.out.2.1).below bb, (F21.out.2.2.1).below bb, (F21.out.2.2.2.1).below bb, (F21.out.2.2.2.2.1).below bb, n1, (F21.out.2.2.2.2.2).trans (bb.mono (F21.out.2.2.2.2.2).size)⟩
 clear F21
 clear bb CC n1
 have F23 : Hid (Bk w15 (w1.heap.size) [.string v, .int .i64 k, .bool false] ∧ Big.NatV w15 v10 (E * 2 * N * Y) ∧ Big.NatV w15 v13 (E * 2 * X * D) ∧ Big.NatV w15 v15 (D * Y) ∧ Below w.heap.size w w15) := ⟨F22.out.1, F22.out.2.2.1, F22.out.2.2.2.1, F22.out.2.2.2.2.2.1, F22.out.2.2.2.2.2.2⟩
 clear F22
 have CC := gr_lt (F23.out.2.1) (F23.out.2.2.1) HNr.out.2
 go_wp2_with fail
 all_goals first | (exfalso; omega) | skip
 refine CC.mono ?_
 rintro o16 w16 ⟨rfl, bb⟩
 have F24 : Hid (Bk w16 (w1.heap.size) [.string v, .int .i64 k, .bool false] ∧ Big.NatV w16 v10 (E * 2 * N * Y) ∧ Big.NatV w16 v13 (E * 2 * X * D) ∧ Big.NatV w16 v15 (D * Y) ∧ Below w.heap.size w w16) := ⟨(F23.out.1).step bb, (F23.out.2.1).below bb, (F23.out.2.2.1).below bb, (F23.out.2.2.2.1).below bb, (F23.out.2.2.2.2).trans (bb.mono (F23.out.2.2.2.2).size)⟩
 clear F23
 clear bb CC
 have CC := le_lt (F24.out.2.1) (F24.out.2.2.1) HNr.out.2
 go_wp2_with fail
 all_goals first | (exfalso; omega) | skip
 refine CC.mono ?_
 rintro o17 w17 ⟨rfl, bb⟩
 have F25 : Hid (Bk w17 (w1.heap.size) [.string v, .int .i64 k, .bool false] ∧ Big.NatV w17 v10 (E * 2 * N * Y) ∧ Big.NatV w17 v13 (E * 2 * X * D) ∧ Big.NatV w17 v15 (D * Y) ∧ Below w.heap.size w w17) := ⟨(F24.out.1).step bb, (F24.out.2.1).below bb, (F24.out.2.2.1).below bb, (F24.out.2.2.2.1).below bb, (F24.out.2.2.2.2).trans (bb.mono (F24.out.2.2.2.2).size)⟩
 clear F24
 clear bb CC
 have CC := minus_nat (F25.out.2.2.1) (F25.out.2.1) ((Fits.mul (Fits.mul (Fits.mul (FE.out.1) ((fits_two : Fits 2 2))) (FE.out.2.1)) (HNr.out.1.fD)).up (by omega)) (Nat.le_of_lt HNr.out.2)
 go_wp2_with fail
 all_goals first | (exfalso; omega) | skip
 refine CC.mono ?_
 rintro o18 w18 ⟨v16, rfl, n1, bb⟩
 have F26 : Hid (Bk w18 (w1.heap.size) [.string v, .int .i64 k, .bool false] ∧ Big.NatV w18 v10 (E * 2 * N * Y) ∧ Big.NatV w18 v13 (E * 2 * X * D) ∧ Big.NatV w18 v15 (D * Y) ∧ Big.NatV w18 v16 (E * 2 * X * D - E * 2 * N * Y) ∧ Below w.heap.size w w18) := ⟨(F25.out.1).step bb, (F25.out.2.1).below bb, (F25.out.2.2.1).below bb, (F25.out.2.2.2.1).below bb, n1, (F25.out.2.2.2.2).trans (bb.mono (F25.out.2.2.2.2).size)⟩
 clear F25
 clear bb CC n1
 have F27 : Hid (Bk w18 (w1.heap.size) [.string v, .int .i64 k, .bool false] ∧ Big.NatV w18 v15 (D * Y) ∧ Big.NatV w18 v16 (E * 2 * X * D - E * 2 * N * Y) ∧ Below w.heap.size w w18) := ⟨F26.out.1, F26.out.2.2.2.1, F26.out.2.2.2.2.1, F26.out.2.2.2.2.2⟩
 clear F26
 obtain ⟨c, hc, ce⟩ : ∃ c : Int, ord (E * 2 * X * D - E * 2 * N * Y) (D * Y) = c ∧ (c = -1 ∨ (c = 0 ∧ EV)) := by
  refine ⟨_, rfl, ?_⟩
  have q := HNr.out.1.c
  rw [if_pos HNr.out.2] at q
  rcases q with q | ⟨q, ev⟩
  · exact Or.inl (ord_lt q)
  · exact Or.inr ⟨ord_eq q, ev⟩
 have CB := bcmp_nat (F27.out.2.2.1) (F27.out.2.1)
 rw [hc] at CB
 clear hc HNr FE
 go_wp2_with fail
 refine CB.mono ?_
 rintro o19 w19 ⟨rfl, bb⟩
 have F28 : Hid (Bk w19 (w1.heap.size) [.string v, .int .i64 k, .bool false] ∧ Big.NatV w19 v15 (D * Y) ∧ Big.NatV w19 v16 (E * 2 * X * D - E * 2 * N * Y) ∧ Below w.heap.size w w19) := ⟨(F27.out.1).step bb, (F27.out.2.1).below bb, (F27.out.2.2.1).below bb, (F27.out.2.2.2).trans (bb.mono (F27.out.2.2.2).size)⟩
 clear F27
 clear bb CB
 have F29 : Hid (Bk w19 (w1.heap.size) [.string v, .int .i64 k, .bool false] ∧ Below w.heap.size w w19) := ⟨F28.out.1, F28.out.2.2.2⟩
 clear F28
 have l3_0 := F29.out.1.lt
 have a3_0_0 := F29.out.1.cell 0 _ rfl
 have f3_0_0 := F29.out.1.fz 0
 have a3_0_1 := F29.out.1.cell 1 _ rfl
 have f3_0_1 := F29.out.1.fz 1
 have a3_0_2 := F29.out.1.cell 2 _ rfl
 have f3_0_2 := F29.out.1.fz 2
 have wk1 : IntKind.i64.wrap (k + n) = k + n := by rw [IntKind.wrap_i64]; omega
 have wk2 : IntKind.i64.wrap (k + n - 1) = k + n - 1 := by rw [IntKind.wrap_i64]; omega
 rcases (by omega : k + n - 1 < 0 ∨ (0 ≤ k + n - 1 ∧ (v.size : Int) ≤ k + n - 1) ∨ (0 ≤ k + n - 1 ∧ k + n - 1 < (v.size : Int))) with j0 | ⟨j0, j1⟩ | ⟨j0, j1⟩
 · rcases ce with ce | ce
   · subst ce
     go_wp2_with fail
     all_goals first | (exfalso; omega) | skip
     refine (works22 _).mono ?_
     rintro o20 w20 ⟨rfl, bb⟩
     have F30 : Hid (Bk w20 (w1.heap.size) [.string v, .int .i64 k, .bool false] ∧ Below w.heap.size w w20) := ⟨(F29.out.1).step bb, (F29.out.2).trans (bb.mono (F29.out.2).size)⟩
     clear F29
     clear bb
     go_wp2
     go_ret
     exact ⟨rfl, F30.out.2⟩
   · obtain ⟨ce, ev⟩ := ce
     subst ce
     go_wp2_with fail
     all_goals first | (exfalso; omega) | skip
     refine (works22 _).mono ?_
     rintro o20 w20 ⟨rfl, bb⟩
     have F30 : Hid (Bk w20 (w1.heap.size) [.string v, .int .i64 k, .bool false] ∧ Below w.heap.size w w20) := ⟨(F29.out.1).step bb, (F29.out.2).trans (bb.mono (F29.out.2).size)⟩
     clear F29
     clear bb
     go_wp2
     go_ret
     exact ⟨rfl, F30.out.2⟩
 · rcases ce with ce | ce
   · subst ce
     go_wp2_with fail
     all_goals first | (exfalso; omega) | skip
     refine (works22 _).mono ?_
     rintro o20 w20 ⟨rfl, bb⟩
     have F30 : Hid (Bk w20 (w1.heap.size) [.string v, .int .i64 k, .bool false] ∧ Below w.heap.size w w20) := ⟨(F29.out.1).step bb, (F29.out.2).trans (bb.mono (F29.out.2).size)⟩
     clear F29
     clear bb
     go_wp2
     go_ret
     exact ⟨rfl, F30.out.2⟩
   · obtain ⟨ce, ev⟩ := ce
     subst ce
     go_wp2_with fail
     all_goals first | (exfalso; omega) | skip
     refine (works22 _).mono ?_
     rintro o20 w20 ⟨rfl, bb⟩
     have F30 : Hid (Bk w20 (w1.heap.size) [.string v, .int .i64 k, .bool false] ∧ Below w.heap.size w w20) := ⟨(F29.out.1).step bb, (F29.out.2).trans (bb.mono (F29.out.2).size)⟩
     clear F29
     clear bb
     go_wp2
     go_ret
     exact ⟨rfl, F30.out.2⟩
 · rcases ce with ce | ce
   · subst ce
     obtain ⟨j, hj⟩ : ∃ j : Nat, k + n - 1 = (j : Int) := ⟨(k + n - 1).toNat, by omega⟩
     rw [hj] at wk2 j0 j1
     have jl : j < v.size := by omega
     have ij : ((j : Int)).toNat = j := by omega
     have jn : ¬ (v.size : Int) ≤ (j : Int) := by omega
     have dr := hDG j
     have dl := dgt_lt jl
     rw [dl] at dr
     have wu : IntKind.u8.wrap (((v[j]'jl).toNat : Int) - 48) = ((v[j]'jl).toNat : Int) - 48 := by rw [IntKind.wrap_u8]; omega
     go_wp2_with fail
     all_goals first | (exfalso; omega) | skip
     refine (works22 _).mono ?_
     rintro o20 w20 ⟨rfl, bb⟩
     have F30 : Hid (Bk w20 (w1.heap.size) [.string v, .int .i64 k, .bool false] ∧ Below w.heap.size w w20) := ⟨(F29.out.1).step bb, (F29.out.2).trans (bb.mono (F29.out.2).size)⟩
     clear F29
     clear bb
     go_wp2
     go_ret
     exact ⟨rfl, F30.out.2⟩
   · obtain ⟨ce, ev⟩ := ce
     subst ce
     obtain ⟨j, hj⟩ : ∃ j : Nat, k + n - 1 = (j : Int) := ⟨(k + n - 1).toNat, by omega⟩
     rw [hj] at wk2 j0 j1
     have jl : j < v.size := by omega
     have ij : ((j : Int)).toNat = j := by omega
     have jn : ¬ (v.size : Int) ≤ (j : Int) := by omega
     have dr := hDG j
     have dl := dgt_lt jl
     rw [dl] at dr
     have wu : IntKind.u8.wrap (((v[j]'jl).toNat : Int) - 48) = ((v[j]'jl).toNat : Int) - 48 := by rw [IntKind.wrap_u8]; omega
     have pe : ((((v[j]'jl).toNat : Int) - 48).tmod 2 == 0) = true := by
      have q := hEV ev j (by omega) jl
      rw [dl] at q
      rw [Int.tmod_eq_emod_of_nonneg (by omega)]
      exact beq_iff_eq.mpr (by omega)
     have pf : ((((v[j]'jl).toNat : Int) - 48) % 2 == 0) = true := by
      rw [Int.tmod_eq_emod_of_nonneg (by omega)] at pe
      exact pe
     go_wp2_with fail
     all_goals first | (exfalso; omega) | skip
     refine (works22 _).mono ?_
     rintro o20 w20 ⟨rfl, bb⟩
     have F30 : Hid (Bk w20 (w1.heap.size) [.string v, .int .i64 k, .bool false] ∧ Below w.heap.size w w20) := ⟨(F29.out.1).step bb, (F29.out.2).trans (bb.mono (F29.out.2).size)⟩
     clear F29
     clear bb
     go_wp2
     go_ret
     exact ⟨rfl, F30.out.2⟩
theorem fn_ge {b z n k : Int} {v : ByteArray} {E X Y : Nat} {Q : Nat → Nat → Prop} {EV : Prop} (n0 : 0 ≤ n) (n1 : n ≤ 400) (k0 : -1200 ≤ k) (k1 : k ≤ 400) (v8 : v.size ≤ 800) (hp : (v.size : Int) - k ≤ n) (hDG : ∀ i, 48 ≤ dgt v i ∧ dgt v i ≤ 57) (hEV : EV → ∀ j : Nat, (j : Int) = k + n - 1 → j < v.size → (dgt v j - 48) % 2 = 0) (fe : Fits 60 E ∧ Fits 120 X ∧ Fits 60 Y) (hQ : ∀ N D, Q N D → Nr E N D X Y EV ∧ ¬ E * 2 * N * Y < E * 2 * X * D) (HP : ∀ W, Calls Tryz.prog 9 #[.int .u64 b, .int .i64 z, .int .i64 n] W fun e w' => e = .returned (.tuple #[.agg #[.string v, .int .i64 k, .bool false], .nilIface]) ∧ Below W.heap.size W w') (HV : ∀ W, Calls Tryz.prog 17 #[.int .u64 b, .int .i64 z] W fun x w' => ∃ (sg : Bool) (v1 v2 : Value) (N D : Nat), x = .returned (.tuple #[.bool sg, v1, v2, .int .i64 0]) ∧ NatV w' v1 N ∧ NatV w' v2 D ∧ Q N D ∧ Below W.heap.size W w') (HF : ∀ W, Calls Tryz.prog 18 #[.agg #[.string v, .int .i64 k, .bool false]] W fun e w' => ∃ v1 v2, e = .returned (.tuple #[v1, v2]) ∧ Big.NatV w' v1 X ∧ Big.NatV w' v2 Y ∧ Below W.heap.size W w') (HR : ∀ W, Calls Tryz.prog 20 #[.int .u64 10, .int .i64 n] W fun e w' => ∃ v, e = .returned v ∧ Big.NatV w' v E ∧ Below W.heap.size W w') (HT : ∀ W, Calls Tryz.prog 21 #[.int .u64 2] W fun e w' => ∃ v, e = .returned v ∧ Big.NatV w' v 2 ∧ Below W.heap.size W w') (w : World) :
 Calls Tryz.prog 5 #[.int .u64 b, .int .i64 z, .int .i64 n] w fun x w' => x = .returned (.bool true) ∧ Below w.heap.size w w' := by
 have F0 : Hid (Below w.heap.size w w) := Below.refl _ _
 go_enter Tryz.func5, Tryz.ntmps5
 go_wp2_with fail
 all_goals first | (exfalso; omega) | skip
 refine (HP _).mono ?_
 rintro o1 w1 ⟨rfl, bb⟩
 have F1 : Hid (Below w.heap.size w w1) := (F0.out).trans (bb.mono (F0.out).size)
 clear F0
 clear bb
 have le0 := (F1.out).size
 have F2 : Hid (Bk (w1.alloc (.cells #[.string v, .int .i64 k, .bool false] 24)) (w1.heap.size) [.string v, .int .i64 k, .bool false] ∧ Below w.heap.size w (w1.alloc (.cells #[.string v, .int .i64 k, .bool false] 24))) := ⟨Bk.new3 w1 (.string v) (.int .i64 k) (.bool false) 24, (F1.out).alloc ((F1.out).size) _⟩
 clear F1
 go_upto_region 2 with fail
 generalize (w1.alloc (.cells #[.string v, .int .i64 k, .bool false] 24)) = w2 at *
 have l1_0 := F2.out.1.lt
 have a1_0_0 := F2.out.1.cell 0 _ rfl
 have f1_0_0 := F2.out.1.fz 0
 have a1_0_1 := F2.out.1.cell 1 _ rfl
 have f1_0_1 := F2.out.1.fz 1
 have a1_0_2 := F2.out.1.cell 2 _ rfl
 have f1_0_2 := F2.out.1.fz 2
 have wk : IntKind.i64.wrap ((v.size : Int) - k) = (v.size : Int) - k := by rw [IntKind.wrap_i64]; omega
 have CC := HV w2
 go_wp2_with fail
 all_goals first | (exfalso; omega) | skip
 refine CC.mono ?_
 rintro o3 w3 ⟨sg, v1, v2, N, D, rfl, n1, n2, hq, bb⟩
 have F3 : Hid (Bk w3 (w1.heap.size) [.string v, .int .i64 k, .bool false] ∧ NatV w3 v1 (N) ∧ NatV w3 v2 (D) ∧ Below w.heap.size w w3) := ⟨(F2.out.1).step bb, n1, n2, (F2.out.2).trans (bb.mono (F2.out.2).size)⟩
 clear F2
 clear bb CC n1 n2
 clear l1_0 a1_0_0 f1_0_0 a1_0_1 f1_0_1 a1_0_2 f1_0_2
 have HNr : Hid (Nr E N D X Y EV ∧ ¬ E * 2 * N * Y < E * 2 * X * D) := ⟨(hQ N D hq).1, (hQ N D hq).2⟩
 clear hq hQ
 have FE : Hid (Fits 60 E ∧ Fits 120 X ∧ Fits 60 Y) := fe
 clear fe
 have l2_0 := F3.out.1.lt
 have a2_0_0 := F3.out.1.cell 0 _ rfl
 have f2_0_0 := F3.out.1.fz 0
 have a2_0_1 := F3.out.1.cell 1 _ rfl
 have f2_0_1 := F3.out.1.fz 1
 have a2_0_2 := F3.out.1.cell 2 _ rfl
 have f2_0_2 := F3.out.1.fz 2
 have CC := HF w3
 go_wp2_with fail
 all_goals first | (exfalso; omega) | skip
 refine CC.mono ?_
 rintro o4 w4 ⟨v3, v4, rfl, n1, n2, bb⟩
 have F4 : Hid (Bk w4 (w1.heap.size) [.string v, .int .i64 k, .bool false] ∧ NatV w4 v1 (N) ∧ NatV w4 v2 (D) ∧ Big.NatV w4 v3 (X) ∧ Big.NatV w4 v4 (Y) ∧ Below w.heap.size w w4) := ⟨(F3.out.1).step bb, (F3.out.2.1).below bb, (F3.out.2.2.1).below bb, n1, n2, (F3.out.2.2.2).trans (bb.mono (F3.out.2.2.2).size)⟩
 clear F3
 clear bb CC n1 n2
 clear l2_0 a2_0_0 f2_0_0 a2_0_1 f2_0_1 a2_0_2 f2_0_2
 have CC := HR w4
 go_wp2_with fail
 all_goals first | (exfalso; omega) | skip
 refine CC.mono ?_
 rintro o5 w5 ⟨v5, rfl, n1, bb⟩
 have F5 : Hid (Bk w5 (w1.heap.size) [.string v, .int .i64 k, .bool false] ∧ NatV w5 v1 (N) ∧ NatV w5 v2 (D) ∧ Big.NatV w5 v3 (X) ∧ Big.NatV w5 v4 (Y) ∧ Big.NatV w5 v5 (E) ∧ Below w.heap.size w w5) := ⟨(F4.out.1).step bb, (F4.out.2.1).below bb, (F4.out.2.2.1).below bb, (F4.out.2.2.2.1).below bb, (F4.out.2.2.2.2.1).below bb, n1, (F4.out.2.2.2.2.2).trans (bb.mono (F4.out.2.2.2.2.2).size)⟩
 clear F4
 clear bb CC n1
 have CC := HT w5
 go_wp2_with fail
 all_goals first | (exfalso; omega) | skip
 refine CC.mono ?_
 rintro o6 w6 ⟨v6, rfl, n1, bb⟩
 have F6 : Hid (Bk w6 (w1.heap.size) [.string v, .int .i64 k, .bool false] ∧ NatV w6 v1 (N) ∧ NatV w6 v2 (D) ∧ Big.NatV w6 v3 (X) ∧ Big.NatV w6 v4 (Y) ∧ Big.NatV w6 v5 (E) ∧ Big.NatV w6 v6 (2) ∧ Below w.heap.size w w6) := ⟨(F5.out.1).step bb, (F5.out.2.1).below bb, (F5.out.2.2.1).below bb, (F5.out.2.2.2.1).below bb, (F5.out.2.2.2.2.1).below bb, (F5.out.2.2.2.2.2.1).below bb, n1, (F5.out.2.2.2.2.2.2).trans (bb.mono (F5.out.2.2.2.2.2.2).size)⟩
 clear F5
 clear bb CC n1
 have CC := times_nat (F6.out.2.2.2.2.2.1) (F6.out.2.2.2.2.2.2.1) ((FE.out.1).up (by omega)) (((fits_two : Fits 2 2)).up (by omega))
 go_wp2_with fail
 all_goals first | (exfalso; omega) | skip
 refine CC.mono ?_
 rintro o7 w7 ⟨v7, rfl, n1, bb⟩
 have F7 : Hid (Bk w7 (w1.heap.size) [.string v, .int .i64 k, .bool false] ∧ NatV w7 v1 (N) ∧ NatV w7 v2 (D) ∧ Big.NatV w7 v3 (X) ∧ Big.NatV w7 v4 (Y) ∧ Big.NatV w7 v5 (E) ∧ Big.NatV w7 v6 (2) ∧ Big.NatV w7 v7 (E * 2) ∧ Below w.heap.size w w7) := ⟨(F6.out.1).step bb, (F6.out.2.1).below bb, (F6.out.2.2.1).below bb, (F6.out.2.2.2.1).below bb, (F6.out.2.2.2.2.1).below bb, (F6.out.2.2.2.2.2.1).below bb, (F6.out.2.2.2.2.2.2.1).below bb, n1, (F6.out.2.2.2.2.2.2.2).trans (bb.mono (F6.out.2.2.2.2.2.2.2).size)⟩
 clear F6
 clear bb CC n1
 have F8 : Hid (Bk w7 (w1.heap.size) [.string v, .int .i64 k, .bool false] ∧ NatV w7 v1 (N) ∧ NatV w7 v2 (D) ∧ Big.NatV w7 v3 (X) ∧ Big.NatV w7 v4 (Y) ∧ Big.NatV w7 v7 (E * 2) ∧ Below w.heap.size w w7) := ⟨F7.out.1, F7.out.2.1, F7.out.2.2.1, F7.out.2.2.2.1, F7.out.2.2.2.2.1, F7.out.2.2.2.2.2.2.2.1, F7.out.2.2.2.2.2.2.2.2⟩
 clear F7
 have CC := wnat_of (F8.out.2.1)
 go_wp2_with fail
 all_goals first | (exfalso; omega) | skip
 refine CC.mono ?_
 rintro o8 w8 ⟨v8, rfl, n1, bb⟩
 have F9 : Hid (Bk w8 (w1.heap.size) [.string v, .int .i64 k, .bool false] ∧ NatV w8 v1 (N) ∧ NatV w8 v2 (D) ∧ Big.NatV w8 v3 (X) ∧ Big.NatV w8 v4 (Y) ∧ Big.NatV w8 v7 (E * 2) ∧ Big.NatV w8 v8 (N) ∧ Below w.heap.size w w8) := ⟨(F8.out.1).step bb, (F8.out.2.1).below bb, (F8.out.2.2.1).below bb, (F8.out.2.2.2.1).below bb, (F8.out.2.2.2.2.1).below bb, (F8.out.2.2.2.2.2.1).below bb, n1, (F8.out.2.2.2.2.2.2).trans (bb.mono (F8.out.2.2.2.2.2.2).size)⟩
 clear F8
 clear bb CC n1
 have F10 : Hid (Bk w8 (w1.heap.size) [.string v, .int .i64 k, .bool false] ∧ NatV w8 v2 (D) ∧ Big.NatV w8 v3 (X) ∧ Big.NatV w8 v4 (Y) ∧ Big.NatV w8 v7 (E * 2) ∧ Big.NatV w8 v8 (N) ∧ Below w.heap.size w w8) := ⟨F9.out.1, F9.out.2.2.1, F9.out.2.2.2.1, F9.out.2.2.2.2.1, F9.out.2.2.2.2.2.1, F9.out.2.2.2.2.2.2.1, F9.out.2.2.2.2.2.2.2⟩
 clear F9
 have CC := times_nat (F10.out.2.2.2.2.1) (F10.out.2.2.2.2.2.1) ((Fits.mul (FE.out.1) ((fits_two : Fits 2 2))).up (by omega)) ((HNr.out.1.fN).up (by omega))
 go_wp2_with fail
 all_goals first | (exfalso; omega) | skip
 refine CC.mono ?_
 rintro o9 w9 ⟨v9, rfl, n1, bb⟩
 have F11 : Hid (Bk w9 (w1.heap.size) [.string v, .int .i64 k, .bool false] ∧ NatV w9 v2 (D) ∧ Big.NatV w9 v3 (X) ∧ Big.NatV w9 v4 (Y) ∧ Big.NatV w9 v7 (E * 2) ∧ Big.NatV w9 v8 (N) ∧ Big.NatV w9 v9 (E * 2 * N) ∧ Below w.heap.size w w9) := ⟨(F10.out.1).step bb, (F10.out.2.1).below bb, (F10.out.2.2.1).below bb, (F10.out.2.2.2.1).below bb, (F10.out.2.2.2.2.1).below bb, (F10.out.2.2.2.2.2.1).below bb, n1, (F10.out.2.2.2.2.2.2).trans (bb.mono (F10.out.2.2.2.2.2.2).size)⟩
 clear F10
 clear bb CC n1
 have F12 : Hid (Bk w9 (w1.heap.size) [.string v, .int .i64 k, .bool false] ∧ NatV w9 v2 (D) ∧ Big.NatV w9 v3 (X) ∧ Big.NatV w9 v4 (Y) ∧ Big.NatV w9 v7 (E * 2) ∧ Big.NatV w9 v9 (E * 2 * N) ∧ Below w.heap.size w w9) := ⟨F11.out.1, F11.out.2.1, F11.out.2.2.1, F11.out.2.2.2.1, F11.out.2.2.2.2.1, F11.out.2.2.2.2.2.2.1, F11.out.2.2.2.2.2.2.2⟩
 clear F11
 have CC := times_nat (F12.out.2.2.2.2.2.1) (F12.out.2.2.2.1) ((Fits.mul (Fits.mul (FE.out.1) ((fits_two : Fits 2 2))) (HNr.out.1.fN)).up (by omega)) ((FE.out.2.2).up (by omega))
 go_wp2_with fail
 all_goals first | (exfalso; omega) | skip
 refine CC.mono ?_
 rintro o10 w10 ⟨v10, rfl, n1, bb⟩
 have F13 : Hid (Bk w10 (w1.heap.size) [.string v, .int .i64 k, .bool false] ∧ NatV w10 v2 (D) ∧ Big.NatV w10 v3 (X) ∧ Big.NatV w10 v4 (Y) ∧ Big.NatV w10 v7 (E * 2) ∧ Big.NatV w10 v9 (E * 2 * N) ∧ Big.NatV w10 v10 (E * 2 * N * Y) ∧ Below w.heap.size w w10) := ⟨(F12.out.1).step bb, (F12.out.2.1).below bb, (F12.out.2.2.1).below bb, (F12.out.2.2.2.1).below bb, (F12.out.2.2.2.2.1).below bb, (F12.out.2.2.2.2.2.1).below bb, n1, (F12.out.2.2.2.2.2.2).trans (bb.mono (F12.out.2.2.2.2.2.2).size)⟩
 clear F12
 clear bb CC n1
 have F14 : Hid (Bk w10 (w1.heap.size) [.string v, .int .i64 k, .bool false] ∧ NatV w10 v2 (D) ∧ Big.NatV w10 v3 (X) ∧ Big.NatV w10 v4 (Y) ∧ Big.NatV w10 v7 (E * 2) ∧ Big.NatV w10 v10 (E * 2 * N * Y) ∧ Below w.heap.size w w10) := ⟨F13.out.1, F13.out.2.1, F13.out.2.2.1, F13.out.2.2.2.1, F13.out.2.2.2.2.1, F13.out.2.2.2.2.2.2.1, F13.out.2.2.2.2.2.2.2⟩
 clear F13
 have CC := times_nat (F14.out.2.2.2.2.1) (F14.out.2.2.1) ((Fits.mul (FE.out.1) ((fits_two : Fits 2 2))).up (by omega)) ((FE.out.2.1).up (by omega))
 go_wp2_with fail
 all_goals first | (exfalso; omega) | skip
 refine CC.mono ?_
 rintro o11 w11 ⟨v11, rfl, n1, bb⟩
 have F15 : Hid (Bk w11 (w1.heap.size) [.string v, .int .i64 k, .bool false] ∧ NatV w11 v2 (D) ∧ Big.NatV w11 v3 (X) ∧ Big.NatV w11 v4 (Y) ∧ Big.NatV w11 v7 (E * 2) ∧ Big.NatV w11 v10 (E * 2 * N * Y) ∧ Big.NatV w11 v11 (E * 2 * X) ∧ Below w.heap.size w w11) := ⟨(F14.out.1).step bb, (F14.out.2.1).below bb, (F14.out.2.2.1).below bb, (F14.out.2.2.2.1).below bb, (F14.out.2.2.2.2.1).below bb, (F14.out.2.2.2.2.2.1).below bb, n1, (F14.out.2.2.2.2.2.2).trans (bb.mono (F14.out.2.2.2.2.2.2).size)⟩
 clear F14
 clear bb CC n1
 have F16 : Hid (Bk w11 (w1.heap.size) [.string v, .int .i64 k, .bool false] ∧ NatV w11 v2 (D) ∧ Big.NatV w11 v4 (Y) ∧ Big.NatV w11 v10 (E * 2 * N * Y) ∧ Big.NatV w11 v11 (E * 2 * X) ∧ Below w.heap.size w w11) := ⟨F15.out.1, F15.out.2.1, F15.out.2.2.2.1, F15.out.2.2.2.2.2.1, F15.out.2.2.2.2.2.2.1, F15.out.2.2.2.2.2.2.2⟩
 clear F15
 have CC := wnat_of (F16.out.2.1)
 go_wp2_with fail
 all_goals first | (exfalso; omega) | skip
 refine CC.mono ?_
 rintro o12 w12 ⟨v12, rfl, n1, bb⟩
 have F17 : Hid (Bk w12 (w1.heap.size) [.string v, .int .i64 k, .bool false] ∧ NatV w12 v2 (D) ∧ Big.NatV w12 v4 (Y) ∧ Big.NatV w12 v10 (E * 2 * N * Y) ∧ Big.NatV w12 v11 (E * 2 * X) ∧ Big.NatV w12 v12 (D) ∧ Below w.heap.size w w12) := ⟨(F16.out.1).step bb, (F16.out.2.1).below bb, (F16.out.2.2.1).below bb, (F16.out.2.2.2.1).below bb, (F16.out.2.2.2.2.1).below bb, n1, (F16.out.2.2.2.2.2).trans (bb.mono (F16.out.2.2.2.2.2).size)⟩
 clear F16
 clear bb CC n1
 have CC := times_nat (F17.out.2.2.2.2.1) (F17.out.2.2.2.2.2.1) ((Fits.mul (Fits.mul (FE.out.1) ((fits_two : Fits 2 2))) (FE.out.2.1)).up (by omega)) ((HNr.out.1.fD).up (by omega))
 go_wp2_with fail
 all_goals first | (exfalso; omega) | skip
 refine CC.mono ?_
 rintro o13 w13 ⟨v13, rfl, n1, bb⟩
 have F18 : Hid (Bk w13 (w1.heap.size) [.string v, .int .i64 k, .bool false] ∧ NatV w13 v2 (D) ∧ Big.NatV w13 v4 (Y) ∧ Big.NatV w13 v10 (E * 2 * N * Y) ∧ Big.NatV w13 v11 (E * 2 * X) ∧ Big.NatV w13 v12 (D) ∧ Big.NatV w13 v13 (E * 2 * X * D) ∧ Below w.heap.size w w13) := ⟨(F17.out.1).step bb, (F17.out.2.1).below bb, (F17.out.2.2.1).below bb, (F17.out.2.2.2.1).below bb, (F17.out.2.2.2.2.1).below bb, (F17.out.2.2.2.2.2.1).below bb, n1, (F17.out.2.2.2.2.2.2).trans (bb.mono (F17.out.2.2.2.2.2.2).size)⟩
 clear F17
 clear bb CC n1
 have F19 : Hid (Bk w13 (w1.heap.size) [.string v, .int .i64 k, .bool false] ∧ NatV w13 v2 (D) ∧ Big.NatV w13 v4 (Y) ∧ Big.NatV w13 v10 (E * 2 * N * Y) ∧ Big.NatV w13 v13 (E * 2 * X * D) ∧ Below w.heap.size w w13) := ⟨F18.out.1, F18.out.2.1, F18.out.2.2.1, F18.out.2.2.2.1, F18.out.2.2.2.2.2.2.1, F18.out.2.2.2.2.2.2.2⟩
 clear F18
 have CC := wnat_of (F19.out.2.1)
 go_wp2_with fail
 all_goals first | (exfalso; omega) | skip
 refine CC.mono ?_
 rintro o14 w14 ⟨v14, rfl, n1, bb⟩
 have F20 : Hid (Bk w14 (w1.heap.size) [.string v, .int .i64 k, .bool false] ∧ NatV w14 v2 (D) ∧ Big.NatV w14 v4 (Y) ∧ Big.NatV w14 v10 (E * 2 * N * Y) ∧ Big.NatV w14 v13 (E * 2 * X * D) ∧ Big.NatV w14 v14 (D) ∧ Below w.heap.size w w14) := ⟨(F19.out.1).step bb, (F19.out.2.1).below bb, (F19.out.2.2.1).below bb, (F19.out.2.2.2.1).below bb, (F19.out.2.2.2.2.1).below bb, n1, (F19.out.2.2.2.2.2).trans (bb.mono (F19.out.2.2.2.2.2).size)⟩
 clear F19
 clear bb CC n1
 have F21 : Hid (Bk w14 (w1.heap.size) [.string v, .int .i64 k, .bool false] ∧ Big.NatV w14 v4 (Y) ∧ Big.NatV w14 v10 (E * 2 * N * Y) ∧ Big.NatV w14 v13 (E * 2 * X * D) ∧ Big.NatV w14 v14 (D) ∧ Below w.heap.size w w14) := ⟨F20.out.1, F20.out.2.2.1, F20.out.2.2.2.1, F20.out.2.2.2.2.1, F20.out.2.2.2.2.2.1, F20.out.2.2.2.2.2.2⟩
 clear F20
 have CC := times_nat (F21.out.2.2.2.2.1) (F21.out.2.1) ((HNr.out.1.fD).up (by omega)) ((FE.out.2.2).up (by omega))
 go_wp2_with fail
 all_goals first | (exfalso; omega) | skip
 refine CC.mono ?_
 rintro o15 w15 ⟨v15, rfl, n1, bb⟩
 have F22 : Hid (Bk w15 (w1.heap.size) [.string v, .int .i64 k, .bool false] ∧ Big.NatV w15 v4 (Y) ∧ Big.NatV w15 v10 (E * 2 * N * Y) ∧ Big.NatV w15 v13 (E * 2 * X * D) ∧ Big.NatV w15 v14 (D) ∧ Big.NatV w15 v15 (D * Y) ∧ Below w.heap.size w w15) := ⟨(F21.out.1).step bb, (F21.out.2.1).below bb, (F21.out.2.2.1).below bb, (F21.out.2.2.2.1).below bb, (F21.out.2.2.2.2.1).below bb, n1, (F21.out.2.2.2.2.2).trans (bb.mono (F21.out.2.2.2.2.2).size)⟩
 clear F21
 clear bb CC n1
 have F23 : Hid (Bk w15 (w1.heap.size) [.string v, .int .i64 k, .bool false] ∧ Big.NatV w15 v10 (E * 2 * N * Y) ∧ Big.NatV w15 v13 (E * 2 * X * D) ∧ Big.NatV w15 v15 (D * Y) ∧ Below w.heap.size w w15) := ⟨F22.out.1, F22.out.2.2.1, F22.out.2.2.2.1, F22.out.2.2.2.2.2.1, F22.out.2.2.2.2.2.2⟩
 clear F22
 have CC := gr_ge (F23.out.2.1) (F23.out.2.2.1) HNr.out.2
 go_wp2_with fail
 all_goals first | (exfalso; omega) | skip
 refine CC.mono ?_
 rintro o16 w16 ⟨rfl, bb⟩
 have F24 : Hid (Bk w16 (w1.heap.size) [.string v, .int .i64 k, .bool false] ∧ Big.NatV w16 v10 (E * 2 * N * Y) ∧ Big.NatV w16 v13 (E * 2 * X * D) ∧ Big.NatV w16 v15 (D * Y) ∧ Below w.heap.size w w16) := ⟨(F23.out.1).step bb, (F23.out.2.1).below bb, (F23.out.2.2.1).below bb, (F23.out.2.2.2.1).below bb, (F23.out.2.2.2.2).trans (bb.mono (F23.out.2.2.2.2).size)⟩
 clear F23
 clear bb CC
 have CC := le_ge (F24.out.2.1) (F24.out.2.2.1) HNr.out.2
 go_wp2_with fail
 all_goals first | (exfalso; omega) | skip
 refine CC.mono ?_
 rintro o17 w17 ⟨rfl, bb⟩
 have F25 : Hid (Bk w17 (w1.heap.size) [.string v, .int .i64 k, .bool false] ∧ Big.NatV w17 v10 (E * 2 * N * Y) ∧ Big.NatV w17 v13 (E * 2 * X * D) ∧ Big.NatV w17 v15 (D * Y) ∧ Below w.heap.size w w17) := ⟨(F24.out.1).step bb, (F24.out.2.1).below bb, (F24.out.2.2.1).below bb, (F24.out.2.2.2.1).below bb, (F24.out.2.2.2.2).trans (bb.mono (F24.out.2.2.2.2).size)⟩
 clear F24
 clear bb CC
 have CC := minus_nat (F25.out.2.1) (F25.out.2.2.1) ((Fits.mul (Fits.mul (Fits.mul (FE.out.1) ((fits_two : Fits 2 2))) (HNr.out.1.fN)) (FE.out.2.2)).up (by omega)) (Nat.le_of_not_lt HNr.out.2)
 go_wp2_with fail
 all_goals first | (exfalso; omega) | skip
 refine CC.mono ?_
 rintro o18 w18 ⟨v16, rfl, n1, bb⟩
 have F26 : Hid (Bk w18 (w1.heap.size) [.string v, .int .i64 k, .bool false] ∧ Big.NatV w18 v10 (E * 2 * N * Y) ∧ Big.NatV w18 v13 (E * 2 * X * D) ∧ Big.NatV w18 v15 (D * Y) ∧ Big.NatV w18 v16 (E * 2 * N * Y - E * 2 * X * D) ∧ Below w.heap.size w w18) := ⟨(F25.out.1).step bb, (F25.out.2.1).below bb, (F25.out.2.2.1).below bb, (F25.out.2.2.2.1).below bb, n1, (F25.out.2.2.2.2).trans (bb.mono (F25.out.2.2.2.2).size)⟩
 clear F25
 clear bb CC n1
 have F27 : Hid (Bk w18 (w1.heap.size) [.string v, .int .i64 k, .bool false] ∧ Big.NatV w18 v15 (D * Y) ∧ Big.NatV w18 v16 (E * 2 * N * Y - E * 2 * X * D) ∧ Below w.heap.size w w18) := ⟨F26.out.1, F26.out.2.2.2.1, F26.out.2.2.2.2.1, F26.out.2.2.2.2.2⟩
 clear F26
 obtain ⟨c, hc, ce⟩ : ∃ c : Int, ord (E * 2 * N * Y - E * 2 * X * D) (D * Y) = c ∧ (c = -1 ∨ (c = 0 ∧ EV)) := by
  refine ⟨_, rfl, ?_⟩
  have q := HNr.out.1.c
  rw [if_neg HNr.out.2] at q
  rcases q with q | ⟨q, ev⟩
  · exact Or.inl (ord_lt q)
  · exact Or.inr ⟨ord_eq q, ev⟩
 have CB := bcmp_nat (F27.out.2.2.1) (F27.out.2.1)
 rw [hc] at CB
 clear hc HNr FE
 go_wp2_with fail
 refine CB.mono ?_
 rintro o19 w19 ⟨rfl, bb⟩
 have F28 : Hid (Bk w19 (w1.heap.size) [.string v, .int .i64 k, .bool false] ∧ Big.NatV w19 v15 (D * Y) ∧ Big.NatV w19 v16 (E * 2 * N * Y - E * 2 * X * D) ∧ Below w.heap.size w w19) := ⟨(F27.out.1).step bb, (F27.out.2.1).below bb, (F27.out.2.2.1).below bb, (F27.out.2.2.2).trans (bb.mono (F27.out.2.2.2).size)⟩
 clear F27
 clear bb CB
 have F29 : Hid (Bk w19 (w1.heap.size) [.string v, .int .i64 k, .bool false] ∧ Below w.heap.size w w19) := ⟨F28.out.1, F28.out.2.2.2⟩
 clear F28
 have l3_0 := F29.out.1.lt
 have a3_0_0 := F29.out.1.cell 0 _ rfl
 have f3_0_0 := F29.out.1.fz 0
 have a3_0_1 := F29.out.1.cell 1 _ rfl
 have f3_0_1 := F29.out.1.fz 1
 have a3_0_2 := F29.out.1.cell 2 _ rfl
 have f3_0_2 := F29.out.1.fz 2
 have wk1 : IntKind.i64.wrap (k + n) = k + n := by rw [IntKind.wrap_i64]; omega
 have wk2 : IntKind.i64.wrap (k + n - 1) = k + n - 1 := by rw [IntKind.wrap_i64]; omega
 rcases (by omega : k + n - 1 < 0 ∨ (0 ≤ k + n - 1 ∧ (v.size : Int) ≤ k + n - 1) ∨ (0 ≤ k + n - 1 ∧ k + n - 1 < (v.size : Int))) with j0 | ⟨j0, j1⟩ | ⟨j0, j1⟩
 · rcases ce with ce | ce
   · subst ce
     go_wp2_with fail
     all_goals first | (exfalso; omega) | skip
     refine (works22 _).mono ?_
     rintro o20 w20 ⟨rfl, bb⟩
     have F30 : Hid (Bk w20 (w1.heap.size) [.string v, .int .i64 k, .bool false] ∧ Below w.heap.size w w20) := ⟨(F29.out.1).step bb, (F29.out.2).trans (bb.mono (F29.out.2).size)⟩
     clear F29
     clear bb
     go_wp2
     go_ret
     exact ⟨rfl, F30.out.2⟩
   · obtain ⟨ce, ev⟩ := ce
     subst ce
     go_wp2_with fail
     all_goals first | (exfalso; omega) | skip
     refine (works22 _).mono ?_
     rintro o20 w20 ⟨rfl, bb⟩
     have F30 : Hid (Bk w20 (w1.heap.size) [.string v, .int .i64 k, .bool false] ∧ Below w.heap.size w w20) := ⟨(F29.out.1).step bb, (F29.out.2).trans (bb.mono (F29.out.2).size)⟩
     clear F29
     clear bb
     go_wp2
     go_ret
     exact ⟨rfl, F30.out.2⟩
 · rcases ce with ce | ce
   · subst ce
     go_wp2_with fail
     all_goals first | (exfalso; omega) | skip
     refine (works22 _).mono ?_
     rintro o20 w20 ⟨rfl, bb⟩
     have F30 : Hid (Bk w20 (w1.heap.size) [.string v, .int .i64 k, .bool false] ∧ Below w.heap.size w w20) := ⟨(F29.out.1).step bb, (F29.out.2).trans (bb.mono (F29.out.2).size)⟩
     clear F29
     clear bb
     go_wp2
     go_ret
     exact ⟨rfl, F30.out.2⟩
   · obtain ⟨ce, ev⟩ := ce
     subst ce
     go_wp2_with fail
     all_goals first | (exfalso; omega) | skip
     refine (works22 _).mono ?_
     rintro o20 w20 ⟨rfl, bb⟩
     have F30 : Hid (Bk w20 (w1.heap.size) [.string v, .int .i64 k, .bool false] ∧ Below w.heap.size w w20) := ⟨(F29.out.1).step bb, (F29.out.2).trans (bb.mono (F29.out.2).size)⟩
     clear F29
     clear bb
     go_wp2
     go_ret
     exact ⟨rfl, F30.out.2⟩
 · rcases ce with ce | ce
   · subst ce
     obtain ⟨j, hj⟩ : ∃ j : Nat, k + n - 1 = (j : Int) := ⟨(k + n - 1).toNat, by omega⟩
     rw [hj] at wk2 j0 j1
     have jl : j < v.size := by omega
     have ij : ((j : Int)).toNat = j := by omega
     have jn : ¬ (v.size : Int) ≤ (j : Int) := by omega
     have dr := hDG j
     have dl := dgt_lt jl
     rw [dl] at dr
     have wu : IntKind.u8.wrap (((v[j]'jl).toNat : Int) - 48) = ((v[j]'jl).toNat : Int) - 48 := by rw [IntKind.wrap_u8]; omega
     go_wp2_with fail
     all_goals first | (exfalso; omega) | skip
     refine (works22 _).mono ?_
     rintro o20 w20 ⟨rfl, bb⟩
     have F30 : Hid (Bk w20 (w1.heap.size) [.string v, .int .i64 k, .bool false] ∧ Below w.heap.size w w20) := ⟨(F29.out.1).step bb, (F29.out.2).trans (bb.mono (F29.out.2).size)⟩
     clear F29
     clear bb
     go_wp2
     go_ret
     exact ⟨rfl, F30.out.2⟩
   · obtain ⟨ce, ev⟩ := ce
     subst ce
     obtain ⟨j, hj⟩ : ∃ j : Nat, k + n - 1 = (j : Int) := ⟨(k + n - 1).toNat, by omega⟩
     rw [hj] at wk2 j0 j1
     have jl : j < v.size := by omega
     have ij : ((j : Int)).toNat = j := by omega
     have jn : ¬ (v.size : Int) ≤ (j : Int) := by omega
     have dr := hDG j
     have dl := dgt_lt jl
     rw [dl] at dr
     have wu : IntKind.u8.wrap (((v[j]'jl).toNat : Int) - 48) = ((v[j]'jl).toNat : Int) - 48 := by rw [IntKind.wrap_u8]; omega
     have pe : ((((v[j]'jl).toNat : Int) - 48).tmod 2 == 0) = true := by
      have q := hEV ev j (by omega) jl
      rw [dl] at q
      rw [Int.tmod_eq_emod_of_nonneg (by omega)]
      exact beq_iff_eq.mpr (by omega)
     have pf : ((((v[j]'jl).toNat : Int) - 48) % 2 == 0) = true := by
      rw [Int.tmod_eq_emod_of_nonneg (by omega)] at pe
      exact pe
     go_wp2_with fail
     all_goals first | (exfalso; omega) | skip
     refine (works22 _).mono ?_
     rintro o20 w20 ⟨rfl, bb⟩
     have F30 : Hid (Bk w20 (w1.heap.size) [.string v, .int .i64 k, .bool false] ∧ Below w.heap.size w w20) := ⟨(F29.out.1).step bb, (F29.out.2).trans (bb.mono (F29.out.2).size)⟩
     clear F29
     clear bb
     go_wp2
     go_ret
     exact ⟨rfl, F30.out.2⟩
theorem cross_lt {E T X Y p q x y : Nat} (E0 : 0 < E) (q0 : 0 < q) (y0 : 0 < y) (h1 : p * T = X * q) (h2 : x * T = Y * y) (lt : X < Y) : E * 2 * p * y < E * 2 * x * q := by
 have K0 : 0 < E * (q * y) := Nat.mul_pos E0 (Nat.mul_pos q0 y0)
 have a : E * 2 * p * y * T = E * (q * y) * (2 * X) := by
  rw [show E * 2 * p * y * T = E * 2 * (p * T) * y by ac_rfl, h1]
  ac_rfl
 have b : E * 2 * x * q * T = E * (q * y) * (2 * Y) := by
  rw [show E * 2 * x * q * T = E * 2 * (x * T) * q by ac_rfl, h2]
  ac_rfl
 apply Nat.lt_of_mul_lt_mul_right (a := T)
 rw [a, b]
 exact (Nat.mul_lt_mul_left K0).2 (by omega)
theorem nr_of {E S T X Y N D x y : Nat} {ev : Prop} (fN : Fits 256 N) (fD : Fits 256 D) (hT : E * S = T) (T0 : 0 < T) (E0 : 0 < E) (q0 : 0 < D) (y0 : 0 < y) (h1 : N * T = X * D) (h2 : x * T = Y * y)
 (hA : Y ≤ X → 2 * (X - Y) ≤ S ∧ (2 * (X - Y) = S → ev)) (hB : X < Y → 2 * (Y - X) ≤ S ∧ (2 * (Y - X) = S → ev)) :
 Nr E N D x y ev ∧ (X < Y → E * 2 * N * y < E * 2 * x * D) ∧ (¬ X < Y → ¬ E * 2 * N * y < E * 2 * x * D) := by
 by_cases c : X < Y
 · have l := cross_lt E0 q0 y0 h1 h2 c
   obtain ⟨_, k1, k2⟩ := cross hT T0 E0 y0 q0 h2 h1 (Nat.le_of_lt c)
   obtain ⟨b1, b2⟩ := hB c
   refine ⟨⟨fN, fD, ?_⟩, fun _ => l, fun z => absurd c z⟩
   rw [if_pos l, Nat.mul_comm D y]
   rcases Nat.lt_or_eq_of_le b1 with e | e
   · exact Or.inl (k1.2 e)
   · exact Or.inr ⟨k2.2 e, b2 e⟩
 · obtain ⟨g, k1, k2⟩ := cross hT T0 E0 q0 y0 h1 h2 (Nat.le_of_not_lt c)
   obtain ⟨b1, b2⟩ := hA (Nat.le_of_not_lt c)
   have l : ¬ E * 2 * N * y < E * 2 * x * D := Nat.not_lt.mpr g
   refine ⟨⟨fN, fD, ?_⟩, fun z => absurd z c, fun _ => l⟩
   rw [if_neg l]
   rcases Nat.lt_or_eq_of_le b1 with e | e
   · exact Or.inl (k1.2 e)
   · exact Or.inr ⟨k2.2 e, b2 e⟩
theorem near_all {X S : Nat} (S0 : 0 < S) : (rnU X S ≤ X → 2 * (X - rnU X S) ≤ S ∧ (2 * (X - rnU X S) = S → rnU X S / S % 2 = 0)) ∧ (X < rnU X S → 2 * (rnU X S - X) ≤ S ∧ (2 * (rnU X S - X) = S → rnU X S / S % 2 = 0)) := by
 rcases rn_near (X := X) S0 with ⟨a, b, c⟩ | ⟨a, b, c⟩
 · exact ⟨fun _ => ⟨b, c⟩, fun z => by omega⟩
 · refine ⟨fun z => ?_, fun _ => ⟨b, c⟩⟩
   have e : X - rnU X S = 0 := by omega
   rw [e]
   exact ⟨by omega, fun q => by omega⟩
theorem ten_split {N R : Nat} (h : N ≤ R) : 10 ^ N * 10 ^ (R - N) = 10 ^ R := by
 rw [← Nat.pow_add]
 congr 1
 omega
theorem ten_gt (n : Nat) : 0 < 10 ^ n := Nat.pow_pos (by decide)
theorem two_small (w : World) : Calls Tryz.prog 21 #[.int .u64 2] w fun e w' => ∃ v, e = .returned v ∧ Big.NatV w' v 2 ∧ Below w.heap.size w w' := small_nat 2 (by unfold B; decide) w
theorem ten_raised (N : Nat) (h : N ≤ 400) (w : World) : Calls Tryz.prog 20 #[.int .u64 10, .int .i64 (N : Int)] w fun e w' => ∃ v, e = .returned v ∧ Big.NatV w' v (10 ^ N) ∧ Below w.heap.size w w' := raised_far 10 N (by decide) (by decide) (by omega) w
theorem law_near22 (b : Nat) (hb : b < 18446744073709551616) (z n : Int) (w : World) :
 Calls Tryz.prog 5 #[.int .u64 (b : Int), .int .i64 z, .int .i64 n] w fun x w' => x = .returned (.bool true) ∧ Below w.heap.size w w' := by
 rcases kinds b z hb with ⟨m, h⟩ | ⟨f, T, L, S, I, h⟩
 · exact fn_err (fun W => fpl_any (fun W => fvp_err (fun W => pex_bad h W) W) W) w
 · obtain ⟨u, o, G, o0, o1, _⟩ := fl_dx h
   by_cases c1 : n < 0
   · exact fn_err (fun W => fpl_any (fun W => fvp_low c1 (fun W => ex_is h G W) W) W) w
   · by_cases c2 : 1100 < n
     · exact fn_err (fun W => fpl_any (fun W => fvp_high c1 c2 (fun W => ex_is h G W) W) W) w
     · obtain ⟨v, k, x, D⟩ := fx_ex G (by omega) (o + n)
       have HP := fun W => fpl_fx h G o0 o1 (by omega) (by omega) x W
       by_cases c3 : 400 < n
       · exact fn_far c3 HP w
       · obtain ⟨N, rfl⟩ : ∃ N : Nat, n = (N : Int) := ⟨n.toNat, by omega⟩
         have NR : N ≤ R0 := by unfold R0; omega
         rw [show (o + (R0 : Int) - (o + (N : Int))).toNat = R0 - N by omega] at D
         have pt := x.point
         have pl := x.places (by omega)
         have hp : (v.size : Int) - k ≤ (N : Int) := by omega
         have fs := h.sf.fs.1
         have xi := xp_in fs h.m
         have hx : -(R0 : Int) ≤ xp f L (mg S b) := by unfold R0; omega
         have F1 := fq_fits D (by omega) (by omega)
         have fe : Fits 60 (10 ^ N) ∧ Fits 120 (fqN v k) ∧ Fits 60 (fqD v k) := ⟨fits_ten (k := N) (Nat.le_refl _) (by omega), F1.1.up (by omega), F1.2⟩
         have hd := dx_frac2 D
         have na := near_all (X := vlF f L (mg S b)) (ten_gt (R0 - N))
         have sz : v.size ≤ 800 := by
          rcases D.vd with ⟨q, _⟩ | g
          · omega
          · exact g.len
         have hDG : ∀ i, 48 ≤ dgt v i ∧ dgt v i ≤ 57 := by
          have d : DG v := by
           rcases D.vd with ⟨q, _⟩ | g
           · intro i hi
             omega
           · exact g.dg
          exact fun i => dgt_in d i
         have HV : ∀ W, Calls Tryz.prog 17 #[.int .u64 (b : Int), .int .i64 z] W fun x w' => ∃ (sg : Bool) (v1 v2 : Value) (N D : Nat), x = .returned (.tuple #[.bool sg, v1, v2, .int .i64 0]) ∧ NatV w' v1 N ∧ NatV w' v2 D ∧ (Frc N D (mt f (mg S b)) (xp f L (mg S b)) ∧ Fits 256 N ∧ Fits 256 D) ∧ Below W.heap.size W w' := fun W => by
          refine (value22 h W).mono ?_
          rintro e w' ⟨sg, v1, v2, N, D, rfl, n1, n2, q, bb⟩
          exact ⟨sg, v1, v2, N, D, rfl, n1, n2, ⟨q, wnat_fits n1, wnat_fits n2⟩, bb⟩
         have key : ∀ P Q, (Frc P Q (mt f (mg S b)) (xp f L (mg S b)) ∧ Fits 256 P ∧ Fits 256 Q) → Nr (10 ^ N) P Q (fqN v k) (fqD v k) (rnU (vlF f L (mg S b)) (10 ^ (R0 - N)) / 10 ^ (R0 - N) % 2 = 0) ∧ (vlF f L (mg S b) < rnU (vlF f L (mg S b)) (10 ^ (R0 - N)) → 10 ^ N * 2 * P * fqD v k < 10 ^ N * 2 * fqN v k * Q) ∧ (¬ vlF f L (mg S b) < rnU (vlF f L (mg S b)) (10 ^ (R0 - N)) → ¬ 10 ^ N * 2 * P * fqD v k < 10 ^ N * 2 * fqN v k * Q) := by
          rintro P Q ⟨fr, f1, f2⟩
          obtain ⟨e1, e2⟩ := frc_units fr hx
          exact nr_of f1 f2 (ten_split NR) (ten_gt R0) (ten_gt N) e2 hd.2 e1 hd.1 na.1 na.2
         have hEV : rnU (vlF f L (mg S b)) (10 ^ (R0 - N)) / 10 ^ (R0 - N) % 2 = 0 → ∀ j : Nat, (j : Int) = k + (N : Int) - 1 → j < v.size → (dgt v j - 48) % 2 = 0 := fun he j hj jl => last_even D NR hp he hj jl
         by_cases c : vlF f L (mg S b) < rnU (vlF f L (mg S b)) (10 ^ (R0 - N))
         · exact fn_lt (by omega) (by omega) (by omega) (by omega) sz hp hDG hEV fe (fun P Q q => ⟨(key P Q q).1, (key P Q q).2.1 c⟩) HP HV (fun W => lfrac_any D (by omega) (by omega) W) (fun W => ten_raised N (by omega) W) (fun W => two_small W) w
         · exact fn_ge (by omega) (by omega) (by omega) (by omega) sz hp hDG hEV fe (fun P Q q => ⟨(key P Q q).1, (key P Q q).2.2 c⟩) HP HV (fun W => lfrac_any D (by omega) (by omega) W) (fun W => ten_raised N (by omega) W) (fun W => two_small W) w
theorem fd_err0 {b z n n1 n2 : Int} (q1 : (n1 == 0) = false) (HE : ∀ W, Calls Tryz.prog 27 #[.int .u64 b, .int .i64 z] W fun e w' => e = .returned (.tuple #[.agg #[.string ⟨#[]⟩, .int .i64 0, .bool false], .int .i64 n1]) ∧ Below W.heap.size W w') (HD : ∀ W, Calls Tryz.prog 7 #[.int .u64 b, .int .i64 z, .int .i64 n] W fun e w' => e = .returned (.tuple #[.agg #[.string ⟨#[]⟩, .int .i64 0, .bool false], .iface 57 (.int .i64 n2)]) ∧ Below W.heap.size W w')  (w : World) :
 Calls Tryz.prog 6 #[.int .u64 b, .int .i64 z, .int .i64 n] w fun x w' => x = .returned (.bool true) ∧ Below w.heap.size w w' := by
 have F0 : Hid (Below w.heap.size w w) := Below.refl _ _
 go_enter Tryz.func6, Tryz.ntmps6
 go_wp2_with fail
 all_goals first | (exfalso; omega) | skip
 refine (HE _).mono ?_
 rintro o1 w1 ⟨rfl, bb⟩
 have F1 : Hid (Below w.heap.size w w1) := (F0.out).trans (bb.mono (F0.out).size)
 clear F0
 clear bb
 have le0 := (F1.out).size
 have F2 : Hid (Bk (w1.alloc (.cells #[.string ⟨#[]⟩, .int .i64 0, .bool false] 24)) (w1.heap.size) [.string ⟨#[]⟩, .int .i64 0, .bool false] ∧ Below w.heap.size w (w1.alloc (.cells #[.string ⟨#[]⟩, .int .i64 0, .bool false] 24))) := ⟨Bk.new3 w1 (.string ⟨#[]⟩) (.int .i64 0) (.bool false) 24, (F1.out).alloc ((F1.out).size) _⟩
 clear F1
 go_upto_region 2 with fail
 generalize (w1.alloc (.cells #[.string ⟨#[]⟩, .int .i64 0, .bool false] 24)) = w2 at *
 go_wp2_with fail
 all_goals first | (exfalso; omega) | skip
 refine (HD _).mono ?_
 rintro o3 w3 ⟨rfl, bb⟩
 have F3 : Hid (Bk w3 (w1.heap.size) [.string ⟨#[]⟩, .int .i64 0, .bool false] ∧ Below w.heap.size w w3) := ⟨(F2.out.1).step bb, (F2.out.2).trans (bb.mono (F2.out.2).size)⟩
 clear F2
 clear bb
 have lt0_1 := (F3.out.1).lt
 have le1 := (F3.out.2).size
 have F4 : Hid (Bk (w3.alloc (.cells #[.string ⟨#[]⟩, .int .i64 0, .bool false] 24)) (w1.heap.size) [.string ⟨#[]⟩, .int .i64 0, .bool false] ∧ Bk (w3.alloc (.cells #[.string ⟨#[]⟩, .int .i64 0, .bool false] 24)) (w3.heap.size) [.string ⟨#[]⟩, .int .i64 0, .bool false] ∧ Below w.heap.size w (w3.alloc (.cells #[.string ⟨#[]⟩, .int .i64 0, .bool false] 24))) := ⟨(F3.out.1).step ((Below.refl _ _).alloc (Nat.le_refl _) _), Bk.new3 w3 (.string ⟨#[]⟩) (.int .i64 0) (.bool false) 24, (F3.out.2).alloc ((F3.out.2).size) _⟩
 clear F3
 go_upto_region 3 with fail
 generalize (w3.alloc (.cells #[.string ⟨#[]⟩, .int .i64 0, .bool false] 24)) = w4 at *
 have l1_0 := F4.out.1.lt
 have a1_0_0 := F4.out.1.cell 0 _ rfl
 have f1_0_0 := F4.out.1.fz 0
 have a1_0_1 := F4.out.1.cell 1 _ rfl
 have f1_0_1 := F4.out.1.fz 1
 have a1_0_2 := F4.out.1.cell 2 _ rfl
 have f1_0_2 := F4.out.1.fz 2
 have l1_1 := F4.out.2.1.lt
 have a1_1_0 := F4.out.2.1.cell 0 _ rfl
 have f1_1_0 := F4.out.2.1.fz 0
 have a1_1_1 := F4.out.2.1.cell 1 _ rfl
 have f1_1_1 := F4.out.2.1.fz 1
 have a1_1_2 := F4.out.2.1.cell 2 _ rfl
 have f1_1_2 := F4.out.2.1.fz 2
 have ne1_0_1 : ¬ w1.heap.size = w3.heap.size := by omega
 have ne1_1_0 : ¬ w3.heap.size = w1.heap.size := by omega
 have q2 : ¬ n1 = 0 := by simpa using q1
 have q3 : (n1 != 0) = true := by simpa using q1
 go_wp2_with fail
 all_goals first | (exfalso; omega) | skip
 refine (works22 _).mono ?_
 rintro o5 w5 ⟨rfl, bb⟩
 have F5 : Hid (Bk w5 (w1.heap.size) [.string ⟨#[]⟩, .int .i64 0, .bool false] ∧ Bk w5 (w3.heap.size) [.string ⟨#[]⟩, .int .i64 0, .bool false] ∧ Below w.heap.size w w5) := ⟨(F4.out.1).step bb, (F4.out.2.1).step bb, (F4.out.2.2).trans (bb.mono (F4.out.2.2).size)⟩
 clear F4
 clear bb
 go_wp2
 go_ret
 exact ⟨rfl, F5.out.2.2⟩
theorem fd_err1 {b z n n2 : Int} {u : ByteArray} {o : Int} (HE : ∀ W, Calls Tryz.prog 27 #[.int .u64 b, .int .i64 z] W fun e w' => e = .returned (.tuple #[.agg #[.string u, .int .i64 o, .bool false], .int .i64 0]) ∧ Below W.heap.size W w') (HD : ∀ W, Calls Tryz.prog 7 #[.int .u64 b, .int .i64 z, .int .i64 n] W fun e w' => e = .returned (.tuple #[.agg #[.string ⟨#[]⟩, .int .i64 0, .bool false], .iface 57 (.int .i64 n2)]) ∧ Below W.heap.size W w')  (w : World) :
 Calls Tryz.prog 6 #[.int .u64 b, .int .i64 z, .int .i64 n] w fun x w' => x = .returned (.bool true) ∧ Below w.heap.size w w' := by
 have F0 : Hid (Below w.heap.size w w) := Below.refl _ _
 go_enter Tryz.func6, Tryz.ntmps6
 go_wp2_with fail
 all_goals first | (exfalso; omega) | skip
 refine (HE _).mono ?_
 rintro o1 w1 ⟨rfl, bb⟩
 have F1 : Hid (Below w.heap.size w w1) := (F0.out).trans (bb.mono (F0.out).size)
 clear F0
 clear bb
 have le0 := (F1.out).size
 have F2 : Hid (Bk (w1.alloc (.cells #[.string u, .int .i64 o, .bool false] 24)) (w1.heap.size) [.string u, .int .i64 o, .bool false] ∧ Below w.heap.size w (w1.alloc (.cells #[.string u, .int .i64 o, .bool false] 24))) := ⟨Bk.new3 w1 (.string u) (.int .i64 o) (.bool false) 24, (F1.out).alloc ((F1.out).size) _⟩
 clear F1
 go_upto_region 2 with fail
 generalize (w1.alloc (.cells #[.string u, .int .i64 o, .bool false] 24)) = w2 at *
 go_wp2_with fail
 all_goals first | (exfalso; omega) | skip
 refine (HD _).mono ?_
 rintro o3 w3 ⟨rfl, bb⟩
 have F3 : Hid (Bk w3 (w1.heap.size) [.string u, .int .i64 o, .bool false] ∧ Below w.heap.size w w3) := ⟨(F2.out.1).step bb, (F2.out.2).trans (bb.mono (F2.out.2).size)⟩
 clear F2
 clear bb
 have lt0_1 := (F3.out.1).lt
 have le1 := (F3.out.2).size
 have F4 : Hid (Bk (w3.alloc (.cells #[.string ⟨#[]⟩, .int .i64 0, .bool false] 24)) (w1.heap.size) [.string u, .int .i64 o, .bool false] ∧ Bk (w3.alloc (.cells #[.string ⟨#[]⟩, .int .i64 0, .bool false] 24)) (w3.heap.size) [.string ⟨#[]⟩, .int .i64 0, .bool false] ∧ Below w.heap.size w (w3.alloc (.cells #[.string ⟨#[]⟩, .int .i64 0, .bool false] 24))) := ⟨(F3.out.1).step ((Below.refl _ _).alloc (Nat.le_refl _) _), Bk.new3 w3 (.string ⟨#[]⟩) (.int .i64 0) (.bool false) 24, (F3.out.2).alloc ((F3.out.2).size) _⟩
 clear F3
 go_upto_region 3 with fail
 generalize (w3.alloc (.cells #[.string ⟨#[]⟩, .int .i64 0, .bool false] 24)) = w4 at *
 have l1_0 := F4.out.1.lt
 have a1_0_0 := F4.out.1.cell 0 _ rfl
 have f1_0_0 := F4.out.1.fz 0
 have a1_0_1 := F4.out.1.cell 1 _ rfl
 have f1_0_1 := F4.out.1.fz 1
 have a1_0_2 := F4.out.1.cell 2 _ rfl
 have f1_0_2 := F4.out.1.fz 2
 have l1_1 := F4.out.2.1.lt
 have a1_1_0 := F4.out.2.1.cell 0 _ rfl
 have f1_1_0 := F4.out.2.1.fz 0
 have a1_1_1 := F4.out.2.1.cell 1 _ rfl
 have f1_1_1 := F4.out.2.1.fz 1
 have a1_1_2 := F4.out.2.1.cell 2 _ rfl
 have f1_1_2 := F4.out.2.1.fz 2
 have ne1_0_1 : ¬ w1.heap.size = w3.heap.size := by omega
 have ne1_1_0 : ¬ w3.heap.size = w1.heap.size := by omega
 go_wp2_with fail
 all_goals first | (exfalso; omega) | skip
 refine (works22 _).mono ?_
 rintro o5 w5 ⟨rfl, bb⟩
 have F5 : Hid (Bk w5 (w1.heap.size) [.string u, .int .i64 o, .bool false] ∧ Bk w5 (w3.heap.size) [.string ⟨#[]⟩, .int .i64 0, .bool false] ∧ Below w.heap.size w w5) := ⟨(F4.out.1).step bb, (F4.out.2.1).step bb, (F4.out.2.2).trans (bb.mono (F4.out.2.2).size)⟩
 clear F4
 clear bb
 go_wp2
 go_ret
 exact ⟨rfl, F5.out.2.2⟩
theorem fd_zero_a {b z n : Int} (q1 : 1 ≤ n) (q2 : n ≤ 1101) (q3 : 1100 < n) (HE : ∀ W, Calls Tryz.prog 27 #[.int .u64 b, .int .i64 z] W fun e w' => e = .returned (.tuple #[.agg #[.string ⟨#[]⟩, .int .i64 0, .bool false], .int .i64 0]) ∧ Below W.heap.size W w') (HD : ∀ W, Calls Tryz.prog 7 #[.int .u64 b, .int .i64 z, .int .i64 n] W fun e w' => e = .returned (.tuple #[.agg #[.string ⟨#[]⟩, .int .i64 0, .bool false], .nilIface]) ∧ Below W.heap.size W w') (HM : ∀ W, Calls Tryz.prog 28 #[.int .u64 b, .int .i64 z] W fun e w' => e = .returned (.int .u64 0) ∧ Below W.heap.size W w')  (w : World) :
 Calls Tryz.prog 6 #[.int .u64 b, .int .i64 z, .int .i64 n] w fun x w' => x = .returned (.bool true) ∧ Below w.heap.size w w' := by
 have F0 : Hid (Below w.heap.size w w) := Below.refl _ _
 go_enter Tryz.func6, Tryz.ntmps6
 go_wp2_with fail
 all_goals first | (exfalso; omega) | skip
 refine (HE _).mono ?_
 rintro o1 w1 ⟨rfl, bb⟩
 have F1 : Hid (Below w.heap.size w w1) := (F0.out).trans (bb.mono (F0.out).size)
 clear F0
 clear bb
 have le0 := (F1.out).size
 have F2 : Hid (Bk (w1.alloc (.cells #[.string ⟨#[]⟩, .int .i64 0, .bool false] 24)) (w1.heap.size) [.string ⟨#[]⟩, .int .i64 0, .bool false] ∧ Below w.heap.size w (w1.alloc (.cells #[.string ⟨#[]⟩, .int .i64 0, .bool false] 24))) := ⟨Bk.new3 w1 (.string ⟨#[]⟩) (.int .i64 0) (.bool false) 24, (F1.out).alloc ((F1.out).size) _⟩
 clear F1
 go_upto_region 2 with fail
 generalize (w1.alloc (.cells #[.string ⟨#[]⟩, .int .i64 0, .bool false] 24)) = w2 at *
 go_wp2_with fail
 all_goals first | (exfalso; omega) | skip
 refine (HD _).mono ?_
 rintro o3 w3 ⟨rfl, bb⟩
 have F3 : Hid (Bk w3 (w1.heap.size) [.string ⟨#[]⟩, .int .i64 0, .bool false] ∧ Below w.heap.size w w3) := ⟨(F2.out.1).step bb, (F2.out.2).trans (bb.mono (F2.out.2).size)⟩
 clear F2
 clear bb
 have lt0_1 := (F3.out.1).lt
 have le1 := (F3.out.2).size
 have F4 : Hid (Bk (w3.alloc (.cells #[.string ⟨#[]⟩, .int .i64 0, .bool false] 24)) (w1.heap.size) [.string ⟨#[]⟩, .int .i64 0, .bool false] ∧ Bk (w3.alloc (.cells #[.string ⟨#[]⟩, .int .i64 0, .bool false] 24)) (w3.heap.size) [.string ⟨#[]⟩, .int .i64 0, .bool false] ∧ Below w.heap.size w (w3.alloc (.cells #[.string ⟨#[]⟩, .int .i64 0, .bool false] 24))) := ⟨(F3.out.1).step ((Below.refl _ _).alloc (Nat.le_refl _) _), Bk.new3 w3 (.string ⟨#[]⟩) (.int .i64 0) (.bool false) 24, (F3.out.2).alloc ((F3.out.2).size) _⟩
 clear F3
 go_upto_region 3 with fail
 generalize (w3.alloc (.cells #[.string ⟨#[]⟩, .int .i64 0, .bool false] 24)) = w4 at *
 have l1_0 := F4.out.1.lt
 have a1_0_0 := F4.out.1.cell 0 _ rfl
 have f1_0_0 := F4.out.1.fz 0
 have a1_0_1 := F4.out.1.cell 1 _ rfl
 have f1_0_1 := F4.out.1.fz 1
 have a1_0_2 := F4.out.1.cell 2 _ rfl
 have f1_0_2 := F4.out.1.fz 2
 have l1_1 := F4.out.2.1.lt
 have a1_1_0 := F4.out.2.1.cell 0 _ rfl
 have f1_1_0 := F4.out.2.1.fz 0
 have a1_1_1 := F4.out.2.1.cell 1 _ rfl
 have f1_1_1 := F4.out.2.1.fz 1
 have a1_1_2 := F4.out.2.1.cell 2 _ rfl
 have f1_1_2 := F4.out.2.1.fz 2
 have ne1_0_1 : ¬ w1.heap.size = w3.heap.size := by omega
 have ne1_1_0 : ¬ w3.heap.size = w1.heap.size := by omega
 have n0 : ¬ n < 0 := by omega
 have n2 : 0 ≤ n := by omega
 go_wp2_with fail
 all_goals first | (exfalso; omega) | skip
 refine (HM _).mono ?_
 rintro o5 w5 ⟨rfl, bb⟩
 have F5 : Hid (Bk w5 (w1.heap.size) [.string ⟨#[]⟩, .int .i64 0, .bool false] ∧ Bk w5 (w3.heap.size) [.string ⟨#[]⟩, .int .i64 0, .bool false] ∧ Below w.heap.size w w5) := ⟨(F4.out.1).step bb, (F4.out.2.1).step bb, (F4.out.2.2).trans (bb.mono (F4.out.2.2).size)⟩
 clear F4
 clear bb
 clear l1_0 a1_0_0 f1_0_0 a1_0_1 f1_0_1 a1_0_2 f1_0_2 l1_1 a1_1_0 f1_1_0 a1_1_1 f1_1_1 a1_1_2 f1_1_2
 have l2_0 := F5.out.1.lt
 have a2_0_0 := F5.out.1.cell 0 _ rfl
 have f2_0_0 := F5.out.1.fz 0
 have a2_0_1 := F5.out.1.cell 1 _ rfl
 have f2_0_1 := F5.out.1.fz 1
 have a2_0_2 := F5.out.1.cell 2 _ rfl
 have f2_0_2 := F5.out.1.fz 2
 have l2_1 := F5.out.2.1.lt
 have a2_1_0 := F5.out.2.1.cell 0 _ rfl
 have f2_1_0 := F5.out.2.1.fz 0
 have a2_1_1 := F5.out.2.1.cell 1 _ rfl
 have f2_1_1 := F5.out.2.1.fz 1
 have a2_1_2 := F5.out.2.1.cell 2 _ rfl
 have f2_1_2 := F5.out.2.1.fz 2
 have ne2_0_1 : ¬ w1.heap.size = w3.heap.size := by omega
 have ne2_1_0 : ¬ w3.heap.size = w1.heap.size := by omega
 go_wp2_with fail
 all_goals first | (exfalso; omega) | skip
 refine (works22 _).mono ?_
 rintro o6 w6 ⟨rfl, bb⟩
 have F6 : Hid (Bk w6 (w1.heap.size) [.string ⟨#[]⟩, .int .i64 0, .bool false] ∧ Bk w6 (w3.heap.size) [.string ⟨#[]⟩, .int .i64 0, .bool false] ∧ Below w.heap.size w w6) := ⟨(F5.out.1).step bb, (F5.out.2.1).step bb, (F5.out.2.2).trans (bb.mono (F5.out.2.2).size)⟩
 clear F5
 clear bb
 go_wp2
 go_ret
 exact ⟨rfl, F6.out.2.2⟩
theorem fd_zero_b {b z n : Int} (q1 : 1 ≤ n) (q2 : n ≤ 1101) (q3 : ¬ 1100 < n) (HE : ∀ W, Calls Tryz.prog 27 #[.int .u64 b, .int .i64 z] W fun e w' => e = .returned (.tuple #[.agg #[.string ⟨#[]⟩, .int .i64 0, .bool false], .int .i64 0]) ∧ Below W.heap.size W w') (HD : ∀ W, Calls Tryz.prog 7 #[.int .u64 b, .int .i64 z, .int .i64 n] W fun e w' => e = .returned (.tuple #[.agg #[.string ⟨#[]⟩, .int .i64 0, .bool false], .nilIface]) ∧ Below W.heap.size W w') (HM : ∀ W, Calls Tryz.prog 28 #[.int .u64 b, .int .i64 z] W fun e w' => e = .returned (.int .u64 0) ∧ Below W.heap.size W w')  (w : World) :
 Calls Tryz.prog 6 #[.int .u64 b, .int .i64 z, .int .i64 n] w fun x w' => x = .returned (.bool true) ∧ Below w.heap.size w w' := by
 have F0 : Hid (Below w.heap.size w w) := Below.refl _ _
 go_enter Tryz.func6, Tryz.ntmps6
 go_wp2_with fail
 all_goals first | (exfalso; omega) | skip
 refine (HE _).mono ?_
 rintro o1 w1 ⟨rfl, bb⟩
 have F1 : Hid (Below w.heap.size w w1) := (F0.out).trans (bb.mono (F0.out).size)
 clear F0
 clear bb
 have le0 := (F1.out).size
 have F2 : Hid (Bk (w1.alloc (.cells #[.string ⟨#[]⟩, .int .i64 0, .bool false] 24)) (w1.heap.size) [.string ⟨#[]⟩, .int .i64 0, .bool false] ∧ Below w.heap.size w (w1.alloc (.cells #[.string ⟨#[]⟩, .int .i64 0, .bool false] 24))) := ⟨Bk.new3 w1 (.string ⟨#[]⟩) (.int .i64 0) (.bool false) 24, (F1.out).alloc ((F1.out).size) _⟩
 clear F1
 go_upto_region 2 with fail
 generalize (w1.alloc (.cells #[.string ⟨#[]⟩, .int .i64 0, .bool false] 24)) = w2 at *
 go_wp2_with fail
 all_goals first | (exfalso; omega) | skip
 refine (HD _).mono ?_
 rintro o3 w3 ⟨rfl, bb⟩
 have F3 : Hid (Bk w3 (w1.heap.size) [.string ⟨#[]⟩, .int .i64 0, .bool false] ∧ Below w.heap.size w w3) := ⟨(F2.out.1).step bb, (F2.out.2).trans (bb.mono (F2.out.2).size)⟩
 clear F2
 clear bb
 have lt0_1 := (F3.out.1).lt
 have le1 := (F3.out.2).size
 have F4 : Hid (Bk (w3.alloc (.cells #[.string ⟨#[]⟩, .int .i64 0, .bool false] 24)) (w1.heap.size) [.string ⟨#[]⟩, .int .i64 0, .bool false] ∧ Bk (w3.alloc (.cells #[.string ⟨#[]⟩, .int .i64 0, .bool false] 24)) (w3.heap.size) [.string ⟨#[]⟩, .int .i64 0, .bool false] ∧ Below w.heap.size w (w3.alloc (.cells #[.string ⟨#[]⟩, .int .i64 0, .bool false] 24))) := ⟨(F3.out.1).step ((Below.refl _ _).alloc (Nat.le_refl _) _), Bk.new3 w3 (.string ⟨#[]⟩) (.int .i64 0) (.bool false) 24, (F3.out.2).alloc ((F3.out.2).size) _⟩
 clear F3
 go_upto_region 3 with fail
 generalize (w3.alloc (.cells #[.string ⟨#[]⟩, .int .i64 0, .bool false] 24)) = w4 at *
 have l1_0 := F4.out.1.lt
 have a1_0_0 := F4.out.1.cell 0 _ rfl
 have f1_0_0 := F4.out.1.fz 0
 have a1_0_1 := F4.out.1.cell 1 _ rfl
 have f1_0_1 := F4.out.1.fz 1
 have a1_0_2 := F4.out.1.cell 2 _ rfl
 have f1_0_2 := F4.out.1.fz 2
 have l1_1 := F4.out.2.1.lt
 have a1_1_0 := F4.out.2.1.cell 0 _ rfl
 have f1_1_0 := F4.out.2.1.fz 0
 have a1_1_1 := F4.out.2.1.cell 1 _ rfl
 have f1_1_1 := F4.out.2.1.fz 1
 have a1_1_2 := F4.out.2.1.cell 2 _ rfl
 have f1_1_2 := F4.out.2.1.fz 2
 have ne1_0_1 : ¬ w1.heap.size = w3.heap.size := by omega
 have ne1_1_0 : ¬ w3.heap.size = w1.heap.size := by omega
 have n0 : ¬ n < 0 := by omega
 have n2 : 0 ≤ n := by omega
 go_wp2_with fail
 all_goals first | (exfalso; omega) | skip
 refine (HM _).mono ?_
 rintro o5 w5 ⟨rfl, bb⟩
 have F5 : Hid (Bk w5 (w1.heap.size) [.string ⟨#[]⟩, .int .i64 0, .bool false] ∧ Bk w5 (w3.heap.size) [.string ⟨#[]⟩, .int .i64 0, .bool false] ∧ Below w.heap.size w w5) := ⟨(F4.out.1).step bb, (F4.out.2.1).step bb, (F4.out.2.2).trans (bb.mono (F4.out.2.2).size)⟩
 clear F4
 clear bb
 clear l1_0 a1_0_0 f1_0_0 a1_0_1 f1_0_1 a1_0_2 f1_0_2 l1_1 a1_1_0 f1_1_0 a1_1_1 f1_1_1 a1_1_2 f1_1_2
 have l2_0 := F5.out.1.lt
 have a2_0_0 := F5.out.1.cell 0 _ rfl
 have f2_0_0 := F5.out.1.fz 0
 have a2_0_1 := F5.out.1.cell 1 _ rfl
 have f2_0_1 := F5.out.1.fz 1
 have a2_0_2 := F5.out.1.cell 2 _ rfl
 have f2_0_2 := F5.out.1.fz 2
 have l2_1 := F5.out.2.1.lt
 have a2_1_0 := F5.out.2.1.cell 0 _ rfl
 have f2_1_0 := F5.out.2.1.fz 0
 have a2_1_1 := F5.out.2.1.cell 1 _ rfl
 have f2_1_1 := F5.out.2.1.fz 1
 have a2_1_2 := F5.out.2.1.cell 2 _ rfl
 have f2_1_2 := F5.out.2.1.fz 2
 have ne2_0_1 : ¬ w1.heap.size = w3.heap.size := by omega
 have ne2_1_0 : ¬ w3.heap.size = w1.heap.size := by omega
 go_wp2_with fail
 all_goals first | (exfalso; omega) | skip
 refine (works22 _).mono ?_
 rintro o6 w6 ⟨rfl, bb⟩
 have F6 : Hid (Bk w6 (w1.heap.size) [.string ⟨#[]⟩, .int .i64 0, .bool false] ∧ Bk w6 (w3.heap.size) [.string ⟨#[]⟩, .int .i64 0, .bool false] ∧ Below w.heap.size w w6) := ⟨(F5.out.1).step bb, (F5.out.2.1).step bb, (F5.out.2.2).trans (bb.mono (F5.out.2.2).size)⟩
 clear F5
 clear bb
 go_wp2
 go_ret
 exact ⟨rfl, F6.out.2.2⟩
theorem fd_low_s {b z n : Int} {u : ByteArray} {o x : Int} (qs : (u.size : Int) ≤ n) (_ : 1 ≤ n) (_ : n ≤ 1101) (o0 : -2000 ≤ o) (o1 : o ≤ 2000) (qx : (x == 0) = false) (q3 : n - o < 0) (HE : ∀ W, Calls Tryz.prog 27 #[.int .u64 b, .int .i64 z] W fun e w' => e = .returned (.tuple #[.agg #[.string u, .int .i64 o, .bool false], .int .i64 0]) ∧ Below W.heap.size W w') (HD : ∀ W, Calls Tryz.prog 7 #[.int .u64 b, .int .i64 z, .int .i64 n] W fun e w' => e = .returned (.tuple #[.agg #[.string u, .int .i64 o, .bool false], .nilIface]) ∧ Below W.heap.size W w') (HM : ∀ W, Calls Tryz.prog 28 #[.int .u64 b, .int .i64 z] W fun e w' => e = .returned (.int .u64 x) ∧ Below W.heap.size W w')  (w : World) :
 Calls Tryz.prog 6 #[.int .u64 b, .int .i64 z, .int .i64 n] w fun x w' => x = .returned (.bool true) ∧ Below w.heap.size w w' := by
 have F0 : Hid (Below w.heap.size w w) := Below.refl _ _
 go_enter Tryz.func6, Tryz.ntmps6
 go_wp2_with fail
 all_goals first | (exfalso; omega) | skip
 refine (HE _).mono ?_
 rintro o1 w1 ⟨rfl, bb⟩
 have F1 : Hid (Below w.heap.size w w1) := (F0.out).trans (bb.mono (F0.out).size)
 clear F0
 clear bb
 have le0 := (F1.out).size
 have F2 : Hid (Bk (w1.alloc (.cells #[.string u, .int .i64 o, .bool false] 24)) (w1.heap.size) [.string u, .int .i64 o, .bool false] ∧ Below w.heap.size w (w1.alloc (.cells #[.string u, .int .i64 o, .bool false] 24))) := ⟨Bk.new3 w1 (.string u) (.int .i64 o) (.bool false) 24, (F1.out).alloc ((F1.out).size) _⟩
 clear F1
 go_upto_region 2 with fail
 generalize (w1.alloc (.cells #[.string u, .int .i64 o, .bool false] 24)) = w2 at *
 go_wp2_with fail
 all_goals first | (exfalso; omega) | skip
 refine (HD _).mono ?_
 rintro o3 w3 ⟨rfl, bb⟩
 have F3 : Hid (Bk w3 (w1.heap.size) [.string u, .int .i64 o, .bool false] ∧ Below w.heap.size w w3) := ⟨(F2.out.1).step bb, (F2.out.2).trans (bb.mono (F2.out.2).size)⟩
 clear F2
 clear bb
 have lt0_1 := (F3.out.1).lt
 have le1 := (F3.out.2).size
 have F4 : Hid (Bk (w3.alloc (.cells #[.string u, .int .i64 o, .bool false] 24)) (w1.heap.size) [.string u, .int .i64 o, .bool false] ∧ Bk (w3.alloc (.cells #[.string u, .int .i64 o, .bool false] 24)) (w3.heap.size) [.string u, .int .i64 o, .bool false] ∧ Below w.heap.size w (w3.alloc (.cells #[.string u, .int .i64 o, .bool false] 24))) := ⟨(F3.out.1).step ((Below.refl _ _).alloc (Nat.le_refl _) _), Bk.new3 w3 (.string u) (.int .i64 o) (.bool false) 24, (F3.out.2).alloc ((F3.out.2).size) _⟩
 clear F3
 go_upto_region 3 with fail
 generalize (w3.alloc (.cells #[.string u, .int .i64 o, .bool false] 24)) = w4 at *
 have l1_0 := F4.out.1.lt
 have a1_0_0 := F4.out.1.cell 0 _ rfl
 have f1_0_0 := F4.out.1.fz 0
 have a1_0_1 := F4.out.1.cell 1 _ rfl
 have f1_0_1 := F4.out.1.fz 1
 have a1_0_2 := F4.out.1.cell 2 _ rfl
 have f1_0_2 := F4.out.1.fz 2
 have l1_1 := F4.out.2.1.lt
 have a1_1_0 := F4.out.2.1.cell 0 _ rfl
 have f1_1_0 := F4.out.2.1.fz 0
 have a1_1_1 := F4.out.2.1.cell 1 _ rfl
 have f1_1_1 := F4.out.2.1.fz 1
 have a1_1_2 := F4.out.2.1.cell 2 _ rfl
 have f1_1_2 := F4.out.2.1.fz 2
 have ne1_0_1 : ¬ w1.heap.size = w3.heap.size := by omega
 have ne1_1_0 : ¬ w3.heap.size = w1.heap.size := by omega
 have s1 : ¬ n < (u.size : Int) := by omega
 go_wp2_with fail
 all_goals first | (exfalso; omega) | skip
 refine (HM _).mono ?_
 rintro o5 w5 ⟨rfl, bb⟩
 have F5 : Hid (Bk w5 (w1.heap.size) [.string u, .int .i64 o, .bool false] ∧ Bk w5 (w3.heap.size) [.string u, .int .i64 o, .bool false] ∧ Below w.heap.size w w5) := ⟨(F4.out.1).step bb, (F4.out.2.1).step bb, (F4.out.2.2).trans (bb.mono (F4.out.2.2).size)⟩
 clear F4
 clear bb
 clear l1_0 a1_0_0 f1_0_0 a1_0_1 f1_0_1 a1_0_2 f1_0_2 l1_1 a1_1_0 f1_1_0 a1_1_1 f1_1_1 a1_1_2 f1_1_2
 have l2_0 := F5.out.1.lt
 have a2_0_0 := F5.out.1.cell 0 _ rfl
 have f2_0_0 := F5.out.1.fz 0
 have a2_0_1 := F5.out.1.cell 1 _ rfl
 have f2_0_1 := F5.out.1.fz 1
 have a2_0_2 := F5.out.1.cell 2 _ rfl
 have f2_0_2 := F5.out.1.fz 2
 have l2_1 := F5.out.2.1.lt
 have a2_1_0 := F5.out.2.1.cell 0 _ rfl
 have f2_1_0 := F5.out.2.1.fz 0
 have a2_1_1 := F5.out.2.1.cell 1 _ rfl
 have f2_1_1 := F5.out.2.1.fz 1
 have a2_1_2 := F5.out.2.1.cell 2 _ rfl
 have f2_1_2 := F5.out.2.1.fz 2
 have ne2_0_1 : ¬ w1.heap.size = w3.heap.size := by omega
 have ne2_1_0 : ¬ w3.heap.size = w1.heap.size := by omega
 go_wp2_with fail
 all_goals first | (exfalso; omega) | skip
 refine (works22 _).mono ?_
 rintro o6 w6 ⟨rfl, bb⟩
 have F6 : Hid (Bk w6 (w1.heap.size) [.string u, .int .i64 o, .bool false] ∧ Bk w6 (w3.heap.size) [.string u, .int .i64 o, .bool false] ∧ Below w.heap.size w w6) := ⟨(F5.out.1).step bb, (F5.out.2.1).step bb, (F5.out.2.2).trans (bb.mono (F5.out.2.2).size)⟩
 clear F5
 clear bb
 go_wp2
 go_ret
 exact ⟨rfl, F6.out.2.2⟩
theorem fd_high_s {b z n : Int} {u : ByteArray} {o x : Int} (qs : (u.size : Int) ≤ n) (n1 : 1 ≤ n) (n9 : n ≤ 1101) (o0 : -2000 ≤ o) (o1 : o ≤ 2000) (qx : (x == 0) = false) (_ : ¬ n - o < 0) (q4 : 1100 < n - o) (HE : ∀ W, Calls Tryz.prog 27 #[.int .u64 b, .int .i64 z] W fun e w' => e = .returned (.tuple #[.agg #[.string u, .int .i64 o, .bool false], .int .i64 0]) ∧ Below W.heap.size W w') (HD : ∀ W, Calls Tryz.prog 7 #[.int .u64 b, .int .i64 z, .int .i64 n] W fun e w' => e = .returned (.tuple #[.agg #[.string u, .int .i64 o, .bool false], .nilIface]) ∧ Below W.heap.size W w') (HM : ∀ W, Calls Tryz.prog 28 #[.int .u64 b, .int .i64 z] W fun e w' => e = .returned (.int .u64 x) ∧ Below W.heap.size W w')  (w : World) :
 Calls Tryz.prog 6 #[.int .u64 b, .int .i64 z, .int .i64 n] w fun x w' => x = .returned (.bool true) ∧ Below w.heap.size w w' := by
 have F0 : Hid (Below w.heap.size w w) := Below.refl _ _
 go_enter Tryz.func6, Tryz.ntmps6
 go_wp2_with fail
 all_goals first | (exfalso; omega) | skip
 refine (HE _).mono ?_
 rintro o1 w1 ⟨rfl, bb⟩
 have F1 : Hid (Below w.heap.size w w1) := (F0.out).trans (bb.mono (F0.out).size)
 clear F0
 clear bb
 have le0 := (F1.out).size
 have F2 : Hid (Bk (w1.alloc (.cells #[.string u, .int .i64 o, .bool false] 24)) (w1.heap.size) [.string u, .int .i64 o, .bool false] ∧ Below w.heap.size w (w1.alloc (.cells #[.string u, .int .i64 o, .bool false] 24))) := ⟨Bk.new3 w1 (.string u) (.int .i64 o) (.bool false) 24, (F1.out).alloc ((F1.out).size) _⟩
 clear F1
 go_upto_region 2 with fail
 generalize (w1.alloc (.cells #[.string u, .int .i64 o, .bool false] 24)) = w2 at *
 go_wp2_with fail
 all_goals first | (exfalso; omega) | skip
 refine (HD _).mono ?_
 rintro o3 w3 ⟨rfl, bb⟩
 have F3 : Hid (Bk w3 (w1.heap.size) [.string u, .int .i64 o, .bool false] ∧ Below w.heap.size w w3) := ⟨(F2.out.1).step bb, (F2.out.2).trans (bb.mono (F2.out.2).size)⟩
 clear F2
 clear bb
 have lt0_1 := (F3.out.1).lt
 have le1 := (F3.out.2).size
 have F4 : Hid (Bk (w3.alloc (.cells #[.string u, .int .i64 o, .bool false] 24)) (w1.heap.size) [.string u, .int .i64 o, .bool false] ∧ Bk (w3.alloc (.cells #[.string u, .int .i64 o, .bool false] 24)) (w3.heap.size) [.string u, .int .i64 o, .bool false] ∧ Below w.heap.size w (w3.alloc (.cells #[.string u, .int .i64 o, .bool false] 24))) := ⟨(F3.out.1).step ((Below.refl _ _).alloc (Nat.le_refl _) _), Bk.new3 w3 (.string u) (.int .i64 o) (.bool false) 24, (F3.out.2).alloc ((F3.out.2).size) _⟩
 clear F3
 go_upto_region 3 with fail
 generalize (w3.alloc (.cells #[.string u, .int .i64 o, .bool false] 24)) = w4 at *
 have l1_0 := F4.out.1.lt
 have a1_0_0 := F4.out.1.cell 0 _ rfl
 have f1_0_0 := F4.out.1.fz 0
 have a1_0_1 := F4.out.1.cell 1 _ rfl
 have f1_0_1 := F4.out.1.fz 1
 have a1_0_2 := F4.out.1.cell 2 _ rfl
 have f1_0_2 := F4.out.1.fz 2
 have l1_1 := F4.out.2.1.lt
 have a1_1_0 := F4.out.2.1.cell 0 _ rfl
 have f1_1_0 := F4.out.2.1.fz 0
 have a1_1_1 := F4.out.2.1.cell 1 _ rfl
 have f1_1_1 := F4.out.2.1.fz 1
 have a1_1_2 := F4.out.2.1.cell 2 _ rfl
 have f1_1_2 := F4.out.2.1.fz 2
 have ne1_0_1 : ¬ w1.heap.size = w3.heap.size := by omega
 have ne1_1_0 : ¬ w3.heap.size = w1.heap.size := by omega
 have s1 : ¬ n < (u.size : Int) := by omega
 go_wp2_with fail
 all_goals first | (exfalso; omega) | skip
 refine (HM _).mono ?_
 rintro o5 w5 ⟨rfl, bb⟩
 have F5 : Hid (Bk w5 (w1.heap.size) [.string u, .int .i64 o, .bool false] ∧ Bk w5 (w3.heap.size) [.string u, .int .i64 o, .bool false] ∧ Below w.heap.size w w5) := ⟨(F4.out.1).step bb, (F4.out.2.1).step bb, (F4.out.2.2).trans (bb.mono (F4.out.2.2).size)⟩
 clear F4
 clear bb
 clear l1_0 a1_0_0 f1_0_0 a1_0_1 f1_0_1 a1_0_2 f1_0_2 l1_1 a1_1_0 f1_1_0 a1_1_1 f1_1_1 a1_1_2 f1_1_2
 have l2_0 := F5.out.1.lt
 have a2_0_0 := F5.out.1.cell 0 _ rfl
 have f2_0_0 := F5.out.1.fz 0
 have a2_0_1 := F5.out.1.cell 1 _ rfl
 have f2_0_1 := F5.out.1.fz 1
 have a2_0_2 := F5.out.1.cell 2 _ rfl
 have f2_0_2 := F5.out.1.fz 2
 have l2_1 := F5.out.2.1.lt
 have a2_1_0 := F5.out.2.1.cell 0 _ rfl
 have f2_1_0 := F5.out.2.1.fz 0
 have a2_1_1 := F5.out.2.1.cell 1 _ rfl
 have f2_1_1 := F5.out.2.1.fz 1
 have a2_1_2 := F5.out.2.1.cell 2 _ rfl
 have f2_1_2 := F5.out.2.1.fz 2
 have ne2_0_1 : ¬ w1.heap.size = w3.heap.size := by omega
 have ne2_1_0 : ¬ w3.heap.size = w1.heap.size := by omega
 go_wp2_with fail
 all_goals first | (exfalso; omega) | skip
 refine (works22 _).mono ?_
 rintro o6 w6 ⟨rfl, bb⟩
 have F6 : Hid (Bk w6 (w1.heap.size) [.string u, .int .i64 o, .bool false] ∧ Bk w6 (w3.heap.size) [.string u, .int .i64 o, .bool false] ∧ Below w.heap.size w w6) := ⟨(F5.out.1).step bb, (F5.out.2.1).step bb, (F5.out.2.2).trans (bb.mono (F5.out.2.2).size)⟩
 clear F5
 clear bb
 go_wp2
 go_ret
 exact ⟨rfl, F6.out.2.2⟩
theorem fd_in_s {b z n : Int} {u : ByteArray} {o x : Int} (qs : (u.size : Int) ≤ n) (_ : 1 ≤ n) (_ : n ≤ 1101) (_ : -2000 ≤ o) (_ : o ≤ 2000) (qx : (x == 0) = false) (h0 : 0 < u.size) (q3 : ¬ n - o < 0) (q4 : ¬ 1100 < n - o) (HE : ∀ W, Calls Tryz.prog 27 #[.int .u64 b, .int .i64 z] W fun e w' => e = .returned (.tuple #[.agg #[.string u, .int .i64 o, .bool false], .int .i64 0]) ∧ Below W.heap.size W w') (HD : ∀ W, Calls Tryz.prog 7 #[.int .u64 b, .int .i64 z, .int .i64 n] W fun e w' => e = .returned (.tuple #[.agg #[.string u, .int .i64 o, .bool false], .nilIface]) ∧ Below W.heap.size W w') (HM : ∀ W, Calls Tryz.prog 28 #[.int .u64 b, .int .i64 z] W fun e w' => e = .returned (.int .u64 x) ∧ Below W.heap.size W w') (HP : ∀ W, Calls Tryz.prog 9 #[.int .u64 b, .int .i64 z, .int .i64 (n - o)] W fun e w' => e = .returned (.tuple #[.agg #[.string u, .int .i64 o, .bool false], .nilIface]) ∧ Below W.heap.size W w') (HX : ∀ W, Calls Tryz.prog 15 #[.int .u64 b, .int .i64 z, .int .i64 (n - o)] W fun e w' => e = .returned (.tuple #[.bool true, .nilIface]) ∧ Below W.heap.size W w') (w : World) :
 Calls Tryz.prog 6 #[.int .u64 b, .int .i64 z, .int .i64 n] w fun x w' => x = .returned (.bool true) ∧ Below w.heap.size w w' := by
 have he : u.toList.isEmpty = false := empty_false h0
 have F0 : Hid (Below w.heap.size w w) := Below.refl _ _
 go_enter Tryz.func6, Tryz.ntmps6
 go_wp2_with fail
 all_goals first | (exfalso; omega) | skip
 refine (HE _).mono ?_
 rintro o1 w1 ⟨rfl, bb⟩
 have F1 : Hid (Below w.heap.size w w1) := (F0.out).trans (bb.mono (F0.out).size)
 clear F0
 clear bb
 have le0 := (F1.out).size
 have F2 : Hid (Bk (w1.alloc (.cells #[.string u, .int .i64 o, .bool false] 24)) (w1.heap.size) [.string u, .int .i64 o, .bool false] ∧ Below w.heap.size w (w1.alloc (.cells #[.string u, .int .i64 o, .bool false] 24))) := ⟨Bk.new3 w1 (.string u) (.int .i64 o) (.bool false) 24, (F1.out).alloc ((F1.out).size) _⟩
 clear F1
 go_upto_region 2 with fail
 generalize (w1.alloc (.cells #[.string u, .int .i64 o, .bool false] 24)) = w2 at *
 go_wp2_with fail
 all_goals first | (exfalso; omega) | skip
 refine (HD _).mono ?_
 rintro o3 w3 ⟨rfl, bb⟩
 have F3 : Hid (Bk w3 (w1.heap.size) [.string u, .int .i64 o, .bool false] ∧ Below w.heap.size w w3) := ⟨(F2.out.1).step bb, (F2.out.2).trans (bb.mono (F2.out.2).size)⟩
 clear F2
 clear bb
 have lt0_1 := (F3.out.1).lt
 have le1 := (F3.out.2).size
 have F4 : Hid (Bk (w3.alloc (.cells #[.string u, .int .i64 o, .bool false] 24)) (w1.heap.size) [.string u, .int .i64 o, .bool false] ∧ Bk (w3.alloc (.cells #[.string u, .int .i64 o, .bool false] 24)) (w3.heap.size) [.string u, .int .i64 o, .bool false] ∧ Below w.heap.size w (w3.alloc (.cells #[.string u, .int .i64 o, .bool false] 24))) := ⟨(F3.out.1).step ((Below.refl _ _).alloc (Nat.le_refl _) _), Bk.new3 w3 (.string u) (.int .i64 o) (.bool false) 24, (F3.out.2).alloc ((F3.out.2).size) _⟩
 clear F3
 go_upto_region 3 with fail
 generalize (w3.alloc (.cells #[.string u, .int .i64 o, .bool false] 24)) = w4 at *
 have l1_0 := F4.out.1.lt
 have a1_0_0 := F4.out.1.cell 0 _ rfl
 have f1_0_0 := F4.out.1.fz 0
 have a1_0_1 := F4.out.1.cell 1 _ rfl
 have f1_0_1 := F4.out.1.fz 1
 have a1_0_2 := F4.out.1.cell 2 _ rfl
 have f1_0_2 := F4.out.1.fz 2
 have l1_1 := F4.out.2.1.lt
 have a1_1_0 := F4.out.2.1.cell 0 _ rfl
 have f1_1_0 := F4.out.2.1.fz 0
 have a1_1_1 := F4.out.2.1.cell 1 _ rfl
 have f1_1_1 := F4.out.2.1.fz 1
 have a1_1_2 := F4.out.2.1.cell 2 _ rfl
 have f1_1_2 := F4.out.2.1.fz 2
 have ne1_0_1 : ¬ w1.heap.size = w3.heap.size := by omega
 have ne1_1_0 : ¬ w3.heap.size = w1.heap.size := by omega
 have s1 : ¬ n < (u.size : Int) := by omega
 go_wp2_with fail
 all_goals first | (exfalso; omega) | skip
 refine (HM _).mono ?_
 rintro o5 w5 ⟨rfl, bb⟩
 have F5 : Hid (Bk w5 (w1.heap.size) [.string u, .int .i64 o, .bool false] ∧ Bk w5 (w3.heap.size) [.string u, .int .i64 o, .bool false] ∧ Below w.heap.size w w5) := ⟨(F4.out.1).step bb, (F4.out.2.1).step bb, (F4.out.2.2).trans (bb.mono (F4.out.2.2).size)⟩
 clear F4
 clear bb
 clear l1_0 a1_0_0 f1_0_0 a1_0_1 f1_0_1 a1_0_2 f1_0_2 l1_1 a1_1_0 f1_1_0 a1_1_1 f1_1_1 a1_1_2 f1_1_2
 have l2_0 := F5.out.1.lt
 have a2_0_0 := F5.out.1.cell 0 _ rfl
 have f2_0_0 := F5.out.1.fz 0
 have a2_0_1 := F5.out.1.cell 1 _ rfl
 have f2_0_1 := F5.out.1.fz 1
 have a2_0_2 := F5.out.1.cell 2 _ rfl
 have f2_0_2 := F5.out.1.fz 2
 have l2_1 := F5.out.2.1.lt
 have a2_1_0 := F5.out.2.1.cell 0 _ rfl
 have f2_1_0 := F5.out.2.1.fz 0
 have a2_1_1 := F5.out.2.1.cell 1 _ rfl
 have f2_1_1 := F5.out.2.1.fz 1
 have a2_1_2 := F5.out.2.1.cell 2 _ rfl
 have f2_1_2 := F5.out.2.1.fz 2
 have ne2_0_1 : ¬ w1.heap.size = w3.heap.size := by omega
 have ne2_1_0 : ¬ w3.heap.size = w1.heap.size := by omega
 go_wp2_with fail
 all_goals first | (exfalso; omega) | skip
 refine (HP _).mono ?_
 rintro o6 w6 ⟨rfl, bb⟩
 have F6 : Hid (Bk w6 (w1.heap.size) [.string u, .int .i64 o, .bool false] ∧ Bk w6 (w3.heap.size) [.string u, .int .i64 o, .bool false] ∧ Below w.heap.size w w6) := ⟨(F5.out.1).step bb, (F5.out.2.1).step bb, (F5.out.2.2).trans (bb.mono (F5.out.2.2).size)⟩
 clear F5
 clear bb
 clear l2_0 a2_0_0 f2_0_0 a2_0_1 f2_0_1 a2_0_2 f2_0_2 l2_1 a2_1_0 f2_1_0 a2_1_1 f2_1_1 a2_1_2 f2_1_2
 have lt0_2 := (F6.out.1).lt
 have lt1_2 := (F6.out.2.1).lt
 have le2 := (F6.out.2.2).size
 have F7 : Hid (Bk (w6.alloc (.cells #[.string u, .int .i64 o, .bool false] 24)) (w1.heap.size) [.string u, .int .i64 o, .bool false] ∧ Bk (w6.alloc (.cells #[.string u, .int .i64 o, .bool false] 24)) (w3.heap.size) [.string u, .int .i64 o, .bool false] ∧ Bk (w6.alloc (.cells #[.string u, .int .i64 o, .bool false] 24)) (w6.heap.size) [.string u, .int .i64 o, .bool false] ∧ Below w.heap.size w (w6.alloc (.cells #[.string u, .int .i64 o, .bool false] 24))) := ⟨(F6.out.1).step ((Below.refl _ _).alloc (Nat.le_refl _) _), (F6.out.2.1).step ((Below.refl _ _).alloc (Nat.le_refl _) _), Bk.new3 w6 (.string u) (.int .i64 o) (.bool false) 24, (F6.out.2.2).alloc ((F6.out.2.2).size) _⟩
 clear F6
 go_upto_region 11 with fail
 generalize (w6.alloc (.cells #[.string u, .int .i64 o, .bool false] 24)) = w7 at *
 have l3_0 := F7.out.1.lt
 have a3_0_0 := F7.out.1.cell 0 _ rfl
 have f3_0_0 := F7.out.1.fz 0
 have a3_0_1 := F7.out.1.cell 1 _ rfl
 have f3_0_1 := F7.out.1.fz 1
 have a3_0_2 := F7.out.1.cell 2 _ rfl
 have f3_0_2 := F7.out.1.fz 2
 have l3_1 := F7.out.2.1.lt
 have a3_1_0 := F7.out.2.1.cell 0 _ rfl
 have f3_1_0 := F7.out.2.1.fz 0
 have a3_1_1 := F7.out.2.1.cell 1 _ rfl
 have f3_1_1 := F7.out.2.1.fz 1
 have a3_1_2 := F7.out.2.1.cell 2 _ rfl
 have f3_1_2 := F7.out.2.1.fz 2
 have l3_2 := F7.out.2.2.1.lt
 have a3_2_0 := F7.out.2.2.1.cell 0 _ rfl
 have f3_2_0 := F7.out.2.2.1.fz 0
 have a3_2_1 := F7.out.2.2.1.cell 1 _ rfl
 have f3_2_1 := F7.out.2.2.1.fz 1
 have a3_2_2 := F7.out.2.2.1.cell 2 _ rfl
 have f3_2_2 := F7.out.2.2.1.fz 2
 have ne3_0_1 : ¬ w1.heap.size = w3.heap.size := by omega
 have ne3_0_2 : ¬ w1.heap.size = w6.heap.size := by omega
 have ne3_1_0 : ¬ w3.heap.size = w1.heap.size := by omega
 have ne3_1_2 : ¬ w3.heap.size = w6.heap.size := by omega
 have ne3_2_0 : ¬ w6.heap.size = w1.heap.size := by omega
 have ne3_2_1 : ¬ w6.heap.size = w3.heap.size := by omega
 go_wp2_with fail
 all_goals first | (exfalso; omega) | skip
 refine (HX _).mono ?_
 rintro o8 w8 ⟨rfl, bb⟩
 have F8 : Hid (Bk w8 (w1.heap.size) [.string u, .int .i64 o, .bool false] ∧ Bk w8 (w3.heap.size) [.string u, .int .i64 o, .bool false] ∧ Bk w8 (w6.heap.size) [.string u, .int .i64 o, .bool false] ∧ Below w.heap.size w w8) := ⟨(F7.out.1).step bb, (F7.out.2.1).step bb, (F7.out.2.2.1).step bb, (F7.out.2.2.2).trans (bb.mono (F7.out.2.2.2).size)⟩
 clear F7
 clear bb
 clear l3_0 a3_0_0 f3_0_0 a3_0_1 f3_0_1 a3_0_2 f3_0_2 l3_1 a3_1_0 f3_1_0 a3_1_1 f3_1_1 a3_1_2 f3_1_2 l3_2 a3_2_0 f3_2_0 a3_2_1 f3_2_1 a3_2_2 f3_2_2
 have l4_0 := F8.out.1.lt
 have a4_0_0 := F8.out.1.cell 0 _ rfl
 have f4_0_0 := F8.out.1.fz 0
 have a4_0_1 := F8.out.1.cell 1 _ rfl
 have f4_0_1 := F8.out.1.fz 1
 have a4_0_2 := F8.out.1.cell 2 _ rfl
 have f4_0_2 := F8.out.1.fz 2
 have l4_1 := F8.out.2.1.lt
 have a4_1_0 := F8.out.2.1.cell 0 _ rfl
 have f4_1_0 := F8.out.2.1.fz 0
 have a4_1_1 := F8.out.2.1.cell 1 _ rfl
 have f4_1_1 := F8.out.2.1.fz 1
 have a4_1_2 := F8.out.2.1.cell 2 _ rfl
 have f4_1_2 := F8.out.2.1.fz 2
 have l4_2 := F8.out.2.2.1.lt
 have a4_2_0 := F8.out.2.2.1.cell 0 _ rfl
 have f4_2_0 := F8.out.2.2.1.fz 0
 have a4_2_1 := F8.out.2.2.1.cell 1 _ rfl
 have f4_2_1 := F8.out.2.2.1.fz 1
 have a4_2_2 := F8.out.2.2.1.cell 2 _ rfl
 have f4_2_2 := F8.out.2.2.1.fz 2
 have ne4_0_1 : ¬ w1.heap.size = w3.heap.size := by omega
 have ne4_0_2 : ¬ w1.heap.size = w6.heap.size := by omega
 have ne4_1_0 : ¬ w3.heap.size = w1.heap.size := by omega
 have ne4_1_2 : ¬ w3.heap.size = w6.heap.size := by omega
 have ne4_2_0 : ¬ w6.heap.size = w1.heap.size := by omega
 have ne4_2_1 : ¬ w6.heap.size = w3.heap.size := by omega
 go_wp2_with fail
 all_goals first | (exfalso; omega) | skip
 refine (works22 _).mono ?_
 rintro o9 w9 ⟨rfl, bb⟩
 have F9 : Hid (Bk w9 (w1.heap.size) [.string u, .int .i64 o, .bool false] ∧ Bk w9 (w3.heap.size) [.string u, .int .i64 o, .bool false] ∧ Bk w9 (w6.heap.size) [.string u, .int .i64 o, .bool false] ∧ Below w.heap.size w w9) := ⟨(F8.out.1).step bb, (F8.out.2.1).step bb, (F8.out.2.2.1).step bb, (F8.out.2.2.2).trans (bb.mono (F8.out.2.2.2).size)⟩
 clear F8
 clear bb
 go_wp2
 go_ret
 exact ⟨rfl, F9.out.2.2.2⟩
theorem fd_low_t {b z n : Int} {u v : ByteArray} {o k x : Int} (qs : (v.size : Int) ≤ n) (qt : ¬ (u.size : Int) ≤ n) (_ : 1 ≤ n) (_ : n ≤ 1101) (o0 : -2000 ≤ o) (o1 : o ≤ 2000) (qx : (x == 0) = false) (q3 : n - o < 0) (HE : ∀ W, Calls Tryz.prog 27 #[.int .u64 b, .int .i64 z] W fun e w' => e = .returned (.tuple #[.agg #[.string u, .int .i64 o, .bool false], .int .i64 0]) ∧ Below W.heap.size W w') (HD : ∀ W, Calls Tryz.prog 7 #[.int .u64 b, .int .i64 z, .int .i64 n] W fun e w' => e = .returned (.tuple #[.agg #[.string v, .int .i64 k, .bool false], .nilIface]) ∧ Below W.heap.size W w') (HM : ∀ W, Calls Tryz.prog 28 #[.int .u64 b, .int .i64 z] W fun e w' => e = .returned (.int .u64 x) ∧ Below W.heap.size W w')  (w : World) :
 Calls Tryz.prog 6 #[.int .u64 b, .int .i64 z, .int .i64 n] w fun x w' => x = .returned (.bool true) ∧ Below w.heap.size w w' := by
 have F0 : Hid (Below w.heap.size w w) := Below.refl _ _
 go_enter Tryz.func6, Tryz.ntmps6
 go_wp2_with fail
 all_goals first | (exfalso; omega) | skip
 refine (HE _).mono ?_
 rintro o1 w1 ⟨rfl, bb⟩
 have F1 : Hid (Below w.heap.size w w1) := (F0.out).trans (bb.mono (F0.out).size)
 clear F0
 clear bb
 have le0 := (F1.out).size
 have F2 : Hid (Bk (w1.alloc (.cells #[.string u, .int .i64 o, .bool false] 24)) (w1.heap.size) [.string u, .int .i64 o, .bool false] ∧ Below w.heap.size w (w1.alloc (.cells #[.string u, .int .i64 o, .bool false] 24))) := ⟨Bk.new3 w1 (.string u) (.int .i64 o) (.bool false) 24, (F1.out).alloc ((F1.out).size) _⟩
 clear F1
 go_upto_region 2 with fail
 generalize (w1.alloc (.cells #[.string u, .int .i64 o, .bool false] 24)) = w2 at *
 go_wp2_with fail
 all_goals first | (exfalso; omega) | skip
 refine (HD _).mono ?_
 rintro o3 w3 ⟨rfl, bb⟩
 have F3 : Hid (Bk w3 (w1.heap.size) [.string u, .int .i64 o, .bool false] ∧ Below w.heap.size w w3) := ⟨(F2.out.1).step bb, (F2.out.2).trans (bb.mono (F2.out.2).size)⟩
 clear F2
 clear bb
 have lt0_1 := (F3.out.1).lt
 have le1 := (F3.out.2).size
 have F4 : Hid (Bk (w3.alloc (.cells #[.string v, .int .i64 k, .bool false] 24)) (w1.heap.size) [.string u, .int .i64 o, .bool false] ∧ Bk (w3.alloc (.cells #[.string v, .int .i64 k, .bool false] 24)) (w3.heap.size) [.string v, .int .i64 k, .bool false] ∧ Below w.heap.size w (w3.alloc (.cells #[.string v, .int .i64 k, .bool false] 24))) := ⟨(F3.out.1).step ((Below.refl _ _).alloc (Nat.le_refl _) _), Bk.new3 w3 (.string v) (.int .i64 k) (.bool false) 24, (F3.out.2).alloc ((F3.out.2).size) _⟩
 clear F3
 go_upto_region 3 with fail
 generalize (w3.alloc (.cells #[.string v, .int .i64 k, .bool false] 24)) = w4 at *
 have l1_0 := F4.out.1.lt
 have a1_0_0 := F4.out.1.cell 0 _ rfl
 have f1_0_0 := F4.out.1.fz 0
 have a1_0_1 := F4.out.1.cell 1 _ rfl
 have f1_0_1 := F4.out.1.fz 1
 have a1_0_2 := F4.out.1.cell 2 _ rfl
 have f1_0_2 := F4.out.1.fz 2
 have l1_1 := F4.out.2.1.lt
 have a1_1_0 := F4.out.2.1.cell 0 _ rfl
 have f1_1_0 := F4.out.2.1.fz 0
 have a1_1_1 := F4.out.2.1.cell 1 _ rfl
 have f1_1_1 := F4.out.2.1.fz 1
 have a1_1_2 := F4.out.2.1.cell 2 _ rfl
 have f1_1_2 := F4.out.2.1.fz 2
 have ne1_0_1 : ¬ w1.heap.size = w3.heap.size := by omega
 have ne1_1_0 : ¬ w3.heap.size = w1.heap.size := by omega
 have s1 : ¬ n < (v.size : Int) := by omega
 go_wp2_with fail
 all_goals first | (exfalso; omega) | skip
 refine (HM _).mono ?_
 rintro o5 w5 ⟨rfl, bb⟩
 have F5 : Hid (Bk w5 (w1.heap.size) [.string u, .int .i64 o, .bool false] ∧ Bk w5 (w3.heap.size) [.string v, .int .i64 k, .bool false] ∧ Below w.heap.size w w5) := ⟨(F4.out.1).step bb, (F4.out.2.1).step bb, (F4.out.2.2).trans (bb.mono (F4.out.2.2).size)⟩
 clear F4
 clear bb
 clear l1_0 a1_0_0 f1_0_0 a1_0_1 f1_0_1 a1_0_2 f1_0_2 l1_1 a1_1_0 f1_1_0 a1_1_1 f1_1_1 a1_1_2 f1_1_2
 have l2_0 := F5.out.1.lt
 have a2_0_0 := F5.out.1.cell 0 _ rfl
 have f2_0_0 := F5.out.1.fz 0
 have a2_0_1 := F5.out.1.cell 1 _ rfl
 have f2_0_1 := F5.out.1.fz 1
 have a2_0_2 := F5.out.1.cell 2 _ rfl
 have f2_0_2 := F5.out.1.fz 2
 have l2_1 := F5.out.2.1.lt
 have a2_1_0 := F5.out.2.1.cell 0 _ rfl
 have f2_1_0 := F5.out.2.1.fz 0
 have a2_1_1 := F5.out.2.1.cell 1 _ rfl
 have f2_1_1 := F5.out.2.1.fz 1
 have a2_1_2 := F5.out.2.1.cell 2 _ rfl
 have f2_1_2 := F5.out.2.1.fz 2
 have ne2_0_1 : ¬ w1.heap.size = w3.heap.size := by omega
 have ne2_1_0 : ¬ w3.heap.size = w1.heap.size := by omega
 go_wp2_with fail
 all_goals first | (exfalso; omega) | skip
 refine (works22 _).mono ?_
 rintro o6 w6 ⟨rfl, bb⟩
 have F6 : Hid (Bk w6 (w1.heap.size) [.string u, .int .i64 o, .bool false] ∧ Bk w6 (w3.heap.size) [.string v, .int .i64 k, .bool false] ∧ Below w.heap.size w w6) := ⟨(F5.out.1).step bb, (F5.out.2.1).step bb, (F5.out.2.2).trans (bb.mono (F5.out.2.2).size)⟩
 clear F5
 clear bb
 go_wp2
 go_ret
 exact ⟨rfl, F6.out.2.2⟩
theorem fd_high_t {b z n : Int} {u v : ByteArray} {o k x : Int} (qs : (v.size : Int) ≤ n) (qt : ¬ (u.size : Int) ≤ n) (n1 : 1 ≤ n) (n9 : n ≤ 1101) (o0 : -2000 ≤ o) (o1 : o ≤ 2000) (qx : (x == 0) = false) (_ : ¬ n - o < 0) (q4 : 1100 < n - o) (HE : ∀ W, Calls Tryz.prog 27 #[.int .u64 b, .int .i64 z] W fun e w' => e = .returned (.tuple #[.agg #[.string u, .int .i64 o, .bool false], .int .i64 0]) ∧ Below W.heap.size W w') (HD : ∀ W, Calls Tryz.prog 7 #[.int .u64 b, .int .i64 z, .int .i64 n] W fun e w' => e = .returned (.tuple #[.agg #[.string v, .int .i64 k, .bool false], .nilIface]) ∧ Below W.heap.size W w') (HM : ∀ W, Calls Tryz.prog 28 #[.int .u64 b, .int .i64 z] W fun e w' => e = .returned (.int .u64 x) ∧ Below W.heap.size W w')  (w : World) :
 Calls Tryz.prog 6 #[.int .u64 b, .int .i64 z, .int .i64 n] w fun x w' => x = .returned (.bool true) ∧ Below w.heap.size w w' := by
 have F0 : Hid (Below w.heap.size w w) := Below.refl _ _
 go_enter Tryz.func6, Tryz.ntmps6
 go_wp2_with fail
 all_goals first | (exfalso; omega) | skip
 refine (HE _).mono ?_
 rintro o1 w1 ⟨rfl, bb⟩
 have F1 : Hid (Below w.heap.size w w1) := (F0.out).trans (bb.mono (F0.out).size)
 clear F0
 clear bb
 have le0 := (F1.out).size
 have F2 : Hid (Bk (w1.alloc (.cells #[.string u, .int .i64 o, .bool false] 24)) (w1.heap.size) [.string u, .int .i64 o, .bool false] ∧ Below w.heap.size w (w1.alloc (.cells #[.string u, .int .i64 o, .bool false] 24))) := ⟨Bk.new3 w1 (.string u) (.int .i64 o) (.bool false) 24, (F1.out).alloc ((F1.out).size) _⟩
 clear F1
 go_upto_region 2 with fail
 generalize (w1.alloc (.cells #[.string u, .int .i64 o, .bool false] 24)) = w2 at *
 go_wp2_with fail
 all_goals first | (exfalso; omega) | skip
 refine (HD _).mono ?_
 rintro o3 w3 ⟨rfl, bb⟩
 have F3 : Hid (Bk w3 (w1.heap.size) [.string u, .int .i64 o, .bool false] ∧ Below w.heap.size w w3) := ⟨(F2.out.1).step bb, (F2.out.2).trans (bb.mono (F2.out.2).size)⟩
 clear F2
 clear bb
 have lt0_1 := (F3.out.1).lt
 have le1 := (F3.out.2).size
 have F4 : Hid (Bk (w3.alloc (.cells #[.string v, .int .i64 k, .bool false] 24)) (w1.heap.size) [.string u, .int .i64 o, .bool false] ∧ Bk (w3.alloc (.cells #[.string v, .int .i64 k, .bool false] 24)) (w3.heap.size) [.string v, .int .i64 k, .bool false] ∧ Below w.heap.size w (w3.alloc (.cells #[.string v, .int .i64 k, .bool false] 24))) := ⟨(F3.out.1).step ((Below.refl _ _).alloc (Nat.le_refl _) _), Bk.new3 w3 (.string v) (.int .i64 k) (.bool false) 24, (F3.out.2).alloc ((F3.out.2).size) _⟩
 clear F3
 go_upto_region 3 with fail
 generalize (w3.alloc (.cells #[.string v, .int .i64 k, .bool false] 24)) = w4 at *
 have l1_0 := F4.out.1.lt
 have a1_0_0 := F4.out.1.cell 0 _ rfl
 have f1_0_0 := F4.out.1.fz 0
 have a1_0_1 := F4.out.1.cell 1 _ rfl
 have f1_0_1 := F4.out.1.fz 1
 have a1_0_2 := F4.out.1.cell 2 _ rfl
 have f1_0_2 := F4.out.1.fz 2
 have l1_1 := F4.out.2.1.lt
 have a1_1_0 := F4.out.2.1.cell 0 _ rfl
 have f1_1_0 := F4.out.2.1.fz 0
 have a1_1_1 := F4.out.2.1.cell 1 _ rfl
 have f1_1_1 := F4.out.2.1.fz 1
 have a1_1_2 := F4.out.2.1.cell 2 _ rfl
 have f1_1_2 := F4.out.2.1.fz 2
 have ne1_0_1 : ¬ w1.heap.size = w3.heap.size := by omega
 have ne1_1_0 : ¬ w3.heap.size = w1.heap.size := by omega
 have s1 : ¬ n < (v.size : Int) := by omega
 go_wp2_with fail
 all_goals first | (exfalso; omega) | skip
 refine (HM _).mono ?_
 rintro o5 w5 ⟨rfl, bb⟩
 have F5 : Hid (Bk w5 (w1.heap.size) [.string u, .int .i64 o, .bool false] ∧ Bk w5 (w3.heap.size) [.string v, .int .i64 k, .bool false] ∧ Below w.heap.size w w5) := ⟨(F4.out.1).step bb, (F4.out.2.1).step bb, (F4.out.2.2).trans (bb.mono (F4.out.2.2).size)⟩
 clear F4
 clear bb
 clear l1_0 a1_0_0 f1_0_0 a1_0_1 f1_0_1 a1_0_2 f1_0_2 l1_1 a1_1_0 f1_1_0 a1_1_1 f1_1_1 a1_1_2 f1_1_2
 have l2_0 := F5.out.1.lt
 have a2_0_0 := F5.out.1.cell 0 _ rfl
 have f2_0_0 := F5.out.1.fz 0
 have a2_0_1 := F5.out.1.cell 1 _ rfl
 have f2_0_1 := F5.out.1.fz 1
 have a2_0_2 := F5.out.1.cell 2 _ rfl
 have f2_0_2 := F5.out.1.fz 2
 have l2_1 := F5.out.2.1.lt
 have a2_1_0 := F5.out.2.1.cell 0 _ rfl
 have f2_1_0 := F5.out.2.1.fz 0
 have a2_1_1 := F5.out.2.1.cell 1 _ rfl
 have f2_1_1 := F5.out.2.1.fz 1
 have a2_1_2 := F5.out.2.1.cell 2 _ rfl
 have f2_1_2 := F5.out.2.1.fz 2
 have ne2_0_1 : ¬ w1.heap.size = w3.heap.size := by omega
 have ne2_1_0 : ¬ w3.heap.size = w1.heap.size := by omega
 go_wp2_with fail
 all_goals first | (exfalso; omega) | skip
 refine (works22 _).mono ?_
 rintro o6 w6 ⟨rfl, bb⟩
 have F6 : Hid (Bk w6 (w1.heap.size) [.string u, .int .i64 o, .bool false] ∧ Bk w6 (w3.heap.size) [.string v, .int .i64 k, .bool false] ∧ Below w.heap.size w w6) := ⟨(F5.out.1).step bb, (F5.out.2.1).step bb, (F5.out.2.2).trans (bb.mono (F5.out.2.2).size)⟩
 clear F5
 clear bb
 go_wp2
 go_ret
 exact ⟨rfl, F6.out.2.2⟩
theorem fd_in_t {b z n : Int} {u v : ByteArray} {o k x : Int} (qs : (v.size : Int) ≤ n) (qt : ¬ (u.size : Int) ≤ n) (_ : 1 ≤ n) (_ : n ≤ 1101) (_ : -2000 ≤ o) (_ : o ≤ 2000) (qx : (x == 0) = false) (h0 : 0 < u.size) (q3 : ¬ n - o < 0) (q4 : ¬ 1100 < n - o) (h : (v.toList == u.toList) = false) (HE : ∀ W, Calls Tryz.prog 27 #[.int .u64 b, .int .i64 z] W fun e w' => e = .returned (.tuple #[.agg #[.string u, .int .i64 o, .bool false], .int .i64 0]) ∧ Below W.heap.size W w') (HD : ∀ W, Calls Tryz.prog 7 #[.int .u64 b, .int .i64 z, .int .i64 n] W fun e w' => e = .returned (.tuple #[.agg #[.string v, .int .i64 k, .bool false], .nilIface]) ∧ Below W.heap.size W w') (HM : ∀ W, Calls Tryz.prog 28 #[.int .u64 b, .int .i64 z] W fun e w' => e = .returned (.int .u64 x) ∧ Below W.heap.size W w') (HP : ∀ W, Calls Tryz.prog 9 #[.int .u64 b, .int .i64 z, .int .i64 (n - o)] W fun e w' => e = .returned (.tuple #[.agg #[.string v, .int .i64 k, .bool false], .nilIface]) ∧ Below W.heap.size W w') (HX : ∀ W, Calls Tryz.prog 15 #[.int .u64 b, .int .i64 z, .int .i64 (n - o)] W fun e w' => e = .returned (.tuple #[.bool false, .nilIface]) ∧ Below W.heap.size W w') (w : World) :
 Calls Tryz.prog 6 #[.int .u64 b, .int .i64 z, .int .i64 n] w fun x w' => x = .returned (.bool true) ∧ Below w.heap.size w w' := by
 have he : u.toList.isEmpty = false := empty_false h0
 have F0 : Hid (Below w.heap.size w w) := Below.refl _ _
 go_enter Tryz.func6, Tryz.ntmps6
 go_wp2_with fail
 all_goals first | (exfalso; omega) | skip
 refine (HE _).mono ?_
 rintro o1 w1 ⟨rfl, bb⟩
 have F1 : Hid (Below w.heap.size w w1) := (F0.out).trans (bb.mono (F0.out).size)
 clear F0
 clear bb
 have le0 := (F1.out).size
 have F2 : Hid (Bk (w1.alloc (.cells #[.string u, .int .i64 o, .bool false] 24)) (w1.heap.size) [.string u, .int .i64 o, .bool false] ∧ Below w.heap.size w (w1.alloc (.cells #[.string u, .int .i64 o, .bool false] 24))) := ⟨Bk.new3 w1 (.string u) (.int .i64 o) (.bool false) 24, (F1.out).alloc ((F1.out).size) _⟩
 clear F1
 go_upto_region 2 with fail
 generalize (w1.alloc (.cells #[.string u, .int .i64 o, .bool false] 24)) = w2 at *
 go_wp2_with fail
 all_goals first | (exfalso; omega) | skip
 refine (HD _).mono ?_
 rintro o3 w3 ⟨rfl, bb⟩
 have F3 : Hid (Bk w3 (w1.heap.size) [.string u, .int .i64 o, .bool false] ∧ Below w.heap.size w w3) := ⟨(F2.out.1).step bb, (F2.out.2).trans (bb.mono (F2.out.2).size)⟩
 clear F2
 clear bb
 have lt0_1 := (F3.out.1).lt
 have le1 := (F3.out.2).size
 have F4 : Hid (Bk (w3.alloc (.cells #[.string v, .int .i64 k, .bool false] 24)) (w1.heap.size) [.string u, .int .i64 o, .bool false] ∧ Bk (w3.alloc (.cells #[.string v, .int .i64 k, .bool false] 24)) (w3.heap.size) [.string v, .int .i64 k, .bool false] ∧ Below w.heap.size w (w3.alloc (.cells #[.string v, .int .i64 k, .bool false] 24))) := ⟨(F3.out.1).step ((Below.refl _ _).alloc (Nat.le_refl _) _), Bk.new3 w3 (.string v) (.int .i64 k) (.bool false) 24, (F3.out.2).alloc ((F3.out.2).size) _⟩
 clear F3
 go_upto_region 3 with fail
 generalize (w3.alloc (.cells #[.string v, .int .i64 k, .bool false] 24)) = w4 at *
 have l1_0 := F4.out.1.lt
 have a1_0_0 := F4.out.1.cell 0 _ rfl
 have f1_0_0 := F4.out.1.fz 0
 have a1_0_1 := F4.out.1.cell 1 _ rfl
 have f1_0_1 := F4.out.1.fz 1
 have a1_0_2 := F4.out.1.cell 2 _ rfl
 have f1_0_2 := F4.out.1.fz 2
 have l1_1 := F4.out.2.1.lt
 have a1_1_0 := F4.out.2.1.cell 0 _ rfl
 have f1_1_0 := F4.out.2.1.fz 0
 have a1_1_1 := F4.out.2.1.cell 1 _ rfl
 have f1_1_1 := F4.out.2.1.fz 1
 have a1_1_2 := F4.out.2.1.cell 2 _ rfl
 have f1_1_2 := F4.out.2.1.fz 2
 have ne1_0_1 : ¬ w1.heap.size = w3.heap.size := by omega
 have ne1_1_0 : ¬ w3.heap.size = w1.heap.size := by omega
 have s1 : ¬ n < (v.size : Int) := by omega
 go_wp2_with fail
 all_goals first | (exfalso; omega) | skip
 refine (HM _).mono ?_
 rintro o5 w5 ⟨rfl, bb⟩
 have F5 : Hid (Bk w5 (w1.heap.size) [.string u, .int .i64 o, .bool false] ∧ Bk w5 (w3.heap.size) [.string v, .int .i64 k, .bool false] ∧ Below w.heap.size w w5) := ⟨(F4.out.1).step bb, (F4.out.2.1).step bb, (F4.out.2.2).trans (bb.mono (F4.out.2.2).size)⟩
 clear F4
 clear bb
 clear l1_0 a1_0_0 f1_0_0 a1_0_1 f1_0_1 a1_0_2 f1_0_2 l1_1 a1_1_0 f1_1_0 a1_1_1 f1_1_1 a1_1_2 f1_1_2
 have l2_0 := F5.out.1.lt
 have a2_0_0 := F5.out.1.cell 0 _ rfl
 have f2_0_0 := F5.out.1.fz 0
 have a2_0_1 := F5.out.1.cell 1 _ rfl
 have f2_0_1 := F5.out.1.fz 1
 have a2_0_2 := F5.out.1.cell 2 _ rfl
 have f2_0_2 := F5.out.1.fz 2
 have l2_1 := F5.out.2.1.lt
 have a2_1_0 := F5.out.2.1.cell 0 _ rfl
 have f2_1_0 := F5.out.2.1.fz 0
 have a2_1_1 := F5.out.2.1.cell 1 _ rfl
 have f2_1_1 := F5.out.2.1.fz 1
 have a2_1_2 := F5.out.2.1.cell 2 _ rfl
 have f2_1_2 := F5.out.2.1.fz 2
 have ne2_0_1 : ¬ w1.heap.size = w3.heap.size := by omega
 have ne2_1_0 : ¬ w3.heap.size = w1.heap.size := by omega
 go_wp2_with fail
 all_goals first | (exfalso; omega) | skip
 refine (HP _).mono ?_
 rintro o6 w6 ⟨rfl, bb⟩
 have F6 : Hid (Bk w6 (w1.heap.size) [.string u, .int .i64 o, .bool false] ∧ Bk w6 (w3.heap.size) [.string v, .int .i64 k, .bool false] ∧ Below w.heap.size w w6) := ⟨(F5.out.1).step bb, (F5.out.2.1).step bb, (F5.out.2.2).trans (bb.mono (F5.out.2.2).size)⟩
 clear F5
 clear bb
 clear l2_0 a2_0_0 f2_0_0 a2_0_1 f2_0_1 a2_0_2 f2_0_2 l2_1 a2_1_0 f2_1_0 a2_1_1 f2_1_1 a2_1_2 f2_1_2
 have lt0_2 := (F6.out.1).lt
 have lt1_2 := (F6.out.2.1).lt
 have le2 := (F6.out.2.2).size
 have F7 : Hid (Bk (w6.alloc (.cells #[.string v, .int .i64 k, .bool false] 24)) (w1.heap.size) [.string u, .int .i64 o, .bool false] ∧ Bk (w6.alloc (.cells #[.string v, .int .i64 k, .bool false] 24)) (w3.heap.size) [.string v, .int .i64 k, .bool false] ∧ Bk (w6.alloc (.cells #[.string v, .int .i64 k, .bool false] 24)) (w6.heap.size) [.string v, .int .i64 k, .bool false] ∧ Below w.heap.size w (w6.alloc (.cells #[.string v, .int .i64 k, .bool false] 24))) := ⟨(F6.out.1).step ((Below.refl _ _).alloc (Nat.le_refl _) _), (F6.out.2.1).step ((Below.refl _ _).alloc (Nat.le_refl _) _), Bk.new3 w6 (.string v) (.int .i64 k) (.bool false) 24, (F6.out.2.2).alloc ((F6.out.2.2).size) _⟩
 clear F6
 go_upto_region 11 with fail
 generalize (w6.alloc (.cells #[.string v, .int .i64 k, .bool false] 24)) = w7 at *
 have l3_0 := F7.out.1.lt
 have a3_0_0 := F7.out.1.cell 0 _ rfl
 have f3_0_0 := F7.out.1.fz 0
 have a3_0_1 := F7.out.1.cell 1 _ rfl
 have f3_0_1 := F7.out.1.fz 1
 have a3_0_2 := F7.out.1.cell 2 _ rfl
 have f3_0_2 := F7.out.1.fz 2
 have l3_1 := F7.out.2.1.lt
 have a3_1_0 := F7.out.2.1.cell 0 _ rfl
 have f3_1_0 := F7.out.2.1.fz 0
 have a3_1_1 := F7.out.2.1.cell 1 _ rfl
 have f3_1_1 := F7.out.2.1.fz 1
 have a3_1_2 := F7.out.2.1.cell 2 _ rfl
 have f3_1_2 := F7.out.2.1.fz 2
 have l3_2 := F7.out.2.2.1.lt
 have a3_2_0 := F7.out.2.2.1.cell 0 _ rfl
 have f3_2_0 := F7.out.2.2.1.fz 0
 have a3_2_1 := F7.out.2.2.1.cell 1 _ rfl
 have f3_2_1 := F7.out.2.2.1.fz 1
 have a3_2_2 := F7.out.2.2.1.cell 2 _ rfl
 have f3_2_2 := F7.out.2.2.1.fz 2
 have ne3_0_1 : ¬ w1.heap.size = w3.heap.size := by omega
 have ne3_0_2 : ¬ w1.heap.size = w6.heap.size := by omega
 have ne3_1_0 : ¬ w3.heap.size = w1.heap.size := by omega
 have ne3_1_2 : ¬ w3.heap.size = w6.heap.size := by omega
 have ne3_2_0 : ¬ w6.heap.size = w1.heap.size := by omega
 have ne3_2_1 : ¬ w6.heap.size = w3.heap.size := by omega
 go_wp2_with fail
 all_goals first | (exfalso; omega) | skip
 refine (HX _).mono ?_
 rintro o8 w8 ⟨rfl, bb⟩
 have F8 : Hid (Bk w8 (w1.heap.size) [.string u, .int .i64 o, .bool false] ∧ Bk w8 (w3.heap.size) [.string v, .int .i64 k, .bool false] ∧ Bk w8 (w6.heap.size) [.string v, .int .i64 k, .bool false] ∧ Below w.heap.size w w8) := ⟨(F7.out.1).step bb, (F7.out.2.1).step bb, (F7.out.2.2.1).step bb, (F7.out.2.2.2).trans (bb.mono (F7.out.2.2.2).size)⟩
 clear F7
 clear bb
 clear l3_0 a3_0_0 f3_0_0 a3_0_1 f3_0_1 a3_0_2 f3_0_2 l3_1 a3_1_0 f3_1_0 a3_1_1 f3_1_1 a3_1_2 f3_1_2 l3_2 a3_2_0 f3_2_0 a3_2_1 f3_2_1 a3_2_2 f3_2_2
 have l4_0 := F8.out.1.lt
 have a4_0_0 := F8.out.1.cell 0 _ rfl
 have f4_0_0 := F8.out.1.fz 0
 have a4_0_1 := F8.out.1.cell 1 _ rfl
 have f4_0_1 := F8.out.1.fz 1
 have a4_0_2 := F8.out.1.cell 2 _ rfl
 have f4_0_2 := F8.out.1.fz 2
 have l4_1 := F8.out.2.1.lt
 have a4_1_0 := F8.out.2.1.cell 0 _ rfl
 have f4_1_0 := F8.out.2.1.fz 0
 have a4_1_1 := F8.out.2.1.cell 1 _ rfl
 have f4_1_1 := F8.out.2.1.fz 1
 have a4_1_2 := F8.out.2.1.cell 2 _ rfl
 have f4_1_2 := F8.out.2.1.fz 2
 have l4_2 := F8.out.2.2.1.lt
 have a4_2_0 := F8.out.2.2.1.cell 0 _ rfl
 have f4_2_0 := F8.out.2.2.1.fz 0
 have a4_2_1 := F8.out.2.2.1.cell 1 _ rfl
 have f4_2_1 := F8.out.2.2.1.fz 1
 have a4_2_2 := F8.out.2.2.1.cell 2 _ rfl
 have f4_2_2 := F8.out.2.2.1.fz 2
 have ne4_0_1 : ¬ w1.heap.size = w3.heap.size := by omega
 have ne4_0_2 : ¬ w1.heap.size = w6.heap.size := by omega
 have ne4_1_0 : ¬ w3.heap.size = w1.heap.size := by omega
 have ne4_1_2 : ¬ w3.heap.size = w6.heap.size := by omega
 have ne4_2_0 : ¬ w6.heap.size = w1.heap.size := by omega
 have ne4_2_1 : ¬ w6.heap.size = w3.heap.size := by omega
 go_wp2_with fail
 all_goals first | (exfalso; omega) | skip
 refine (works22 _).mono ?_
 rintro o9 w9 ⟨rfl, bb⟩
 have F9 : Hid (Bk w9 (w1.heap.size) [.string u, .int .i64 o, .bool false] ∧ Bk w9 (w3.heap.size) [.string v, .int .i64 k, .bool false] ∧ Bk w9 (w6.heap.size) [.string v, .int .i64 k, .bool false] ∧ Below w.heap.size w w9) := ⟨(F8.out.1).step bb, (F8.out.2.1).step bb, (F8.out.2.2.1).step bb, (F8.out.2.2.2).trans (bb.mono (F8.out.2.2.2).size)⟩
 clear F8
 clear bb
 go_wp2
 go_ret
 exact ⟨rfl, F9.out.2.2.2⟩
theorem law_digits22 (b : Nat) (hb : b < 18446744073709551616) (z n : Int) (w : World) :
 Calls Tryz.prog 6 #[.int .u64 (b : Int), .int .i64 z, .int .i64 n] w fun x w' => x = .returned (.bool true) ∧ Below w.heap.size w w' := by
 rcases kinds b z hb with ⟨m, h⟩ | ⟨f, T, L, S, I, h⟩
 · exact fd_err0 h.not0 (fun W => rex_bad h W) (fun W => fdg_err (fun W => pex_bad h W) W) w
 · obtain ⟨u, o, G, o0, o1, _⟩ := fl_dx h
   have HE := fun W => rex_is h G W
   by_cases c1 : n < 1
   · exact fd_err1 HE (fun W => fdg_low c1 (fun W => ex_is h G W) W) w
   · by_cases c2 : 1101 < n
     · exact fd_err1 HE (fun W => fdg_high c1 c2 (fun W => ex_is h G W) W) w
     · obtain ⟨v, k, x, _⟩ := fx_ex G (by omega) n
       have HD := fun W => fdg_fx h G o1 (by omega) (by omega) x W
       have HM := fun W => rmg_any h.sf h.lt W
       obtain ⟨N, rfl⟩ : ∃ N : Nat, n = (N : Int) := ⟨n.toNat, by omega⟩
       by_cases m0 : mg S b = 0
       · have G0 := G
         rw [m0, vl_zero] at G0
         obtain ⟨rfl, rfl⟩ := G0.uniq dx_nought
         obtain ⟨rfl, rfl⟩ := x.all (fun _ => ⟨rfl, rfl⟩) (Nat.zero_le _)
         rw [m0] at HM
         by_cases c3 : (1100 : Int) < (N : Int)
         · exact fd_zero_a (by omega) (by omega) c3 HE HD HM w
         · exact fd_zero_b (by omega) (by omega) c3 HE HD HM w
       · have qx : (((mg S b : Nat) : Int) == 0) = false := beq_eq_false_iff_ne.mpr (by omega)
         have u0 : 0 < u.size := G.pos.2 (vl_pos L m0)
         have few := x.few (by omega)
         by_cases c3 : u.size ≤ N
         · obtain ⟨e1, e2⟩ := x.all (fun q => by omega) c3
           rw [e1, e2] at HD x
           by_cases c4 : (N : Int) - o < 0
           · exact fd_low_s (by omega) (by omega) (by omega) (by omega) (by omega) qx c4 HE HD HM w
           · by_cases c5 : 1100 < (N : Int) - o
             · exact fd_high_s (by omega) (by omega) (by omega) (by omega) (by omega) qx c4 c5 HE HD HM w
             · have x2 : Fx u o (o + ((N : Int) - o)) u o := by rw [show o + ((N : Int) - o) = (N : Int) by omega]; exact x
               have HX := fun W => fxa_is (fun W => fvp_fx h G o0 o1 (by omega) (by omega) x2 W) W
               unfold exB at HX
               rw [decide_eq_true ⟨rfl, rfl⟩] at HX
               exact fd_in_s (by omega) (by omega) (by omega) (by omega) (by omega) qx u0 c4 c5 HE HD HM (fun W => fpl_fx h G o0 o1 (by omega) (by omega) x2 W) HX w
         · by_cases c4 : (N : Int) - o < 0
           · exact fd_low_t (by omega) (by omega) (by omega) (by omega) (by omega) (by omega) qx c4 HE HD HM w
           · by_cases c5 : 1100 < (N : Int) - o
             · exact fd_high_t (by omega) (by omega) (by omega) (by omega) (by omega) (by omega) qx c4 c5 HE HD HM w
             · have x2 : Fx u o (o + ((N : Int) - o)) v k := by rw [show o + ((N : Int) - o) = (N : Int) by omega]; exact x
               have ne : v ≠ u := fun q => by rw [q] at few; omega
               have HX := fun W => fxa_is (fun W => fvp_fx h G o0 o1 (by omega) (by omega) x2 W) W
               unfold exB at HX
               rw [decide_eq_false (fun q => ne q.1)] at HX
               exact fd_in_t (by omega) (by omega) (by omega) (by omega) (by omega) (by omega) qx u0 c4 c5 (dec_ne ne) HE HD HM (fun W => fpl_fx h G o0 o1 (by omega) (by omega) x2 W) HX w
end Go.Proofs.YtohhmobfmmeohaaGreatDoor
