/-
  Holds: IvJ IvL IvZ.
-/
import Derived.Test.YtdfefjcobeopbaaGreatDoorRows
import Derived.Laws.Externs
import Derived.WalkKit
import Derived.WalkSpells
import Derived.WalkLawsBesides
import Derived.Lib.Mul64
import Derived.Stop.Asserts
import Derived.RowKitTokens
import Derived.Lib.Strings
import Derived.Lib.BufferWrite
import Derived.Deep.OwnRows
import Derived.Deep.RegionHeld3
import Derived.BigQuiet
import Derived.Lib.ConvBytes
import Derived.Laws.CopyOwn
import Derived.Lib.TrailingZeros
import Derived.Lib.ItoaNum
import Derived.Deep.LoopGhost
import Derived.Deep.AppendLies
import Derived.Deep.DeepCutAuto
import Derived.Test.YtdfefjcobeopbaaGreatDoorKb11
import Derived.Test.YtdfefjcobeopbaaGreatDoorKb20
import Derived.Test.YtdfefjcobeopbaaGreatDoorKb22
import Derived.Test.YtdfefjcobeopbaaGreatDoorKb23
import Derived.Test.YtdfefjcobeopbaaGreatDoorKb24
set_option maxRecDepth 100000
set_option maxHeartbeats 4000000
namespace Go.Proofs.YtdfefjcobeopbaaGreatDoor
open Go.RowKit
def Sf (z : Int) (f T : Nat) (L : Int) (S I : Nat) : Prop :=
 (z = 32 ∧ f = 23 ∧ T = 255 ∧ L = -149 ∧ S = 2147483648 ∧ I = 2139095040) ∨ (z = 64 ∧ f = 52 ∧ T = 2047 ∧ L = -1074 ∧ S = 9223372036854775808 ∧ I = 9218868437227405312)
structure Fn (z : Int) (f T : Nat) (L : Int) (S I b : Nat) : Prop where
 sf : Sf z f T L S I
 lt : b < 2 * S
 fin : mg S b < I
def Bad (b : Nat) (z n : Int) : Prop := (Sn z ∧ n = 5) ∨ (z = 32 ∧ 4294967296 ≤ b ∧ n = 1) ∨ ∃ f T L S I, Sf z f T L S I ∧ b < 2 * S ∧ I ≤ mg S b ∧ n = 1
theorem kinds (b : Nat) (z : Int) (hb : b < 18446744073709551616) : (∃ n, Bad b z n) ∨ ∃ f T L S I, Fn z f T L S I b := by
 by_cases h1 : z = 32
 · by_cases h2 : b < 4294967296
   · by_cases h3 : mg 2147483648 b < 2139095040
     · exact Or.inr ⟨23, 255, -149, 2147483648, 2139095040, Or.inl ⟨h1, rfl, rfl, rfl, rfl, rfl⟩, by omega, h3⟩
     · exact Or.inl ⟨1, Or.inr (Or.inr ⟨23, 255, -149, 2147483648, 2139095040, Or.inl ⟨h1, rfl, rfl, rfl, rfl, rfl⟩, by omega, by omega, rfl⟩)⟩
   · exact Or.inl ⟨1, Or.inr (Or.inl ⟨h1, by omega, rfl⟩)⟩
 · by_cases h2 : z = 64
   · by_cases h3 : mg 9223372036854775808 b < 9218868437227405312
     · exact Or.inr ⟨52, 2047, -1074, 9223372036854775808, 9218868437227405312, Or.inr ⟨h2, rfl, rfl, rfl, rfl, rfl⟩, by omega, h3⟩
     · exact Or.inl ⟨1, Or.inr (Or.inr ⟨52, 2047, -1074, 9223372036854775808, 9218868437227405312, Or.inr ⟨h2, rfl, rfl, rfl, rfl, rfl⟩, by omega, by omega, rfl⟩)⟩
   · exact Or.inl ⟨5, Or.inl ⟨⟨h1, h2⟩, rfl⟩⟩
theorem Bad.not0 {b : Nat} {z n : Int} (h : Bad b z n) : (n == 0) = false := by
 rcases h with ⟨_, rfl⟩ | ⟨_, _, rfl⟩ | ⟨_, _, _, _, _, _, _, _, rfl⟩ <;> rfl
theorem Sf.fs {z : Int} {f T : Nat} {L : Int} {S I : Nat} (h : Sf z f T L S I) : Fs f T L ∧ I = T * 2 ^ f ∧ 2 * S ≤ 18446744073709551616 ∧ 2 ≤ S ∧ S % 2 = 0 ∧ 1 < I ∧ I < S := by
 rcases h with ⟨_, rfl, rfl, rfl, rfl, rfl⟩ | ⟨_, rfl, rfl, rfl, rfl, rfl⟩
 · exact ⟨Or.inl ⟨rfl, rfl, rfl⟩, by decide, by omega, by omega, by omega, by omega, by omega⟩
 · exact ⟨Or.inr ⟨rfl, rfl, rfl⟩, by decide, by omega, by omega, by omega, by omega, by omega⟩
theorem unp_any {z : Int} {f T : Nat} {L : Int} {S I b : Nat} (h : Sf z f T L S I) (hb : b < 2 * S) (w : World) :
 Calls Tryz.prog 33 #[.int .u64 (b : Int), .int .i64 z] w fun e w' => e = .returned (.tuple #[.agg #[.bool (uN S I b), .int .i64 (cl I (mg S b)), .int .u64 ((uM I f (mg S b) : Nat) : Int), .int .i64 (uE I f L (mg S b))], .nilIface]) ∧ Below w.heap.size w w' := by
 rcases h with ⟨rfl, rfl, rfl, rfl, rfl, rfl⟩ | ⟨rfl, rfl, rfl, rfl, rfl, rfl⟩
 · exact unp_32 (by omega) w
 · exact unp_64 (by omega) w
theorem cls_any {z : Int} {f T : Nat} {L : Int} {S I b : Nat} (h : Sf z f T L S I) (hb : b < 2 * S) (w : World) :
 Calls Tryz.prog 114 #[.int .u64 (b : Int), .int .i64 z] w fun e w' => e = .returned (.tuple #[.int .i64 (cl I (mg S b)), .nilIface]) ∧ Below w.heap.size w w' := by
 rcases h with ⟨rfl, rfl, rfl, rfl, rfl, rfl⟩ | ⟨rfl, rfl, rfl, rfl, rfl, rfl⟩
 · exact cls_32 (by omega) w
 · exact cls_64 (by omega) w
theorem least_any {z : Int} {f T : Nat} {L : Int} {S I : Nat} (h : Sf z f T L S I) (w : World) :
 Calls Tryz.prog 34 #[.int .i64 z] w fun e w' => e = .returned (.tuple #[.int .u64 1, .nilIface]) ∧ Below w.heap.size w w' := by
 rcases h with ⟨rfl, _⟩ | ⟨rfl, _⟩
 · exact bleast_32 w
 · exact bleast_64 w
theorem fin_bad {b : Nat} {z n : Int} (h : Bad b z n) (w : World) :
 Calls Tryz.prog 15 #[.int .u64 (b : Int), .int .i64 z] w fun e w' => e = .returned (.tuple #[.agg #[.bool false, .int .i64 0, .int .u64 0, .int .i64 0], .iface 64 (.int .i64 n)]) ∧ Below w.heap.size w w' := by
 rcases h with ⟨h, rfl⟩ | ⟨rfl, h, rfl⟩ | ⟨f, T, L, S, I, h, hb, hi, rfl⟩
 · exact fin_err (fun W => unp_no h _ W) w
 · exact fin_err (fun W => unp_big h W) w
 · have U := fun W => unp_any h hb W
   have i1 := h.fs.2.2.2.2.2.1
   have c : cl I (mg S b) = 3 ∨ cl I (mg S b) = 4 := by
    rcases cl_cases I (mg S b) with q | q | q | q
    · omega
    · omega
    · exact Or.inl q.2.2
    · exact Or.inr q.2
   have c2 : cl I (mg S b) ≠ 2 := by omega
   have e1 : uM I f (mg S b) = 0 := if_neg c2
   have e2 : uE I f L (mg S b) = 0 := if_neg c2
   rw [e1, e2] at U
   exact fin_not (beq_eq_false_iff_ne.mpr (by omega)) (beq_eq_false_iff_ne.mpr (by omega)) U w
theorem xp_one {f : Nat} (hf : 1 ≤ f) (L : Int) : xp f L 1 = L ∧ xp f L 0 = L ∧ mt f 0 = 0 := by
 have p : 2 ≤ 2 ^ f := by
  have := Nat.pow_le_pow_right (n := 2) (by omega) hf
  omega
 have e : 1 / 2 ^ f = 0 := Nat.div_eq_of_lt (by omega)
 refine ⟨?_, ?_, ?_⟩
 · unfold xp; rw [e, if_pos rfl]
 · unfold xp; rw [Nat.zero_div, if_pos rfl]
 · unfold mt; rw [Nat.zero_div, if_pos rfl]
theorem Fs.one {f T : Nat} {L : Int} (h : Fs f T L) : 1 ≤ f := by rcases h with ⟨rfl, _⟩ | ⟨rfl, _⟩ <;> omega
theorem mg_b0 {S b : Nat} (m0 : mg S b ≠ 0) : 1 ≤ b := by
 apply Nat.pos_of_ne_zero
 intro c
 apply m0
 unfold mg
 rw [c, Nat.zero_mod]
theorem Fn.m {z : Int} {f T : Nat} {L : Int} {S I b : Nat} (h : Fn z f T L S I b) : mg S b < T * 2 ^ f := by rw [← h.sf.fs.2.1]; exact h.fin
theorem fin_ok {z : Int} {f T : Nat} {L : Int} {S I b : Nat} (h : Fn z f T L S I b) (w : World) :
 Calls Tryz.prog 15 #[.int .u64 (b : Int), .int .i64 z] w fun e w' => e = .returned (.tuple #[.agg #[.bool (uN S I b), .int .i64 (cl I (mg S b)), .int .u64 ((mt f (mg S b) : Nat) : Int), .int .i64 (xp f L (mg S b))], .nilIface]) ∧ Below w.heap.size w w' := by
 have U := fun W => unp_any h.sf h.lt W
 obtain ⟨fs, hI, _, hS, _, hI1, hIS⟩ := h.sf.fs
 have hx := xp_one fs.one L
 by_cases m0 : mg S b = 0
 · have c1 : cl I (mg S b) = 1 := by rw [m0]; exact cl_zero I
   have e1 : uM I f (mg S b) = 0 := if_neg (by rw [c1]; decide)
   have e2 : uE I f L (mg S b) = 0 := if_neg (by rw [c1]; decide)
   have U1 := fun W => unp_any (b := 1) h.sf (by omega) W
   have g1 : mg S 1 = 1 := Nat.mod_eq_of_lt (by omega)
   have e4 : uE I f L (mg S 1) = xp f L (mg S b) := by
    rw [g1, m0, hx.2.1]
    show (if cl I 1 = 2 then xp f L 1 else 0) = L
    rw [if_pos (cl_fine (by decide) hI1), hx.1]
   rw [e1, e2, c1] at U
   rw [e4] at U1
   rw [c1, show ((mt f (mg S b) : Nat) : Int) = 0 by rw [m0, hx.2.2]; rfl]
   exact fin_zero U (fun W => least_any h.sf W) U1 w
 · have c2 : cl I (mg S b) = 2 := cl_fine m0 h.fin
   have e1 : uM I f (mg S b) = mt f (mg S b) := if_pos c2
   have e2 : uE I f L (mg S b) = xp f L (mg S b) := if_pos c2
   rw [e1, e2, c2] at U
   rw [c2]
   exact fin_fine U w
theorem high_is {z : Int} {f T : Nat} {L : Int} {S I b : Nat} (h : Fn z f T L S I b) {c : Bool} {k : Int} {t : ByteArray} {q : Int} (D : Dx t q (hiF f L (mg S b))) (w : World) :
 Calls Tryz.prog 51 #[.agg #[.bool c, .int .i64 k, .int .u64 ((mt f (mg S b) : Nat) : Int), .int .i64 (xp f L (mg S b))]] w fun e w' => e = .returned (dcV t q false) ∧ Below w.heap.size w w' := by
 have fs := h.sf.fs.1
 have x := xp_in fs h.m
 have m := mt_lt fs (mg S b)
 refine high_ok (by omega) x.1 x.2 (fun W => ?_) w
 have q := pdec_any (m := 2 * mt f (mg S b) + 1) (e := xp f L (mg S b) - 1) (by omega) (by omega) (by omega) (by omega) D W
 rw [show ((2 * mt f (mg S b) + 1 : Nat) : Int) = 2 * ((mt f (mg S b) : Nat) : Int) + 1 by omega] at q
 exact q
theorem Fn.prev {z : Int} {f T : Nat} {L : Int} {S I b : Nat} (h : Fn z f T L S I b) (m0 : mg S b ≠ 0) : Fn z f T L S I (b - 1) ∧ mg S (b - 1) + 1 = mg S b := by
 obtain ⟨_, _, _, hS, _, _, hIS⟩ := h.sf.fs
 have lt := h.lt
 have fin := h.fin
 have e : mg S (b - 1) + 1 = mg S b := by
  unfold mg at m0 ⊢
  have dm := Nat.div_add_mod b S
  have ml := Nat.mod_lt b (show 0 < S by omega)
  have : b - 1 = S * (b / S) + (b % S - 1) := by omega
  rw [this, Nat.mul_add_mod, Nat.mod_eq_of_lt (by omega)]
  omega
 exact ⟨⟨h.sf, by omega, by omega⟩, e⟩
theorem prev_is {z : Int} {f T : Nat} {L : Int} {S I b : Nat} (h : Fn z f T L S I b) (m0 : mg S b ≠ 0) (w : World) : Calls Tryz.prog 87 #[.int .u64 (b : Int), .int .i64 z] w fun e w' => e = .returned (.tuple #[.int .u64 ((b - 1 : Nat) : Int), .nilIface]) ∧ Below w.heap.size w w' := by
 have b0 := mg_b0 m0
 have lt := h.lt
 have s2 := h.sf.fs.2.2.1
 have c2 : cl I (mg S b) = 2 := cl_fine m0 h.fin
 have q := prev_ok (b := (b : Int)) (s := z) (c := 2) rfl rfl (by omega) (by omega) (fun W => by have := cls_any h.sf h.lt W; rw [c2] at this; exact this) w
 rw [show (b : Int) - 1 = ((b - 1 : Nat) : Int) by omega] at q
 exact q
theorem low_is {z : Int} {f T : Nat} {L : Int} {S I b : Nat} (h : Fn z f T L S I b) {s : ByteArray} {p : Int} (D : Dx s p (loF f L (mg S b))) (w : World) :
 Calls Tryz.prog 50 #[.int .u64 (b : Int), .int .i64 z] w fun e w' => e = .returned (dcV s p false) ∧ Below w.heap.size w w' := by
 by_cases m0 : mg S b = 0
 · have c1 : cl I (mg S b) = 1 := by rw [m0]; exact cl_zero I
   rw [m0] at D
   obtain ⟨rfl, rfl⟩ := Dx.uniq D dx_nought
   exact low_none (fun W => prev_end (fun W => by have := cls_any h.sf h.lt W; rw [c1] at this; exact this) W) w
 · obtain ⟨g, e⟩ := Fn.prev h m0
   rw [← e] at D
   exact low_some (fun W => prev_is h m0 W) (fun W => fin_ok g W) (fun W => high_is g D W) w
theorem span_is {z : Int} {f T : Nat} {L : Int} {S I b : Nat} (h : Fn z f T L S I b) {s t : ByteArray} {p q : Int} (D : Dx s p (loF f L (mg S b))) (E : Dx t q (hiF f L (mg S b))) (w : World) :
 Calls Tryz.prog 21 #[.int .u64 (b : Int), .int .i64 z] w fun e w' => e = .returned (.tuple #[.agg #[.string s, .int .i64 p, .bool false, .string t, .int .i64 q, .bool false, .bool (decide (b % 2 = 0))], .nilIface]) ∧ Below w.heap.size w w' :=
 span_ok (by have := h.lt; have := h.sf.fs.2.2.1; omega) (fun W => fin_ok h W) (fun W => low_is h D W) (fun W => high_is h E W) w
theorem ex_is {z : Int} {f T : Nat} {L : Int} {S I b : Nat} (h : Fn z f T L S I b) {s : ByteArray} {p : Int} (D : Dx s p (vlF f L (mg S b))) (w : World) :
 Calls Tryz.prog 5 #[.int .u64 (b : Int), .int .i64 z] w fun e w' => e = .returned (.tuple #[dcV s p false, .nilIface]) ∧ Below w.heap.size w w' := by
 have fs := h.sf.fs.1
 have x := xp_in fs h.m
 have m := mt_lt fs (mg S b)
 refine ex_ok (fun W => fin_ok h W) (fun W => pdec_any (by omega) (by omega) (by omega) ?_ D W) w
 by_cases m0 : mg S b = 0
 · right
   rw [m0, (xp_one fs.one L).2.1]
   rcases fs with ⟨_, _, rfl⟩ | ⟨_, _, rfl⟩ <;> omega
 · exact Or.inl (mt_some m0)
theorem Fn.has {z : Int} {f T : Nat} {L : Int} {S I b : Nat} (h : Fn z f T L S I b) : (∃ s p, Dx s p (loF f L (mg S b))) ∧ (∃ t q, Dx t q (hiF f L (mg S b))) ∧ ∃ u o, Dx u o (vlF f L (mg S b)) := by
 have fs := h.sf.fs.1
 have hi : ∀ k, k < T * 2 ^ f → ∃ t q, Dx t q (hiF f L k) := fun k hk => by
  have x := xp_in fs hk
  have m := mt_lt fs k
  exact dx_has (by omega) (by omega) (by omega)
 have x := xp_in fs h.m
 have m := mt_lt fs (mg S b)
 refine ⟨?_, hi _ h.m, dx_has (by omega) (by omega) (by omega)⟩
 by_cases m0 : mg S b = 0
 · rw [m0]; exact ⟨_, _, dx_nought⟩
 · obtain ⟨k, e⟩ : ∃ k, mg S b = k + 1 := ⟨mg S b - 1, by omega⟩
   have := h.m
   rw [e] at this ⊢
   exact hi k (by omega)
theorem hold_is {s t u : ByteArray} {p q o : Int} {c : Bool} (hs : VD s p false) (ht : VD t q false) (hu : VD u o false) (w : World) :
 Calls Tryz.prog 27 #[.agg #[.string s, .int .i64 p, .bool false, .string t, .int .i64 q, .bool false, .bool c], dcV u o false] w fun e w' => e = .returned (.bool (inB c (lowF u o s p) (lowF u o t q))) ∧ Below w.heap.size w w' :=
 hold_any (fun W => cmp_ff hu hs W) (fun W => cmp_ff hu ht W) w
theorem pwT_add (a b : Nat) : pwT (a + b) = pwT a * pwT b := Nat.pow_add 10 a b
theorem pwT_lt {a b : Nat} (h : pwT a < pwT b) : a < b := (Nat.pow_lt_pow_iff_right (by decide)).1 h
theorem dx_near {m : Nat} {e : Int} (hm : m ≤ 18014398509481984) (h1 : -1075 ≤ e) (h2 : e ≤ 971) {s : ByteArray} {p : Int} (D : Dx s p (fv m e)) (h0 : 0 < s.size) : p ≤ 1000 := by
 obtain ⟨k, j, h, he⟩ : ∃ k j, Kj m k j ∧ e = (j : Int) - (k : Int) := by
  rcases Int.lt_or_le e 0 with c | c
  · exact ⟨(-e).toNat, 0, ⟨hm, by omega, by omega, Or.inr rfl⟩, by omega⟩
  · exact ⟨0, e.toNat, ⟨hm, by omega, by omega, Or.inl rfl⟩, by omega⟩
 have w := h.wh
 have f := h.fv he
 obtain ⟨d0, d1, _⟩ := D.some h0
 have a : fv m e < pwT 800 * pwT (R0 - k) := by
  rw [f]
  exact Nat.mul_lt_mul_of_pos_right w (Nat.pow_pos (by decide))
 obtain ⟨e8, h8⟩ : ∃ e8, e8 = 800 := ⟨_, rfl⟩
 rw [← h8, ← pwT_add] at a
 have b : pwT (p + (R0 : Int) - 1).toNat < pwT (e8 + (R0 - k)) := Nat.lt_of_le_of_lt d1 a
 have := pwT_lt b
 omega
theorem du_has {z : Int} {f T : Nat} {L : Int} {S I b : Nat} (h : Fn z f T L S I b) (m0 : mg S b ≠ 0) {n : Nat} (n0 : 0 < n) (hn : n ≤ 17) : ∃ (u : ByteArray) (o : Int) (u1 u2 : ByteArray) (o2 : Int) (A : Nat), Dx u o (vlF f L (mg S b)) ∧ 0 < u.size ∧ o ≤ 1000 ∧ o + (R0 : Int) = (A : Int) ∧ Du u o n u1 u2 o2 ∧
 Dx u1 o (vlF f L (mg S b) / 10 ^ (A - n) * 10 ^ (A - n)) ∧ Dx u2 o2 ((vlF f L (mg S b) + (10 ^ (A - n) - 1)) / 10 ^ (A - n) * 10 ^ (A - n)) ∧ 0 < u1.size ∧ 0 < u2.size ∧ 10 ^ (A - 1) ≤ vlF f L (mg S b) := by
 obtain ⟨_, _, u, o, G⟩ := Fn.has h
 have fs := h.sf.fs.1
 have vp := vl_pos (f := f) L m0
 have u0 := G.pos.2 vp
 have x := xp_in fs h.m
 have m := mt_lt fs (mg S b)
 have o1 := dx_near (by omega) (by omega) (by omega) G u0
 have lo := G.lo
 obtain ⟨A, hA⟩ : ∃ A : Nat, o + (R0 : Int) = (A : Int) := ⟨(o + (R0 : Int)).toNat, by omega⟩
 obtain ⟨u1, u2, o2, D1, D2, du⟩ := du_ex G u0 o1 hA n0 hn
 have low := (G.some u0).2.1
 rw [hA, show ((A : Int) - 1).toNat = A - 1 by omega] at low
 have S0 : 0 < 10 ^ (A - n) := Nat.pow_pos (by decide)
 have Sx : 10 ^ (A - n) ≤ vlF f L (mg S b) := Nat.le_trans (Nat.pow_le_pow_right (by decide) (by omega)) low
 have q1 : 0 < vlF f L (mg S b) / 10 ^ (A - n) * 10 ^ (A - n) := Nat.mul_pos (Nat.div_pos Sx S0) S0
 have q2 : 0 < (vlF f L (mg S b) + (10 ^ (A - n) - 1)) / 10 ^ (A - n) * 10 ^ (A - n) := Nat.mul_pos (Nat.div_pos (by omega) S0) S0
 exact ⟨u, o, u1, u2, o2, A, G, u0, o1, hA, du, D1, D2, D1.pos.2 q1, D2.pos.2 q2, low⟩
theorem in_is {z : Int} {f T : Nat} {L : Int} {S I b : Nat} (h : Fn z f T L S I b) {s t : ByteArray} {p q : Int} (D : Dx s p (loF f L (mg S b))) (E : Dx t q (hiF f L (mg S b))) {u : ByteArray} {o : Int} (hu : VD u o false) (w : World) :
 Calls Tryz.prog 11 #[dcV u o false, .int .u64 (b : Int), .int .i64 z] w fun e w' => e = .returned (.tuple #[.bool (inB (decide (b % 2 = 0)) (lowF u o s p) (lowF u o t q)), .nilIface]) ∧ Below w.heap.size w w' :=
 in_ok (fun W => span_is h D E W) (fun W => dvalid_yes hu W) (fun W => hold_is D.vd E.vd hu W) w
theorem in_none {z : Int} {f T : Nat} {L : Int} {S I b : Nat} (h : Fn z f T L S I b) {s t : ByteArray} {p q : Int} (D : Dx s p (loF f L (mg S b))) (E : Dx t q (hiF f L (mg S b))) {u : ByteArray} {o : Int} {d : Bool} (hs : u.size ≤ 9223372036854775807) (hu : ¬ (VD u o d ∧ d = false)) (w : World) :
 Calls Tryz.prog 11 #[dcV u o d, .int .u64 (b : Int), .int .i64 z] w fun e w' => e = .returned (.tuple #[.bool false, .iface 64 (.int .i64 1)]) ∧ Below w.heap.size w w' := by
 by_cases c : VD u o d
 · cases d with
   | true => exact in_cut (fun W => span_is h D E W) (fun W => dvalid_yes c W) w
   | false => exact absurd ⟨c, rfl⟩ hu
 · exact in_bad (fun W => span_is h D E W) (fun W => dvalid_no hs c W) w
theorem bt_none {z : Int} {f T : Nat} {L : Int} {S I b : Nat} (h : Fn z f T L S I b) {s t : ByteArray} {p q : Int} (D : Dx s p (loF f L (mg S b))) (E : Dx t q (hiF f L (mg S b))) {n : Int} (hn : n < 1 ∨ 17 < n ∨ mg S b = 0) (w : World) :
 Calls Tryz.prog 13 #[.int .u64 (b : Int), .int .i64 z, .int .i64 n] w fun e w' => e = .returned (.tuple #[.bool false, .iface 64 (.int .i64 1)]) ∧ Below w.heap.size w w' := by
 obtain ⟨_, _, u, o, G⟩ := Fn.has h
 by_cases c1 : n < 1
 · exact bt_low c1 (fun W => span_is h D E W) (fun W => ex_is h G W) w
 · by_cases c2 : 17 < n
   · exact bt_high c1 c2 (fun W => span_is h D E W) (fun W => ex_is h G W) w
   · have m0 : mg S b = 0 := by omega
     rw [m0, vl_zero] at G
     obtain ⟨rfl, rfl⟩ := Dx.uniq G dx_nought
     exact bt_zero c1 c2 (fun W => span_is h D E W) (fun W => ex_is h (by rw [m0, vl_zero]; exact dx_nought) W) w
theorem bt_is {z : Int} {f T : Nat} {L : Int} {S I b : Nat} (h : Fn z f T L S I b) {s t : ByteArray} {p q : Int} (D : Dx s p (loF f L (mg S b))) (E : Dx t q (hiF f L (mg S b))) {n : Nat} (n0 : 0 < n) (hn : n ≤ 17) {u : ByteArray} {o : Int} {u1 u2 : ByteArray} {o2 : Int} {Y Z : Nat} (G : Dx u o (vlF f L (mg S b))) (u0 : 0 < u.size) (o1 : o ≤ 1000) (du : Du u o n u1 u2 o2) (D1 : Dx u1 o Y) (D2 : Dx u2 o2 Z) (w : World) :
    Calls Tryz.prog 13 #[.int .u64 (b : Int), .int .i64 z, .int .i64 (n : Int)] w fun e w' => e = .returned (.tuple #[.bool (inB (decide (b % 2 = 0)) (lowF u1 o s p) (lowF u1 o t q) || inB (decide (b % 2 = 0)) (lowF u2 o2 s p) (lowF u2 o2 t q)), .nilIface]) ∧ Below w.heap.size w w' := by
  obtain ⟨dn, up⟩ := du_prog (G.vn u0) o1 n0 hn du
  have H1 := fun W => hold_is (c := decide (b % 2 = 0)) D.vd E.vd D1.vd W
  have H2 := fun W => hold_is (c := decide (b % 2 = 0)) D.vd E.vd D2.vd W
  cases r : inB (decide (b % 2 = 0)) (lowF u1 o s p) (lowF u1 o t q) with
  | true =>
    rw [r] at H1
    rw [Bool.true_or]
    exact bt_yes (by omega) (by omega) u0 (fun W => span_is h D E W) (fun W => ex_is h G W) dn up H1 w
  | false =>
    rw [r] at H1
    rw [Bool.false_or]
    exact bt_no (by omega) (by omega) u0 (fun W => span_is h D E W) (fun W => ex_is h G W) dn up H1 H2 w
theorem mt_sure : mt 52 4609434218613702656 = 6755399441055744 := by decide +kernel
theorem xp_sure : xp 52 (-1074) 4609434218613702656 = -52 := by decide +kernel
theorem dx_sure : Dx ⟨#[49, 53]⟩ 1 (vlF 52 (-1074) 4609434218613702656) := by
 have e1 : vlF 52 (-1074) 4609434218613702656 = fv 3 (-((1 : Nat) : Int)) := by
  unfold vlF
  rw [mt_sure, xp_sure]
  have q := fv_up (m := 3) (k := 51) (e := -52) (by unfold R0; omega)
  exact q.symm
 rw [e1, fv_neg (by unfold R0; omega), show 3 * 5 ^ 1 = 15 from rfl]
 have d0 : dgt ⟨#[49, 53]⟩ 0 = 49 := by decide
 have d1 : dgt ⟨#[49, 53]⟩ 1 = 53 := by decide
 have dg : DG ⟨#[49, 53]⟩ := by
  intro k hk
  have hk2 : k < 2 := hk
  rw [← dgt_lt hk]
  rcases (by omega : k = 0 ∨ k = 1) with rfl | rfl
  · rw [d0]; omega
  · rw [d1]; omega
 have hs : (⟨#[49, 53]⟩ : ByteArray).size = 2 := rfl
 have v : pv ⟨#[49, 53]⟩ 2 = 15 := by
  show 10 * (10 * 0 + (dgt ⟨#[49, 53]⟩ 0 - 48)) + (dgt ⟨#[49, 53]⟩ 1 - 48) = 15
  rw [d0, d1]
 refine ⟨Or.inr (nf_vn ⟨by decide, dg, by rw [d0]; decide, ?_⟩ (by decide) (by omega) (by omega)), ?_, ?_⟩
 · show dgt ⟨#[49, 53]⟩ 1 ≠ 48
   rw [d1]; decide
 · rw [hs]
   unfold R0; omega
 · rw [hs, v, show (1 + (R0 : Int) - ((2 : Nat) : Int)).toNat = R0 - 1 by omega]
theorem fn_sure : Fn 64 52 2047 (-1074) 9223372036854775808 9218868437227405312 4609434218613702656 := ⟨Or.inr ⟨rfl, rfl, rfl, rfl, rfl, rfl⟩, by decide, by decide +kernel⟩
theorem ex_sure (w : World) : Calls Tryz.prog 5 #[.int .u64 4609434218613702656, .int .i64 64] w fun e w' => e = .returned (.tuple #[.agg #[.string ⟨#[49, 53]⟩, .int .i64 1, .bool false], .nilIface]) ∧ Below w.heap.size w w' := by
 have q := ex_is fn_sure (s := ⟨#[49, 53]⟩) (p := 1) (by rw [show mg 9223372036854775808 4609434218613702656 = 4609434218613702656 by decide +kernel]; exact dx_sure) w
 exact q
theorem sure19  (w : World) :
 Calls Tryz.prog 10 #[] w fun x w' => x = .returned (.bool true) ∧ Below w.heap.size w w' := by
 have F0 : Hid (Below w.heap.size w w) := Below.refl _ _
 go_enter Tryz.func10, Tryz.ntmps10
 go_wp2_with fail
 all_goals first | (exfalso; omega) | skip
 refine (ex_sure _).mono ?_
 rintro o1 w1 ⟨rfl, bb⟩
 have F1 : Hid (Below w.heap.size w w1) := (F0.out).trans (bb.mono (F0.out).size)
 clear F0
 clear bb
 have le0 := (F1.out).size
 have F2 : Hid (Bk (w1.alloc (.cells #[.string ⟨#[49,53]⟩, .int .i64 1, .bool false] 24)) (w1.heap.size) [.string ⟨#[49,53]⟩, .int .i64 1, .bool false] ∧ Below w.heap.size w (w1.alloc (.cells #[.string ⟨#[49,53]⟩, .int .i64 1, .bool false] 24))) := ⟨Bk.new3 w1 (.string ⟨#[49,53]⟩) (.int .i64 1) (.bool false) 24, (F1.out).alloc ((F1.out).size) _⟩
 clear F1
 go_upto_region 2 with fail
 generalize (w1.alloc (.cells #[.string ⟨#[49,53]⟩, .int .i64 1, .bool false] 24)) = w2 at *
 have l1_0 := F2.out.1.lt
 have a1_0_0 := F2.out.1.cell 0 _ rfl
 have f1_0_0 := F2.out.1.fz 0
 have a1_0_1 := F2.out.1.cell 1 _ rfl
 have f1_0_1 := F2.out.1.fz 1
 have a1_0_2 := F2.out.1.cell 2 _ rfl
 have f1_0_2 := F2.out.1.fz 2
 go_wp2
 go_ret
 exact ⟨rfl, F2.out.2⟩
end Go.Proofs.YtdfefjcobeopbaaGreatDoor
