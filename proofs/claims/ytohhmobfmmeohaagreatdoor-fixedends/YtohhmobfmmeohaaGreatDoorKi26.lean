/-
  Holds: IvJ SoD FxM FxA SoI SoF IvL FxN VEwE.
-/
import Derived.Test.YtohhmobfmmeohaaGreatDoorRows
import Derived.Laws.Externs
import Derived.WalkKit
import Derived.WalkSpells
import Derived.WalkLawsBesides
import Derived.Lib.Mul64
import Derived.Stop.Asserts
import Derived.RowKitTokens
import Derived.Lib.Strings
import Derived.Lib.BufferWrite
import Derived.Deep.OwnRows
import Derived.Deep.RegionHeld3
import Derived.BigQuiet
import Derived.Lib.ConvBytes
import Derived.Laws.CopyOwn
import Derived.Lib.TrailingZeros
import Derived.Lib.ItoaNum
import Derived.Deep.LoopGhost
import Derived.Deep.AppendLies
import Derived.Deep.DeepCutAuto
import Derived.Test.YtohhmobfmmeohaaGreatDoorKi12
import Derived.Test.YtohhmobfmmeohaaGreatDoorKi22
import Derived.Test.YtohhmobfmmeohaaGreatDoorKi24
import Derived.Test.YtohhmobfmmeohaaGreatDoorKi25
set_option maxRecDepth 100000
set_option maxHeartbeats 4000000
namespace Go.Proofs.YtohhmobfmmeohaaGreatDoor
open Go.RowKit
def Sf (z : Int) (f T : Nat) (L : Int) (S I : Nat) : Prop :=
 (z = 32 ∧ f = 23 ∧ T = 255 ∧ L = -149 ∧ S = 2147483648 ∧ I = 2139095040) ∨ (z = 64 ∧ f = 52 ∧ T = 2047 ∧ L = -1074 ∧ S = 9223372036854775808 ∧ I = 9218868437227405312)
structure Fn (z : Int) (f T : Nat) (L : Int) (S I b : Nat) : Prop where
 sf : Sf z f T L S I
 lt : b < 2 * S
 fin : mg S b < I
def Bad (b : Nat) (z n : Int) : Prop := (Sn z ∧ n = 5) ∨ (z = 32 ∧ 4294967296 ≤ b ∧ n = 1) ∨ ∃ f T L S I, Sf z f T L S I ∧ b < 2 * S ∧ I ≤ mg S b ∧ n = 1
theorem kinds (b : Nat) (z : Int) (hb : b < 18446744073709551616) : (∃ n, Bad b z n) ∨ ∃ f T L S I, Fn z f T L S I b := by
 by_cases h1 : z = 32
 · by_cases h2 : b < 4294967296
   · by_cases h3 : mg 2147483648 b < 2139095040
     · exact Or.inr ⟨23, 255, -149, 2147483648, 2139095040, Or.inl ⟨h1, rfl, rfl, rfl, rfl, rfl⟩, by omega, h3⟩
     · exact Or.inl ⟨1, Or.inr (Or.inr ⟨23, 255, -149, 2147483648, 2139095040, Or.inl ⟨h1, rfl, rfl, rfl, rfl, rfl⟩, by omega, by omega, rfl⟩)⟩
   · exact Or.inl ⟨1, Or.inr (Or.inl ⟨h1, by omega, rfl⟩)⟩
 · by_cases h2 : z = 64
   · by_cases h3 : mg 9223372036854775808 b < 9218868437227405312
     · exact Or.inr ⟨52, 2047, -1074, 9223372036854775808, 9218868437227405312, Or.inr ⟨h2, rfl, rfl, rfl, rfl, rfl⟩, by omega, h3⟩
     · exact Or.inl ⟨1, Or.inr (Or.inr ⟨52, 2047, -1074, 9223372036854775808, 9218868437227405312, Or.inr ⟨h2, rfl, rfl, rfl, rfl, rfl⟩, by omega, by omega, rfl⟩)⟩
   · exact Or.inl ⟨5, Or.inl ⟨⟨h1, h2⟩, rfl⟩⟩
theorem Bad.not0 {b : Nat} {z n : Int} (h : Bad b z n) : (n == 0) = false := by
 rcases h with ⟨_, rfl⟩ | ⟨_, _, rfl⟩ | ⟨_, _, _, _, _, _, _, _, rfl⟩ <;> rfl
theorem Sf.fs {z : Int} {f T : Nat} {L : Int} {S I : Nat} (h : Sf z f T L S I) : Fs f T L ∧ I = T * 2 ^ f ∧ 2 * S ≤ 18446744073709551616 ∧ 2 ≤ S ∧ S % 2 = 0 ∧ 1 < I ∧ I < S := by
 rcases h with ⟨_, rfl, rfl, rfl, rfl, rfl⟩ | ⟨_, rfl, rfl, rfl, rfl, rfl⟩
 · exact ⟨Or.inl ⟨rfl, rfl, rfl⟩, by decide, by omega, by omega, by omega, by omega, by omega⟩
 · exact ⟨Or.inr ⟨rfl, rfl, rfl⟩, by decide, by omega, by omega, by omega, by omega, by omega⟩
theorem unp_any {z : Int} {f T : Nat} {L : Int} {S I b : Nat} (h : Sf z f T L S I) (hb : b < 2 * S) (w : World) :
 Calls Tryz.prog 62 #[.int .u64 (b : Int), .int .i64 z] w fun e w' => e = .returned (.tuple #[.agg #[.bool (uN S I b), .int .i64 (cl I (mg S b)), .int .u64 ((uM I f (mg S b) : Nat) : Int), .int .i64 (uE I f L (mg S b))], .nilIface]) ∧ Below w.heap.size w w' := by
 rcases h with ⟨rfl, rfl, rfl, rfl, rfl, rfl⟩ | ⟨rfl, rfl, rfl, rfl, rfl, rfl⟩
 · exact unp_32 (by omega) w
 · exact unp_64 (by omega) w
theorem least_any {z : Int} {f T : Nat} {L : Int} {S I : Nat} (h : Sf z f T L S I) (w : World) :
 Calls Tryz.prog 63 #[.int .i64 z] w fun e w' => e = .returned (.tuple #[.int .u64 1, .nilIface]) ∧ Below w.heap.size w w' := by
 rcases h with ⟨rfl, _⟩ | ⟨rfl, _⟩
 · exact bleast_32 w
 · exact bleast_64 w
theorem fin_bad {b : Nat} {z n : Int} (h : Bad b z n) (w : World) :
 Calls Tryz.prog 43 #[.int .u64 (b : Int), .int .i64 z] w fun e w' => e = .returned (.tuple #[.agg #[.bool false, .int .i64 0, .int .u64 0, .int .i64 0], .iface 57 (.int .i64 n)]) ∧ Below w.heap.size w w' := by
 rcases h with ⟨h, rfl⟩ | ⟨rfl, h, rfl⟩ | ⟨f, T, L, S, I, h, hb, hi, rfl⟩
 · exact fin_err (fun W => unp_no h _ W) w
 · exact fin_err (fun W => unp_big h W) w
 · have U := fun W => unp_any h hb W
   have i1 := h.fs.2.2.2.2.2.1
   have c : cl I (mg S b) = 3 ∨ cl I (mg S b) = 4 := by
    rcases cl_cases I (mg S b) with q | q | q | q
    · omega
    · omega
    · exact Or.inl q.2.2
    · exact Or.inr q.2
   have c2 : cl I (mg S b) ≠ 2 := by omega
   have e1 : uM I f (mg S b) = 0 := if_neg c2
   have e2 : uE I f L (mg S b) = 0 := if_neg c2
   rw [e1, e2] at U
   exact fin_not (beq_eq_false_iff_ne.mpr (by omega)) (beq_eq_false_iff_ne.mpr (by omega)) U w
theorem xp_one {f : Nat} (hf : 1 ≤ f) (L : Int) : xp f L 1 = L ∧ xp f L 0 = L ∧ mt f 0 = 0 := by
 have p : 2 ≤ 2 ^ f := by
  have := Nat.pow_le_pow_right (n := 2) (by omega) hf
  omega
 have e : 1 / 2 ^ f = 0 := Nat.div_eq_of_lt (by omega)
 refine ⟨?_, ?_, ?_⟩
 · unfold xp; rw [e, if_pos rfl]
 · unfold xp; rw [Nat.zero_div, if_pos rfl]
 · unfold mt; rw [Nat.zero_div, if_pos rfl]
theorem Fs.one {f T : Nat} {L : Int} (h : Fs f T L) : 1 ≤ f := by rcases h with ⟨rfl, _⟩ | ⟨rfl, _⟩ <;> omega
theorem Fn.m {z : Int} {f T : Nat} {L : Int} {S I b : Nat} (h : Fn z f T L S I b) : mg S b < T * 2 ^ f := by rw [← h.sf.fs.2.1]; exact h.fin
theorem fin_ok {z : Int} {f T : Nat} {L : Int} {S I b : Nat} (h : Fn z f T L S I b) (w : World) :
 Calls Tryz.prog 43 #[.int .u64 (b : Int), .int .i64 z] w fun e w' => e = .returned (.tuple #[.agg #[.bool (uN S I b), .int .i64 (cl I (mg S b)), .int .u64 ((mt f (mg S b) : Nat) : Int), .int .i64 (xp f L (mg S b))], .nilIface]) ∧ Below w.heap.size w w' := by
 have U := fun W => unp_any h.sf h.lt W
 obtain ⟨fs, hI, _, hS, _, hI1, hIS⟩ := h.sf.fs
 have hx := xp_one fs.one L
 by_cases m0 : mg S b = 0
 · have c1 : cl I (mg S b) = 1 := by rw [m0]; exact cl_zero I
   have e1 : uM I f (mg S b) = 0 := if_neg (by rw [c1]; decide)
   have e2 : uE I f L (mg S b) = 0 := if_neg (by rw [c1]; decide)
   have U1 := fun W => unp_any (b := 1) h.sf (by omega) W
   have g1 : mg S 1 = 1 := Nat.mod_eq_of_lt (by omega)
   have e4 : uE I f L (mg S 1) = xp f L (mg S b) := by
    rw [g1, m0, hx.2.1]
    show (if cl I 1 = 2 then xp f L 1 else 0) = L
    rw [if_pos (cl_fine (by decide) hI1), hx.1]
   rw [e1, e2, c1] at U
   rw [e4] at U1
   rw [c1, show ((mt f (mg S b) : Nat) : Int) = 0 by rw [m0, hx.2.2]; rfl]
   exact fin_zero U (fun W => least_any h.sf W) U1 w
 · have c2 : cl I (mg S b) = 2 := cl_fine m0 h.fin
   have e1 : uM I f (mg S b) = mt f (mg S b) := if_pos c2
   have e2 : uE I f L (mg S b) = xp f L (mg S b) := if_pos c2
   rw [e1, e2, c2] at U
   rw [c2]
   exact fin_fine U w
theorem ex_is {z : Int} {f T : Nat} {L : Int} {S I b : Nat} (h : Fn z f T L S I b) {s : ByteArray} {p : Int} (D : Dx s p (vlF f L (mg S b))) (w : World) :
 Calls Tryz.prog 29 #[.int .u64 (b : Int), .int .i64 z] w fun e w' => e = .returned (.tuple #[dcV s p false, .nilIface]) ∧ Below w.heap.size w w' := by
 have fs := h.sf.fs.1
 have x := xp_in fs h.m
 have m := mt_lt fs (mg S b)
 refine ex_ok (fun W => fin_ok h W) (fun W => pdec_any (by omega) (by omega) (by omega) ?_ D W) w
 by_cases m0 : mg S b = 0
 · right
   rw [m0, (xp_one fs.one L).2.1]
   rcases fs with ⟨_, _, rfl⟩ | ⟨_, _, rfl⟩ <;> omega
 · exact Or.inl (mt_some m0)
theorem Fn.has {z : Int} {f T : Nat} {L : Int} {S I b : Nat} (h : Fn z f T L S I b) : (∃ s p, Dx s p (loF f L (mg S b))) ∧ (∃ t q, Dx t q (hiF f L (mg S b))) ∧ ∃ u o, Dx u o (vlF f L (mg S b)) := by
 have fs := h.sf.fs.1
 have hi : ∀ k, k < T * 2 ^ f → ∃ t q, Dx t q (hiF f L k) := fun k hk => by
  have x := xp_in fs hk
  have m := mt_lt fs k
  exact dx_has (by omega) (by omega) (by omega)
 have x := xp_in fs h.m
 have m := mt_lt fs (mg S b)
 refine ⟨?_, hi _ h.m, dx_has (by omega) (by omega) (by omega)⟩
 by_cases m0 : mg S b = 0
 · rw [m0]; exact ⟨_, _, dx_nought⟩
 · obtain ⟨k, e⟩ : ∃ k, mg S b = k + 1 := ⟨mg S b - 1, by omega⟩
   have := h.m
   rw [e] at this ⊢
   exact hi k (by omega)
def dnU (X S : Nat) : Nat := X / S * S
def upU (X S : Nat) : Nat := (X + (S - 1)) / S * S
def rnB (X S : Nat) : Bool := decide (S < 2 * (X % S) ∨ (2 * (X % S) = S ∧ X / S % 2 = 1))
def rnU (X S : Nat) : Nat := if rnB X S then upU X S else dnU X S
theorem dn_mod {X S : Nat} : dnU X S + X % S = X := by unfold dnU; rw [Nat.mul_comm]; exact Nat.div_add_mod X S
theorem up_is {X S : Nat} (S0 : 0 < S) (h : 0 < X % S) : upU X S = dnU X S + S := by
 unfold upU dnU
 rw [up_some S0 h, Nat.add_mul, Nat.one_mul]
structure Fx (u : ByteArray) (o : Int) (n : Int) (v : ByteArray) (k : Int) : Prop where
 way : ((n < 0 ∨ u.size = 0) ∧ v = ⟨#[]⟩ ∧ k = 0) ∨
  (n = 0 ∧ 0 < u.size ∧ upB u false 0 = false ∧ v = ⟨#[]⟩ ∧ k = 0) ∨
  (n = 0 ∧ 0 < u.size ∧ upB u false 0 = true ∧ v = ⟨#[49]⟩ ∧ k = o + 1) ∨
  ∃ (N : Nat) (s1 s2 : ByteArray) (p2 : Int), n = (N : Int) ∧ 0 < N ∧ 0 < u.size ∧ Du u o N s1 s2 p2 ∧ ((N < u.size ∧ upB u false N = true ∧ v = s2 ∧ k = p2) ∨ (¬ (N < u.size ∧ upB u false N = true) ∧ v = s1 ∧ k = o))
theorem rnB_less {X S : Nat} (h : 2 * X < S) : rnB X S = false := by
 unfold rnB
 rw [Nat.mod_eq_of_lt (by omega)]
 exact decide_eq_false (by omega)
theorem rnU_less {X S : Nat} (h : 2 * X < S) : rnU X S = 0 := by
 unfold rnU
 rw [rnB_less h]
 unfold dnU
 rw [if_neg (by decide), Nat.div_eq_of_lt (by omega), Nat.zero_mul]
theorem rn_up {u : ByteArray} {o : Int} {X A : Nat} (G : Dx u o X) (u0 : 0 < u.size) (hA : o + (R0 : Int) = (A : Int)) {n : Nat} (n0 : 0 < n) : (n < u.size ∧ upB u false n = true) ↔ rnB X (10 ^ (A - n)) = true := by
 have S0 : 0 < 10 ^ (A - n) := Nat.pow_pos (by decide)
 unfold rnB
 rw [decide_eq_true_eq]
 by_cases c : n < u.size
 · rw [← up_num G u0 hA n0 c]
   exact ⟨fun h => h.2, fun h => ⟨c, h⟩⟩
 · have mz : X % 10 ^ (A - n) = 0 := by
    have lo := G.lo
    have vl := G.vl
    rw [hA] at vl lo
    rw [← vl, show ((A : Int) - (u.size : Int)).toNat = (A - u.size - (A - n)) + (A - n) by omega, Nat.pow_add, ← Nat.mul_assoc, Nat.mul_mod_left]
   rw [mz]
   constructor
   · intro h; exact absurd h.1 c
   · intro h; omega
theorem rn_up0 {u : ByteArray} {o : Int} {X A : Nat} (G : Dx u o X) (u0 : 0 < u.size) (hA : o + (R0 : Int) = (A : Int)) : upB u false 0 = rnB X (10 ^ A) := by
 obtain ⟨q1, q2⟩ := half_num G u0 hA u0
 obtain ⟨_, _, e1, _⟩ := cut_num G u0 hA u0
 have e0 : X / 10 ^ (A - 0) = 0 := e1
 rw [Nat.sub_zero] at q1 q2 e0
 unfold rnB upB
 rw [Bool.eq_iff_iff, decide_eq_true_eq, q1, q2, e0]
 by_cases c : dgt u 0 = 53
 · rw [if_pos c, Bool.false_or]
   simp only [Bool.or_eq_true, Bool.and_eq_true, decide_eq_true_eq]
   omega
 · rw [if_neg c, decide_eq_true_eq]
   omega
theorem dx_unit {o : Int} {A : Nat} (hA : o + (R0 : Int) = (A : Int)) (h0 : -1099511627776 ≤ o) (h1 : o ≤ 1000) : Dx ⟨#[49]⟩ (o + 1) (10 ^ A) := by
 refine ⟨Or.inr ⟨by decide, by decide, dg_one, by decide, Or.inl (by decide), by omega, by omega⟩, ?_, ?_⟩
 · show ((1 : Nat) : Int) ≤ _
   omega
 · show 1 * 10 ^ (o + 1 + (R0 : Int) - ((1 : Nat) : Int)).toNat = 10 ^ A
   rw [Nat.one_mul]
   congr 1
   omega
theorem fx_ex {u : ByteArray} {o : Int} {X : Nat} (G : Dx u o X) (o1 : o ≤ 1000) (n : Int) : ∃ v k, Fx u o n v k ∧ Dx v k (rnU X (10 ^ (o + (R0 : Int) - n).toNat)) := by
  by_cases u0 : u.size = 0
  · obtain ⟨rfl, rfl⟩ := G.none u0
    refine ⟨⟨#[]⟩, 0, ⟨Or.inl ⟨Or.inr u0, rfl, rfl⟩⟩, ?_⟩
    rw [rnU_less (by rw [Nat.mul_zero]; exact Nat.pow_pos (by decide))]
    exact dx_nought
  · have u1 : 0 < u.size := by omega
    have lo := G.lo
    obtain ⟨A, hA⟩ : ∃ A : Nat, o + (R0 : Int) = (A : Int) := ⟨(o + (R0 : Int)).toNat, by omega⟩
    have top := (G.some u1).2.2
    rw [hA, show ((A : Int)).toNat = A by omega] at top
    rcases Int.lt_trichotomy n 0 with c | c | c
    · refine ⟨⟨#[]⟩, 0, ⟨Or.inl ⟨Or.inl c, rfl, rfl⟩⟩, ?_⟩
      have big : 10 ^ A * 10 ≤ 10 ^ (o + (R0 : Int) - n).toNat := by
        rw [← Nat.pow_succ]
        exact Nat.pow_le_pow_right (by decide) (by omega)
      rw [rnU_less (by omega)]
      exact dx_nought
    · subst c
      rw [hA, show ((A : Int) - 0).toNat = A by omega]
      have e := rn_up0 G u1 hA
      cases r : rnB X (10 ^ A) with
      | false =>
        rw [r] at e
        refine ⟨⟨#[]⟩, 0, ⟨Or.inr (Or.inl ⟨rfl, u1, e, rfl, rfl⟩)⟩, ?_⟩
        unfold rnU
        rw [r, if_neg (by decide)]
        unfold dnU
        rw [Nat.div_eq_of_lt top, Nat.zero_mul]
        exact dx_nought
      | true =>
        rw [r] at e
        refine ⟨⟨#[49]⟩, o + 1, ⟨Or.inr (Or.inr (Or.inl ⟨rfl, u1, e, rfl, rfl⟩))⟩, ?_⟩
        have X0 := G.pos.1 u1
        have S0 : 0 < 10 ^ A := Nat.pow_pos (by decide)
        have m : X % 10 ^ A = X := Nat.mod_eq_of_lt top
        unfold rnU
        rw [r, if_pos rfl, up_is S0 (by omega)]
        unfold dnU
        rw [Nat.div_eq_of_lt top, Nat.zero_mul, Nat.zero_add]
        exact dx_unit hA (G.vn u1).lo o1
    · obtain ⟨N, rfl⟩ : ∃ N : Nat, n = (N : Int) := ⟨n.toNat, by omega⟩
      have N0 : 0 < N := by omega
      obtain ⟨s1, s2, p2, D1, D2, du⟩ := du_all G u1 o1 hA N0
      rw [hA, show ((A : Int) - (N : Int)).toNat = A - N by omega]
      have e := rn_up G u1 hA N0
      by_cases r : rnB X (10 ^ (A - N)) = true
      · have e2 := e.2 r
        refine ⟨s2, p2, ⟨Or.inr (Or.inr (Or.inr ⟨N, s1, s2, p2, rfl, N0, u1, du, Or.inl ⟨e2.1, e2.2, rfl, rfl⟩⟩))⟩, ?_⟩
        unfold rnU
        rw [if_pos r]
        exact D2
      · refine ⟨s1, o, ⟨Or.inr (Or.inr (Or.inr ⟨N, s1, s2, p2, rfl, N0, u1, du, Or.inr ⟨fun h => r (e.1 h), rfl, rfl⟩⟩))⟩, ?_⟩
        unfold rnU
        rw [if_neg r]
        exact D1
theorem Fx.few {u : ByteArray} {o : Int} {n : Nat} {v : ByteArray} {k : Int} (h : Fx u o (n : Int) v k) (n0 : 0 < n) : v.size ≤ n := by
 rcases h.way with ⟨_, rfl, _⟩ | ⟨c, _⟩ | ⟨c, _⟩ | ⟨N, s1, s2, p2, e, N0, u0, D, w⟩
 · exact Nat.zero_le _
 · omega
 · omega
 · obtain rfl : n = N := by omega
   have q : s1.size ≤ n ∧ s2.size ≤ n := by
    rcases D.way with ⟨c, rfl, rfl, _⟩ | ⟨c, m, k, m0, m1, _, _, rfl, k1, _, K⟩
    · exact ⟨c, c⟩
    · refine ⟨by rw [pre_size (by omega)]; exact m1, ?_⟩
      rcases K with ⟨_, rfl, _⟩ | ⟨k0, _, rfl, _⟩
      · exact N0
      · rw [upS_size k0 (by omega)]; exact k1
   rcases w with ⟨_, _, rfl, _⟩ | ⟨_, rfl, _⟩
   · exact q.2
   · exact q.1
theorem Fx.all {u : ByteArray} {o : Int} {n : Nat} {v : ByteArray} {k : Int} (h : Fx u o (n : Int) v k) (z : u.size = 0 → u = ⟨#[]⟩ ∧ o = 0) (hn : u.size ≤ n) : v = u ∧ k = o := by
 rcases h.way with ⟨c, rfl, rfl⟩ | ⟨c, _⟩ | ⟨c, _⟩ | ⟨N, s1, s2, p2, e, N0, u0, D, w⟩
 · obtain ⟨rfl, rfl⟩ := z (by omega)
   exact ⟨rfl, rfl⟩
 · omega
 · omega
 · obtain rfl : n = N := by omega
   rcases D.way with ⟨c, rfl, rfl, rfl⟩ | ⟨c, _⟩
   · rcases w with ⟨c, _⟩ | ⟨_, rfl, rfl⟩
     · omega
     · exact ⟨rfl, rfl⟩
   · omega
theorem Dx.nil {u : ByteArray} {o : Int} {X : Nat} (G : Dx u o X) (h : u.size = 0) : u = ⟨#[]⟩ ∧ o = 0 := ⟨size_zero h, (G.none h).2⟩
theorem frd_neg {u : ByteArray} {o n : Int} (q0 : n < 0) (w : World) :
 Calls Tryz.prog 30 #[.agg #[.string u, .int .i64 o, .bool false], .int .i64 n] w fun x w' => x = .returned (.agg #[.string ⟨#[]⟩, .int .i64 0, .bool false]) ∧ Below w.heap.size w w' := by
 have F0 : Hid (Bk ((w.alloc (.cells #[.string u, .int .i64 o, .bool false] 24)).alloc (.cells #[.string ⟨#[]⟩, .int .i64 0, .bool false] 24)) (w.heap.size) [.string u, .int .i64 o, .bool false] ∧ Bk ((w.alloc (.cells #[.string u, .int .i64 o, .bool false] 24)).alloc (.cells #[.string ⟨#[]⟩, .int .i64 0, .bool false] 24)) (w.heap.size + 1) [.string ⟨#[]⟩, .int .i64 0, .bool false] ∧ Below w.heap.size w ((w.alloc (.cells #[.string u, .int .i64 o, .bool false] 24)).alloc (.cells #[.string ⟨#[]⟩, .int .i64 0, .bool false] 24))) := ⟨(Bk.new3 w (.string u) (.int .i64 o) (.bool false) 24).step ((Below.refl _ _).alloc (Nat.le_refl _) _), ((by have q := Bk.new3 (w.alloc (.cells #[.string u, .int .i64 o, .bool false] 24)) (.string ⟨#[]⟩) (.int .i64 0) (.bool false) 24; simpa using q) : Bk ((w.alloc (.cells #[.string u, .int .i64 o, .bool false] 24)).alloc (.cells #[.string ⟨#[]⟩, .int .i64 0, .bool false] 24)) (w.heap.size + 1) [.string ⟨#[]⟩, .int .i64 0, .bool false]), (((Below.refl w.heap.size w)).alloc (Nat.le_refl _) _).alloc ((((Below.refl w.heap.size w)).alloc (Nat.le_refl _) _).size) _⟩
 go_enter Tryz.func30, Tryz.ntmps30
 go_upto_region 1 with fail
 generalize ((w.alloc (.cells #[.string u, .int .i64 o, .bool false] 24)).alloc (.cells #[.string ⟨#[]⟩, .int .i64 0, .bool false] 24)) = w1 at *
 have l1_0 := F0.out.1.lt
 have a1_0_0 := F0.out.1.cell 0 _ rfl
 have f1_0_0 := F0.out.1.fz 0
 have a1_0_1 := F0.out.1.cell 1 _ rfl
 have f1_0_1 := F0.out.1.fz 1
 have a1_0_2 := F0.out.1.cell 2 _ rfl
 have f1_0_2 := F0.out.1.fz 2
 have l1_1 := F0.out.2.1.lt
 have a1_1_0 := F0.out.2.1.cell 0 _ rfl
 have f1_1_0 := F0.out.2.1.fz 0
 have a1_1_1 := F0.out.2.1.cell 1 _ rfl
 have f1_1_1 := F0.out.2.1.fz 1
 have a1_1_2 := F0.out.2.1.cell 2 _ rfl
 have f1_1_2 := F0.out.2.1.fz 2
 have ne1_0_1 : ¬ w.heap.size = w.heap.size + 1 := by omega
 have ne1_1_0 : ¬ w.heap.size + 1 = w.heap.size := by omega
 go_wp2
 refine bodyPost_ret (v := .agg #[.string ⟨#[]⟩, .int .i64 0, .bool false]) (by simp [results, Tryz.results30, go_sem, World.cell?_setCell_same, World.cell?_setCell_other, *]) rfl ⟨rfl, ?_⟩
 repeat (first | refine Below.setCell ?_ (by first | exact Nat.le_refl _ | (dsimp only; omega)) _ | refine Below.alloc ?_ (by first | exact Nat.le_refl _ | omega | (simp; omega)) _ | refine Below.drew ?_)
 exact F0.out.2.2
theorem frd_in {u v : ByteArray} {o k n : Int} (q0 : ¬ n < 0) (q1 : n ≤ (u.size : Int)) (HR : ∀ W, Calls Tryz.prog 45 #[.agg #[.string u, .int .i64 o, .bool false], .int .i64 n] W fun e w' => e = .returned (.tuple #[.agg #[.string v, .int .i64 k, .bool false], .nilIface]) ∧ Below W.heap.size W w') (w : World) :
 Calls Tryz.prog 30 #[.agg #[.string u, .int .i64 o, .bool false], .int .i64 n] w fun x w' => x = .returned (.agg #[.string v, .int .i64 k, .bool false]) ∧ Below w.heap.size w w' := by
 have F0 : Hid (Bk ((w.alloc (.cells #[.string u, .int .i64 o, .bool false] 24)).alloc (.cells #[.string ⟨#[]⟩, .int .i64 0, .bool false] 24)) (w.heap.size) [.string u, .int .i64 o, .bool false] ∧ Bk ((w.alloc (.cells #[.string u, .int .i64 o, .bool false] 24)).alloc (.cells #[.string ⟨#[]⟩, .int .i64 0, .bool false] 24)) (w.heap.size + 1) [.string ⟨#[]⟩, .int .i64 0, .bool false] ∧ Below w.heap.size w ((w.alloc (.cells #[.string u, .int .i64 o, .bool false] 24)).alloc (.cells #[.string ⟨#[]⟩, .int .i64 0, .bool false] 24))) := ⟨(Bk.new3 w (.string u) (.int .i64 o) (.bool false) 24).step ((Below.refl _ _).alloc (Nat.le_refl _) _), ((by have q := Bk.new3 (w.alloc (.cells #[.string u, .int .i64 o, .bool false] 24)) (.string ⟨#[]⟩) (.int .i64 0) (.bool false) 24; simpa using q) : Bk ((w.alloc (.cells #[.string u, .int .i64 o, .bool false] 24)).alloc (.cells #[.string ⟨#[]⟩, .int .i64 0, .bool false] 24)) (w.heap.size + 1) [.string ⟨#[]⟩, .int .i64 0, .bool false]), (((Below.refl w.heap.size w)).alloc (Nat.le_refl _) _).alloc ((((Below.refl w.heap.size w)).alloc (Nat.le_refl _) _).size) _⟩
 go_enter Tryz.func30, Tryz.ntmps30
 go_upto_region 1 with fail
 generalize ((w.alloc (.cells #[.string u, .int .i64 o, .bool false] 24)).alloc (.cells #[.string ⟨#[]⟩, .int .i64 0, .bool false] 24)) = w1 at *
 have l1_0 := F0.out.1.lt
 have a1_0_0 := F0.out.1.cell 0 _ rfl
 have f1_0_0 := F0.out.1.fz 0
 have a1_0_1 := F0.out.1.cell 1 _ rfl
 have f1_0_1 := F0.out.1.fz 1
 have a1_0_2 := F0.out.1.cell 2 _ rfl
 have f1_0_2 := F0.out.1.fz 2
 have l1_1 := F0.out.2.1.lt
 have a1_1_0 := F0.out.2.1.cell 0 _ rfl
 have f1_1_0 := F0.out.2.1.fz 0
 have a1_1_1 := F0.out.2.1.cell 1 _ rfl
 have f1_1_1 := F0.out.2.1.fz 1
 have a1_1_2 := F0.out.2.1.cell 2 _ rfl
 have f1_1_2 := F0.out.2.1.fz 2
 have ne1_0_1 : ¬ w.heap.size = w.heap.size + 1 := by omega
 have ne1_1_0 : ¬ w.heap.size + 1 = w.heap.size := by omega
 go_wp2_with fail
 all_goals first | (exfalso; omega) | skip
 refine (HR _).mono ?_
 rintro o2 w2 ⟨rfl, bb⟩
 have F1 : Hid (Bk w2 (w.heap.size) [.string u, .int .i64 o, .bool false] ∧ Bk w2 (w.heap.size + 1) [.string ⟨#[]⟩, .int .i64 0, .bool false] ∧ Below w.heap.size w w2) := ⟨(F0.out.1).step bb, (F0.out.2.1).step bb, (F0.out.2.2).trans (bb.mono (F0.out.2.2).size)⟩
 clear F0
 clear bb
 clear l1_0 a1_0_0 f1_0_0 a1_0_1 f1_0_1 a1_0_2 f1_0_2 l1_1 a1_1_0 f1_1_0 a1_1_1 f1_1_1 a1_1_2 f1_1_2
 have lt0_2 := (F1.out.1).lt
 have lt1_2 := (F1.out.2.1).lt
 have le2 := (F1.out.2.2).size
 have F2 : Hid (Bk (w2.alloc (.cells #[.string v, .int .i64 k, .bool false] 24)) (w.heap.size) [.string u, .int .i64 o, .bool false] ∧ Bk (w2.alloc (.cells #[.string v, .int .i64 k, .bool false] 24)) (w.heap.size + 1) [.string ⟨#[]⟩, .int .i64 0, .bool false] ∧ Bk (w2.alloc (.cells #[.string v, .int .i64 k, .bool false] 24)) (w2.heap.size) [.string v, .int .i64 k, .bool false] ∧ Below w.heap.size w (w2.alloc (.cells #[.string v, .int .i64 k, .bool false] 24))) := ⟨(F1.out.1).step ((Below.refl _ _).alloc (Nat.le_refl _) _), (F1.out.2.1).step ((Below.refl _ _).alloc (Nat.le_refl _) _), Bk.new3 w2 (.string v) (.int .i64 k) (.bool false) 24, (F1.out.2.2).alloc ((F1.out.2.2).size) _⟩
 clear F1
 go_upto_region 4 with fail
 generalize (w2.alloc (.cells #[.string v, .int .i64 k, .bool false] 24)) = w3 at *
 have l2_0 := F2.out.1.lt
 have a2_0_0 := F2.out.1.cell 0 _ rfl
 have f2_0_0 := F2.out.1.fz 0
 have a2_0_1 := F2.out.1.cell 1 _ rfl
 have f2_0_1 := F2.out.1.fz 1
 have a2_0_2 := F2.out.1.cell 2 _ rfl
 have f2_0_2 := F2.out.1.fz 2
 have l2_1 := F2.out.2.1.lt
 have a2_1_0 := F2.out.2.1.cell 0 _ rfl
 have f2_1_0 := F2.out.2.1.fz 0
 have a2_1_1 := F2.out.2.1.cell 1 _ rfl
 have f2_1_1 := F2.out.2.1.fz 1
 have a2_1_2 := F2.out.2.1.cell 2 _ rfl
 have f2_1_2 := F2.out.2.1.fz 2
 have l2_2 := F2.out.2.2.1.lt
 have a2_2_0 := F2.out.2.2.1.cell 0 _ rfl
 have f2_2_0 := F2.out.2.2.1.fz 0
 have a2_2_1 := F2.out.2.2.1.cell 1 _ rfl
 have f2_2_1 := F2.out.2.2.1.fz 1
 have a2_2_2 := F2.out.2.2.1.cell 2 _ rfl
 have f2_2_2 := F2.out.2.2.1.fz 2
 have ne2_0_1 : ¬ w.heap.size = w.heap.size + 1 := by omega
 have ne2_0_2 : ¬ w.heap.size = w2.heap.size := by omega
 have ne2_1_0 : ¬ w.heap.size + 1 = w.heap.size := by omega
 have ne2_1_2 : ¬ w.heap.size + 1 = w2.heap.size := by omega
 have ne2_2_0 : ¬ w2.heap.size = w.heap.size := by omega
 have ne2_2_1 : ¬ w2.heap.size = w.heap.size + 1 := by omega
 go_wp2
 refine bodyPost_ret (v := .agg #[.string v, .int .i64 k, .bool false]) (by simp [results, Tryz.results30, go_sem, World.cell?_setCell_same, World.cell?_setCell_other, *]) rfl ⟨rfl, ?_⟩
 repeat (first | refine Below.setCell ?_ (by first | exact Nat.le_refl _ | (dsimp only; omega)) _ | refine Below.alloc ?_ (by first | exact Nat.le_refl _ | omega | (simp; omega)) _ | refine Below.drew ?_)
 exact F2.out.2.2.2
theorem frd_out {u v : ByteArray} {o k n : Int} (q0 : ¬ n < 0) (q1 : (u.size : Int) < n) (HR : ∀ W, Calls Tryz.prog 45 #[.agg #[.string u, .int .i64 o, .bool false], .int .i64 (u.size : Int)] W fun e w' => e = .returned (.tuple #[.agg #[.string v, .int .i64 k, .bool false], .nilIface]) ∧ Below W.heap.size W w') (w : World) :
 Calls Tryz.prog 30 #[.agg #[.string u, .int .i64 o, .bool false], .int .i64 n] w fun x w' => x = .returned (.agg #[.string v, .int .i64 k, .bool false]) ∧ Below w.heap.size w w' := by
 have F0 : Hid (Bk ((w.alloc (.cells #[.string u, .int .i64 o, .bool false] 24)).alloc (.cells #[.string ⟨#[]⟩, .int .i64 0, .bool false] 24)) (w.heap.size) [.string u, .int .i64 o, .bool false] ∧ Bk ((w.alloc (.cells #[.string u, .int .i64 o, .bool false] 24)).alloc (.cells #[.string ⟨#[]⟩, .int .i64 0, .bool false] 24)) (w.heap.size + 1) [.string ⟨#[]⟩, .int .i64 0, .bool false] ∧ Below w.heap.size w ((w.alloc (.cells #[.string u, .int .i64 o, .bool false] 24)).alloc (.cells #[.string ⟨#[]⟩, .int .i64 0, .bool false] 24))) := ⟨(Bk.new3 w (.string u) (.int .i64 o) (.bool false) 24).step ((Below.refl _ _).alloc (Nat.le_refl _) _), ((by have q := Bk.new3 (w.alloc (.cells #[.string u, .int .i64 o, .bool false] 24)) (.string ⟨#[]⟩) (.int .i64 0) (.bool false) 24; simpa using q) : Bk ((w.alloc (.cells #[.string u, .int .i64 o, .bool false] 24)).alloc (.cells #[.string ⟨#[]⟩, .int .i64 0, .bool false] 24)) (w.heap.size + 1) [.string ⟨#[]⟩, .int .i64 0, .bool false]), (((Below.refl w.heap.size w)).alloc (Nat.le_refl _) _).alloc ((((Below.refl w.heap.size w)).alloc (Nat.le_refl _) _).size) _⟩
 go_enter Tryz.func30, Tryz.ntmps30
 go_upto_region 1 with fail
 generalize ((w.alloc (.cells #[.string u, .int .i64 o, .bool false] 24)).alloc (.cells #[.string ⟨#[]⟩, .int .i64 0, .bool false] 24)) = w1 at *
 have l1_0 := F0.out.1.lt
 have a1_0_0 := F0.out.1.cell 0 _ rfl
 have f1_0_0 := F0.out.1.fz 0
 have a1_0_1 := F0.out.1.cell 1 _ rfl
 have f1_0_1 := F0.out.1.fz 1
 have a1_0_2 := F0.out.1.cell 2 _ rfl
 have f1_0_2 := F0.out.1.fz 2
 have l1_1 := F0.out.2.1.lt
 have a1_1_0 := F0.out.2.1.cell 0 _ rfl
 have f1_1_0 := F0.out.2.1.fz 0
 have a1_1_1 := F0.out.2.1.cell 1 _ rfl
 have f1_1_1 := F0.out.2.1.fz 1
 have a1_1_2 := F0.out.2.1.cell 2 _ rfl
 have f1_1_2 := F0.out.2.1.fz 2
 have ne1_0_1 : ¬ w.heap.size = w.heap.size + 1 := by omega
 have ne1_1_0 : ¬ w.heap.size + 1 = w.heap.size := by omega
 go_wp2_with fail
 all_goals first | (exfalso; omega) | skip
 refine (HR _).mono ?_
 rintro o2 w2 ⟨rfl, bb⟩
 have F1 : Hid (Bk w2 (w.heap.size) [.string u, .int .i64 o, .bool false] ∧ Bk w2 (w.heap.size + 1) [.string ⟨#[]⟩, .int .i64 0, .bool false] ∧ Below w.heap.size w w2) := ⟨(F0.out.1).step bb, (F0.out.2.1).step bb, (F0.out.2.2).trans (bb.mono (F0.out.2.2).size)⟩
 clear F0
 clear bb
 clear l1_0 a1_0_0 f1_0_0 a1_0_1 f1_0_1 a1_0_2 f1_0_2 l1_1 a1_1_0 f1_1_0 a1_1_1 f1_1_1 a1_1_2 f1_1_2
 have lt0_2 := (F1.out.1).lt
 have lt1_2 := (F1.out.2.1).lt
 have le2 := (F1.out.2.2).size
 have F2 : Hid (Bk (w2.alloc (.cells #[.string v, .int .i64 k, .bool false] 24)) (w.heap.size) [.string u, .int .i64 o, .bool false] ∧ Bk (w2.alloc (.cells #[.string v, .int .i64 k, .bool false] 24)) (w.heap.size + 1) [.string ⟨#[]⟩, .int .i64 0, .bool false] ∧ Bk (w2.alloc (.cells #[.string v, .int .i64 k, .bool false] 24)) (w2.heap.size) [.string v, .int .i64 k, .bool false] ∧ Below w.heap.size w (w2.alloc (.cells #[.string v, .int .i64 k, .bool false] 24))) := ⟨(F1.out.1).step ((Below.refl _ _).alloc (Nat.le_refl _) _), (F1.out.2.1).step ((Below.refl _ _).alloc (Nat.le_refl _) _), Bk.new3 w2 (.string v) (.int .i64 k) (.bool false) 24, (F1.out.2.2).alloc ((F1.out.2.2).size) _⟩
 clear F1
 go_upto_region 4 with fail
 generalize (w2.alloc (.cells #[.string v, .int .i64 k, .bool false] 24)) = w3 at *
 have l2_0 := F2.out.1.lt
 have a2_0_0 := F2.out.1.cell 0 _ rfl
 have f2_0_0 := F2.out.1.fz 0
 have a2_0_1 := F2.out.1.cell 1 _ rfl
 have f2_0_1 := F2.out.1.fz 1
 have a2_0_2 := F2.out.1.cell 2 _ rfl
 have f2_0_2 := F2.out.1.fz 2
 have l2_1 := F2.out.2.1.lt
 have a2_1_0 := F2.out.2.1.cell 0 _ rfl
 have f2_1_0 := F2.out.2.1.fz 0
 have a2_1_1 := F2.out.2.1.cell 1 _ rfl
 have f2_1_1 := F2.out.2.1.fz 1
 have a2_1_2 := F2.out.2.1.cell 2 _ rfl
 have f2_1_2 := F2.out.2.1.fz 2
 have l2_2 := F2.out.2.2.1.lt
 have a2_2_0 := F2.out.2.2.1.cell 0 _ rfl
 have f2_2_0 := F2.out.2.2.1.fz 0
 have a2_2_1 := F2.out.2.2.1.cell 1 _ rfl
 have f2_2_1 := F2.out.2.2.1.fz 1
 have a2_2_2 := F2.out.2.2.1.cell 2 _ rfl
 have f2_2_2 := F2.out.2.2.1.fz 2
 have ne2_0_1 : ¬ w.heap.size = w.heap.size + 1 := by omega
 have ne2_0_2 : ¬ w.heap.size = w2.heap.size := by omega
 have ne2_1_0 : ¬ w.heap.size + 1 = w.heap.size := by omega
 have ne2_1_2 : ¬ w.heap.size + 1 = w2.heap.size := by omega
 have ne2_2_0 : ¬ w2.heap.size = w.heap.size := by omega
 have ne2_2_1 : ¬ w2.heap.size = w.heap.size + 1 := by omega
 go_wp2
 refine bodyPost_ret (v := .agg #[.string v, .int .i64 k, .bool false]) (by simp [results, Tryz.results30, go_sem, World.cell?_setCell_same, World.cell?_setCell_other, *]) rfl ⟨rfl, ?_⟩
 repeat (first | refine Below.setCell ?_ (by first | exact Nat.le_refl _ | (dsimp only; omega)) _ | refine Below.alloc ?_ (by first | exact Nat.le_refl _ | omega | (simp; omega)) _ | refine Below.drew ?_)
 exact F2.out.2.2.2
theorem fdg_err {b z m n : Int} (HE : ∀ W, Calls Tryz.prog 29 #[.int .u64 b, .int .i64 z] W fun e w' => e = .returned (.tuple #[.agg #[.string ⟨#[]⟩, .int .i64 0, .bool false], .iface 57 (.int .i64 m)]) ∧ Below W.heap.size W w') (w : World) :
 Calls Tryz.prog 7 #[.int .u64 b, .int .i64 z, .int .i64 n] w fun x w' => x = .returned (.tuple #[.agg #[.string ⟨#[]⟩, .int .i64 0, .bool false], .iface 57 (.int .i64 m)]) ∧ Below w.heap.size w w' := by
 have F0 : Hid (Bk (w.alloc (.cells #[.string ⟨#[]⟩, .int .i64 0, .bool false] 24)) (w.heap.size) [.string ⟨#[]⟩, .int .i64 0, .bool false] ∧ Below w.heap.size w (w.alloc (.cells #[.string ⟨#[]⟩, .int .i64 0, .bool false] 24))) := ⟨Bk.new3 w (.string ⟨#[]⟩) (.int .i64 0) (.bool false) 24, ((Below.refl w.heap.size w)).alloc (Nat.le_refl _) _⟩
 go_enter Tryz.func7, Tryz.ntmps7
 go_upto_region 1 with fail
 generalize (w.alloc (.cells #[.string ⟨#[]⟩, .int .i64 0, .bool false] 24)) = w1 at *
 go_wp2_with fail
 all_goals first | (exfalso; omega) | skip
 refine (HE _).mono ?_
 rintro o2 w2 ⟨rfl, bb⟩
 have F1 : Hid (Bk w2 (w.heap.size) [.string ⟨#[]⟩, .int .i64 0, .bool false] ∧ Below w.heap.size w w2) := ⟨(F0.out.1).step bb, (F0.out.2).trans (bb.mono (F0.out.2).size)⟩
 clear F0
 clear bb
 have lt0_1 := (F1.out.1).lt
 have le1 := (F1.out.2).size
 have F2 : Hid (Bk (w2.alloc (.cells #[.string ⟨#[]⟩, .int .i64 0, .bool false] 24)) (w.heap.size) [.string ⟨#[]⟩, .int .i64 0, .bool false] ∧ Bk (w2.alloc (.cells #[.string ⟨#[]⟩, .int .i64 0, .bool false] 24)) (w2.heap.size) [.string ⟨#[]⟩, .int .i64 0, .bool false] ∧ Below w.heap.size w (w2.alloc (.cells #[.string ⟨#[]⟩, .int .i64 0, .bool false] 24))) := ⟨(F1.out.1).step ((Below.refl _ _).alloc (Nat.le_refl _) _), Bk.new3 w2 (.string ⟨#[]⟩) (.int .i64 0) (.bool false) 24, (F1.out.2).alloc ((F1.out.2).size) _⟩
 clear F1
 go_upto_region 2 with fail
 generalize (w2.alloc (.cells #[.string ⟨#[]⟩, .int .i64 0, .bool false] 24)) = w3 at *
 have l1_0 := F2.out.1.lt
 have a1_0_0 := F2.out.1.cell 0 _ rfl
 have f1_0_0 := F2.out.1.fz 0
 have a1_0_1 := F2.out.1.cell 1 _ rfl
 have f1_0_1 := F2.out.1.fz 1
 have a1_0_2 := F2.out.1.cell 2 _ rfl
 have f1_0_2 := F2.out.1.fz 2
 have l1_1 := F2.out.2.1.lt
 have a1_1_0 := F2.out.2.1.cell 0 _ rfl
 have f1_1_0 := F2.out.2.1.fz 0
 have a1_1_1 := F2.out.2.1.cell 1 _ rfl
 have f1_1_1 := F2.out.2.1.fz 1
 have a1_1_2 := F2.out.2.1.cell 2 _ rfl
 have f1_1_2 := F2.out.2.1.fz 2
 have ne1_0_1 : ¬ w.heap.size = w2.heap.size := by omega
 have ne1_1_0 : ¬ w2.heap.size = w.heap.size := by omega
 go_wp2
 refine bodyPost_ret (v := .tuple #[.agg #[.string ⟨#[]⟩, .int .i64 0, .bool false], .iface 57 (.int .i64 m)]) (by simp [results, Tryz.results7, go_sem, World.cell?_setCell_same, World.cell?_setCell_other, *]) rfl ⟨rfl, ?_⟩
 repeat (first | refine Below.setCell ?_ (by first | exact Nat.le_refl _ | (dsimp only; omega)) _ | refine Below.alloc ?_ (by first | exact Nat.le_refl _ | omega | (simp; omega)) _ | refine Below.drew ?_)
 exact F2.out.2.2
theorem fdg_low {b z n : Int} {u : ByteArray} {o : Int} (q1 : n < 1) (HE : ∀ W, Calls Tryz.prog 29 #[.int .u64 b, .int .i64 z] W fun e w' => e = .returned (.tuple #[.agg #[.string u, .int .i64 o, .bool false], .nilIface]) ∧ Below W.heap.size W w') (w : World) :
 Calls Tryz.prog 7 #[.int .u64 b, .int .i64 z, .int .i64 n] w fun x w' => x = .returned (.tuple #[.agg #[.string ⟨#[]⟩, .int .i64 0, .bool false], .iface 57 (.int .i64 8)]) ∧ Below w.heap.size w w' := by
 have F0 : Hid (Bk (w.alloc (.cells #[.string ⟨#[]⟩, .int .i64 0, .bool false] 24)) (w.heap.size) [.string ⟨#[]⟩, .int .i64 0, .bool false] ∧ Below w.heap.size w (w.alloc (.cells #[.string ⟨#[]⟩, .int .i64 0, .bool false] 24))) := ⟨Bk.new3 w (.string ⟨#[]⟩) (.int .i64 0) (.bool false) 24, ((Below.refl w.heap.size w)).alloc (Nat.le_refl _) _⟩
 go_enter Tryz.func7, Tryz.ntmps7
 go_upto_region 1 with fail
 generalize (w.alloc (.cells #[.string ⟨#[]⟩, .int .i64 0, .bool false] 24)) = w1 at *
 go_wp2_with fail
 all_goals first | (exfalso; omega) | skip
 refine (HE _).mono ?_
 rintro o2 w2 ⟨rfl, bb⟩
 have F1 : Hid (Bk w2 (w.heap.size) [.string ⟨#[]⟩, .int .i64 0, .bool false] ∧ Below w.heap.size w w2) := ⟨(F0.out.1).step bb, (F0.out.2).trans (bb.mono (F0.out.2).size)⟩
 clear F0
 clear bb
 have lt0_1 := (F1.out.1).lt
 have le1 := (F1.out.2).size
 have F2 : Hid (Bk (w2.alloc (.cells #[.string u, .int .i64 o, .bool false] 24)) (w.heap.size) [.string ⟨#[]⟩, .int .i64 0, .bool false] ∧ Bk (w2.alloc (.cells #[.string u, .int .i64 o, .bool false] 24)) (w2.heap.size) [.string u, .int .i64 o, .bool false] ∧ Below w.heap.size w (w2.alloc (.cells #[.string u, .int .i64 o, .bool false] 24))) := ⟨(F1.out.1).step ((Below.refl _ _).alloc (Nat.le_refl _) _), Bk.new3 w2 (.string u) (.int .i64 o) (.bool false) 24, (F1.out.2).alloc ((F1.out.2).size) _⟩
 clear F1
 go_upto_region 2 with fail
 generalize (w2.alloc (.cells #[.string u, .int .i64 o, .bool false] 24)) = w3 at *
 have l1_0 := F2.out.1.lt
 have a1_0_0 := F2.out.1.cell 0 _ rfl
 have f1_0_0 := F2.out.1.fz 0
 have a1_0_1 := F2.out.1.cell 1 _ rfl
 have f1_0_1 := F2.out.1.fz 1
 have a1_0_2 := F2.out.1.cell 2 _ rfl
 have f1_0_2 := F2.out.1.fz 2
 have l1_1 := F2.out.2.1.lt
 have a1_1_0 := F2.out.2.1.cell 0 _ rfl
 have f1_1_0 := F2.out.2.1.fz 0
 have a1_1_1 := F2.out.2.1.cell 1 _ rfl
 have f1_1_1 := F2.out.2.1.fz 1
 have a1_1_2 := F2.out.2.1.cell 2 _ rfl
 have f1_1_2 := F2.out.2.1.fz 2
 have ne1_0_1 : ¬ w.heap.size = w2.heap.size := by omega
 have ne1_1_0 : ¬ w2.heap.size = w.heap.size := by omega
 go_wp2
 refine bodyPost_ret (v := .tuple #[.agg #[.string ⟨#[]⟩, .int .i64 0, .bool false], .iface 57 (.int .i64 8)]) (by simp [results, Tryz.results7, go_sem, World.cell?_setCell_same, World.cell?_setCell_other, *]) rfl ⟨rfl, ?_⟩
 repeat (first | refine Below.setCell ?_ (by first | exact Nat.le_refl _ | (dsimp only; omega)) _ | refine Below.alloc ?_ (by first | exact Nat.le_refl _ | omega | (simp; omega)) _ | refine Below.drew ?_)
 exact F2.out.2.2
theorem fdg_high {b z n : Int} {u : ByteArray} {o : Int} (q1 : ¬ n < 1) (q2 : 1101 < n) (HE : ∀ W, Calls Tryz.prog 29 #[.int .u64 b, .int .i64 z] W fun e w' => e = .returned (.tuple #[.agg #[.string u, .int .i64 o, .bool false], .nilIface]) ∧ Below W.heap.size W w') (w : World) :
 Calls Tryz.prog 7 #[.int .u64 b, .int .i64 z, .int .i64 n] w fun x w' => x = .returned (.tuple #[.agg #[.string ⟨#[]⟩, .int .i64 0, .bool false], .iface 57 (.int .i64 8)]) ∧ Below w.heap.size w w' := by
 have F0 : Hid (Bk (w.alloc (.cells #[.string ⟨#[]⟩, .int .i64 0, .bool false] 24)) (w.heap.size) [.string ⟨#[]⟩, .int .i64 0, .bool false] ∧ Below w.heap.size w (w.alloc (.cells #[.string ⟨#[]⟩, .int .i64 0, .bool false] 24))) := ⟨Bk.new3 w (.string ⟨#[]⟩) (.int .i64 0) (.bool false) 24, ((Below.refl w.heap.size w)).alloc (Nat.le_refl _) _⟩
 go_enter Tryz.func7, Tryz.ntmps7
 go_upto_region 1 with fail
 generalize (w.alloc (.cells #[.string ⟨#[]⟩, .int .i64 0, .bool false] 24)) = w1 at *
 go_wp2_with fail
 all_goals first | (exfalso; omega) | skip
 refine (HE _).mono ?_
 rintro o2 w2 ⟨rfl, bb⟩
 have F1 : Hid (Bk w2 (w.heap.size) [.string ⟨#[]⟩, .int .i64 0, .bool false] ∧ Below w.heap.size w w2) := ⟨(F0.out.1).step bb, (F0.out.2).trans (bb.mono (F0.out.2).size)⟩
 clear F0
 clear bb
 have lt0_1 := (F1.out.1).lt
 have le1 := (F1.out.2).size
 have F2 : Hid (Bk (w2.alloc (.cells #[.string u, .int .i64 o, .bool false] 24)) (w.heap.size) [.string ⟨#[]⟩, .int .i64 0, .bool false] ∧ Bk (w2.alloc (.cells #[.string u, .int .i64 o, .bool false] 24)) (w2.heap.size) [.string u, .int .i64 o, .bool false] ∧ Below w.heap.size w (w2.alloc (.cells #[.string u, .int .i64 o, .bool false] 24))) := ⟨(F1.out.1).step ((Below.refl _ _).alloc (Nat.le_refl _) _), Bk.new3 w2 (.string u) (.int .i64 o) (.bool false) 24, (F1.out.2).alloc ((F1.out.2).size) _⟩
 clear F1
 go_upto_region 2 with fail
 generalize (w2.alloc (.cells #[.string u, .int .i64 o, .bool false] 24)) = w3 at *
 have l1_0 := F2.out.1.lt
 have a1_0_0 := F2.out.1.cell 0 _ rfl
 have f1_0_0 := F2.out.1.fz 0
 have a1_0_1 := F2.out.1.cell 1 _ rfl
 have f1_0_1 := F2.out.1.fz 1
 have a1_0_2 := F2.out.1.cell 2 _ rfl
 have f1_0_2 := F2.out.1.fz 2
 have l1_1 := F2.out.2.1.lt
 have a1_1_0 := F2.out.2.1.cell 0 _ rfl
 have f1_1_0 := F2.out.2.1.fz 0
 have a1_1_1 := F2.out.2.1.cell 1 _ rfl
 have f1_1_1 := F2.out.2.1.fz 1
 have a1_1_2 := F2.out.2.1.cell 2 _ rfl
 have f1_1_2 := F2.out.2.1.fz 2
 have ne1_0_1 : ¬ w.heap.size = w2.heap.size := by omega
 have ne1_1_0 : ¬ w2.heap.size = w.heap.size := by omega
 go_wp2
 refine bodyPost_ret (v := .tuple #[.agg #[.string ⟨#[]⟩, .int .i64 0, .bool false], .iface 57 (.int .i64 8)]) (by simp [results, Tryz.results7, go_sem, World.cell?_setCell_same, World.cell?_setCell_other, *]) rfl ⟨rfl, ?_⟩
 repeat (first | refine Below.setCell ?_ (by first | exact Nat.le_refl _ | (dsimp only; omega)) _ | refine Below.alloc ?_ (by first | exact Nat.le_refl _ | omega | (simp; omega)) _ | refine Below.drew ?_)
 exact F2.out.2.2
theorem fdg_ok {b z n : Int} {u v : ByteArray} {o k : Int} (q1 : ¬ n < 1) (q2 : ¬ 1101 < n) (HE : ∀ W, Calls Tryz.prog 29 #[.int .u64 b, .int .i64 z] W fun e w' => e = .returned (.tuple #[.agg #[.string u, .int .i64 o, .bool false], .nilIface]) ∧ Below W.heap.size W w') (HR : ∀ W, Calls Tryz.prog 30 #[.agg #[.string u, .int .i64 o, .bool false], .int .i64 n] W fun e w' => e = .returned (.agg #[.string v, .int .i64 k, .bool false]) ∧ Below W.heap.size W w') (w : World) :
 Calls Tryz.prog 7 #[.int .u64 b, .int .i64 z, .int .i64 n] w fun x w' => x = .returned (.tuple #[.agg #[.string v, .int .i64 k, .bool false], .nilIface]) ∧ Below w.heap.size w w' := by
 have F0 : Hid (Bk (w.alloc (.cells #[.string ⟨#[]⟩, .int .i64 0, .bool false] 24)) (w.heap.size) [.string ⟨#[]⟩, .int .i64 0, .bool false] ∧ Below w.heap.size w (w.alloc (.cells #[.string ⟨#[]⟩, .int .i64 0, .bool false] 24))) := ⟨Bk.new3 w (.string ⟨#[]⟩) (.int .i64 0) (.bool false) 24, ((Below.refl w.heap.size w)).alloc (Nat.le_refl _) _⟩
 go_enter Tryz.func7, Tryz.ntmps7
 go_upto_region 1 with fail
 generalize (w.alloc (.cells #[.string ⟨#[]⟩, .int .i64 0, .bool false] 24)) = w1 at *
 go_wp2_with fail
 all_goals first | (exfalso; omega) | skip
 refine (HE _).mono ?_
 rintro o2 w2 ⟨rfl, bb⟩
 have F1 : Hid (Bk w2 (w.heap.size) [.string ⟨#[]⟩, .int .i64 0, .bool false] ∧ Below w.heap.size w w2) := ⟨(F0.out.1).step bb, (F0.out.2).trans (bb.mono (F0.out.2).size)⟩
 clear F0
 clear bb
 have lt0_1 := (F1.out.1).lt
 have le1 := (F1.out.2).size
 have F2 : Hid (Bk (w2.alloc (.cells #[.string u, .int .i64 o, .bool false] 24)) (w.heap.size) [.string ⟨#[]⟩, .int .i64 0, .bool false] ∧ Bk (w2.alloc (.cells #[.string u, .int .i64 o, .bool false] 24)) (w2.heap.size) [.string u, .int .i64 o, .bool false] ∧ Below w.heap.size w (w2.alloc (.cells #[.string u, .int .i64 o, .bool false] 24))) := ⟨(F1.out.1).step ((Below.refl _ _).alloc (Nat.le_refl _) _), Bk.new3 w2 (.string u) (.int .i64 o) (.bool false) 24, (F1.out.2).alloc ((F1.out.2).size) _⟩
 clear F1
 go_upto_region 2 with fail
 generalize (w2.alloc (.cells #[.string u, .int .i64 o, .bool false] 24)) = w3 at *
 have l1_0 := F2.out.1.lt
 have a1_0_0 := F2.out.1.cell 0 _ rfl
 have f1_0_0 := F2.out.1.fz 0
 have a1_0_1 := F2.out.1.cell 1 _ rfl
 have f1_0_1 := F2.out.1.fz 1
 have a1_0_2 := F2.out.1.cell 2 _ rfl
 have f1_0_2 := F2.out.1.fz 2
 have l1_1 := F2.out.2.1.lt
 have a1_1_0 := F2.out.2.1.cell 0 _ rfl
 have f1_1_0 := F2.out.2.1.fz 0
 have a1_1_1 := F2.out.2.1.cell 1 _ rfl
 have f1_1_1 := F2.out.2.1.fz 1
 have a1_1_2 := F2.out.2.1.cell 2 _ rfl
 have f1_1_2 := F2.out.2.1.fz 2
 have ne1_0_1 : ¬ w.heap.size = w2.heap.size := by omega
 have ne1_1_0 : ¬ w2.heap.size = w.heap.size := by omega
 go_wp2_with fail
 all_goals first | (exfalso; omega) | skip
 refine (HR _).mono ?_
 rintro o4 w4 ⟨rfl, bb⟩
 have F3 : Hid (Bk w4 (w.heap.size) [.string ⟨#[]⟩, .int .i64 0, .bool false] ∧ Bk w4 (w2.heap.size) [.string u, .int .i64 o, .bool false] ∧ Below w.heap.size w w4) := ⟨(F2.out.1).step bb, (F2.out.2.1).step bb, (F2.out.2.2).trans (bb.mono (F2.out.2.2).size)⟩
 clear F2
 clear bb
 clear l1_0 a1_0_0 f1_0_0 a1_0_1 f1_0_1 a1_0_2 f1_0_2 l1_1 a1_1_0 f1_1_0 a1_1_1 f1_1_1 a1_1_2 f1_1_2
 have l2_0 := F3.out.1.lt
 have a2_0_0 := F3.out.1.cell 0 _ rfl
 have f2_0_0 := F3.out.1.fz 0
 have a2_0_1 := F3.out.1.cell 1 _ rfl
 have f2_0_1 := F3.out.1.fz 1
 have a2_0_2 := F3.out.1.cell 2 _ rfl
 have f2_0_2 := F3.out.1.fz 2
 have l2_1 := F3.out.2.1.lt
 have a2_1_0 := F3.out.2.1.cell 0 _ rfl
 have f2_1_0 := F3.out.2.1.fz 0
 have a2_1_1 := F3.out.2.1.cell 1 _ rfl
 have f2_1_1 := F3.out.2.1.fz 1
 have a2_1_2 := F3.out.2.1.cell 2 _ rfl
 have f2_1_2 := F3.out.2.1.fz 2
 have ne2_0_1 : ¬ w.heap.size = w2.heap.size := by omega
 have ne2_1_0 : ¬ w2.heap.size = w.heap.size := by omega
 go_wp2
 refine bodyPost_ret (v := .tuple #[.agg #[.string v, .int .i64 k, .bool false], .nilIface]) (by simp [results, Tryz.results7, go_sem, World.cell?_setCell_same, World.cell?_setCell_other, *]) rfl ⟨rfl, ?_⟩
 repeat (first | refine Below.setCell ?_ (by first | exact Nat.le_refl _ | (dsimp only; omega)) _ | refine Below.alloc ?_ (by first | exact Nat.le_refl _ | omega | (simp; omega)) _ | refine Below.drew ?_)
 exact F3.out.2.2
theorem fvp_err {b z m n : Int} (HE : ∀ W, Calls Tryz.prog 29 #[.int .u64 b, .int .i64 z] W fun e w' => e = .returned (.tuple #[.agg #[.string ⟨#[]⟩, .int .i64 0, .bool false], .iface 57 (.int .i64 m)]) ∧ Below W.heap.size W w') (w : World) :
 Calls Tryz.prog 32 #[.int .u64 b, .int .i64 z, .int .i64 n] w fun x w' => x = .returned (.tuple #[.agg #[.string ⟨#[]⟩, .int .i64 0, .bool false], .agg #[.string ⟨#[]⟩, .int .i64 0, .bool false], .iface 57 (.int .i64 m)]) ∧ Below w.heap.size w w' := by
 have F0 : Hid (Bk ((w.alloc (.cells #[.string ⟨#[]⟩, .int .i64 0, .bool false] 24)).alloc (.cells #[.string ⟨#[]⟩, .int .i64 0, .bool false] 24)) (w.heap.size) [.string ⟨#[]⟩, .int .i64 0, .bool false] ∧ Bk ((w.alloc (.cells #[.string ⟨#[]⟩, .int .i64 0, .bool false] 24)).alloc (.cells #[.string ⟨#[]⟩, .int .i64 0, .bool false] 24)) (w.heap.size + 1) [.string ⟨#[]⟩, .int .i64 0, .bool false] ∧ Below w.heap.size w ((w.alloc (.cells #[.string ⟨#[]⟩, .int .i64 0, .bool false] 24)).alloc (.cells #[.string ⟨#[]⟩, .int .i64 0, .bool false] 24))) := ⟨(Bk.new3 w (.string ⟨#[]⟩) (.int .i64 0) (.bool false) 24).step ((Below.refl _ _).alloc (Nat.le_refl _) _), ((by have q := Bk.new3 (w.alloc (.cells #[.string ⟨#[]⟩, .int .i64 0, .bool false] 24)) (.string ⟨#[]⟩) (.int .i64 0) (.bool false) 24; simpa using q) : Bk ((w.alloc (.cells #[.string ⟨#[]⟩, .int .i64 0, .bool false] 24)).alloc (.cells #[.string ⟨#[]⟩, .int .i64 0, .bool false] 24)) (w.heap.size + 1) [.string ⟨#[]⟩, .int .i64 0, .bool false]), (((Below.refl w.heap.size w)).alloc (Nat.le_refl _) _).alloc ((((Below.refl w.heap.size w)).alloc (Nat.le_refl _) _).size) _⟩
 go_enter Tryz.func32, Tryz.ntmps32
 go_upto_region 1 with fail
 generalize ((w.alloc (.cells #[.string ⟨#[]⟩, .int .i64 0, .bool false] 24)).alloc (.cells #[.string ⟨#[]⟩, .int .i64 0, .bool false] 24)) = w1 at *
 go_wp2_with fail
 all_goals first | (exfalso; omega) | skip
 refine (HE _).mono ?_
 rintro o2 w2 ⟨rfl, bb⟩
 have F1 : Hid (Bk w2 (w.heap.size) [.string ⟨#[]⟩, .int .i64 0, .bool false] ∧ Bk w2 (w.heap.size + 1) [.string ⟨#[]⟩, .int .i64 0, .bool false] ∧ Below w.heap.size w w2) := ⟨(F0.out.1).step bb, (F0.out.2.1).step bb, (F0.out.2.2).trans (bb.mono (F0.out.2.2).size)⟩
 clear F0
 clear bb
 have lt0_2 := (F1.out.1).lt
 have lt1_2 := (F1.out.2.1).lt
 have le2 := (F1.out.2.2).size
 have F2 : Hid (Bk (w2.alloc (.cells #[.string ⟨#[]⟩, .int .i64 0, .bool false] 24)) (w.heap.size) [.string ⟨#[]⟩, .int .i64 0, .bool false] ∧ Bk (w2.alloc (.cells #[.string ⟨#[]⟩, .int .i64 0, .bool false] 24)) (w.heap.size + 1) [.string ⟨#[]⟩, .int .i64 0, .bool false] ∧ Bk (w2.alloc (.cells #[.string ⟨#[]⟩, .int .i64 0, .bool false] 24)) (w2.heap.size) [.string ⟨#[]⟩, .int .i64 0, .bool false] ∧ Below w.heap.size w (w2.alloc (.cells #[.string ⟨#[]⟩, .int .i64 0, .bool false] 24))) := ⟨(F1.out.1).step ((Below.refl _ _).alloc (Nat.le_refl _) _), (F1.out.2.1).step ((Below.refl _ _).alloc (Nat.le_refl _) _), Bk.new3 w2 (.string ⟨#[]⟩) (.int .i64 0) (.bool false) 24, (F1.out.2.2).alloc ((F1.out.2.2).size) _⟩
 clear F1
 go_upto_region 2 with fail
 generalize (w2.alloc (.cells #[.string ⟨#[]⟩, .int .i64 0, .bool false] 24)) = w3 at *
 have l1_0 := F2.out.1.lt
 have a1_0_0 := F2.out.1.cell 0 _ rfl
 have f1_0_0 := F2.out.1.fz 0
 have a1_0_1 := F2.out.1.cell 1 _ rfl
 have f1_0_1 := F2.out.1.fz 1
 have a1_0_2 := F2.out.1.cell 2 _ rfl
 have f1_0_2 := F2.out.1.fz 2
 have l1_1 := F2.out.2.1.lt
 have a1_1_0 := F2.out.2.1.cell 0 _ rfl
 have f1_1_0 := F2.out.2.1.fz 0
 have a1_1_1 := F2.out.2.1.cell 1 _ rfl
 have f1_1_1 := F2.out.2.1.fz 1
 have a1_1_2 := F2.out.2.1.cell 2 _ rfl
 have f1_1_2 := F2.out.2.1.fz 2
 have l1_2 := F2.out.2.2.1.lt
 have a1_2_0 := F2.out.2.2.1.cell 0 _ rfl
 have f1_2_0 := F2.out.2.2.1.fz 0
 have a1_2_1 := F2.out.2.2.1.cell 1 _ rfl
 have f1_2_1 := F2.out.2.2.1.fz 1
 have a1_2_2 := F2.out.2.2.1.cell 2 _ rfl
 have f1_2_2 := F2.out.2.2.1.fz 2
 have ne1_0_1 : ¬ w.heap.size = w.heap.size + 1 := by omega
 have ne1_0_2 : ¬ w.heap.size = w2.heap.size := by omega
 have ne1_1_0 : ¬ w.heap.size + 1 = w.heap.size := by omega
 have ne1_1_2 : ¬ w.heap.size + 1 = w2.heap.size := by omega
 have ne1_2_0 : ¬ w2.heap.size = w.heap.size := by omega
 have ne1_2_1 : ¬ w2.heap.size = w.heap.size + 1 := by omega
 go_wp2
 refine bodyPost_ret (v := .tuple #[.agg #[.string ⟨#[]⟩, .int .i64 0, .bool false], .agg #[.string ⟨#[]⟩, .int .i64 0, .bool false], .iface 57 (.int .i64 m)]) (by simp [results, Tryz.results32, go_sem, World.cell?_setCell_same, World.cell?_setCell_other, *]) rfl ⟨rfl, ?_⟩
 repeat (first | refine Below.setCell ?_ (by first | exact Nat.le_refl _ | (dsimp only; omega)) _ | refine Below.alloc ?_ (by first | exact Nat.le_refl _ | omega | (simp; omega)) _ | refine Below.drew ?_)
 exact F2.out.2.2.2
theorem fvp_low {b z n : Int} {u : ByteArray} {o : Int} (q1 : n < 0) (HE : ∀ W, Calls Tryz.prog 29 #[.int .u64 b, .int .i64 z] W fun e w' => e = .returned (.tuple #[.agg #[.string u, .int .i64 o, .bool false], .nilIface]) ∧ Below W.heap.size W w') (w : World) :
 Calls Tryz.prog 32 #[.int .u64 b, .int .i64 z, .int .i64 n] w fun x w' => x = .returned (.tuple #[.agg #[.string ⟨#[]⟩, .int .i64 0, .bool false], .agg #[.string ⟨#[]⟩, .int .i64 0, .bool false], .iface 57 (.int .i64 8)]) ∧ Below w.heap.size w w' := by
 have F0 : Hid (Bk ((w.alloc (.cells #[.string ⟨#[]⟩, .int .i64 0, .bool false] 24)).alloc (.cells #[.string ⟨#[]⟩, .int .i64 0, .bool false] 24)) (w.heap.size) [.string ⟨#[]⟩, .int .i64 0, .bool false] ∧ Bk ((w.alloc (.cells #[.string ⟨#[]⟩, .int .i64 0, .bool false] 24)).alloc (.cells #[.string ⟨#[]⟩, .int .i64 0, .bool false] 24)) (w.heap.size + 1) [.string ⟨#[]⟩, .int .i64 0, .bool false] ∧ Below w.heap.size w ((w.alloc (.cells #[.string ⟨#[]⟩, .int .i64 0, .bool false] 24)).alloc (.cells #[.string ⟨#[]⟩, .int .i64 0, .bool false] 24))) := ⟨(Bk.new3 w (.string ⟨#[]⟩) (.int .i64 0) (.bool false) 24).step ((Below.refl _ _).alloc (Nat.le_refl _) _), ((by have q := Bk.new3 (w.alloc (.cells #[.string ⟨#[]⟩, .int .i64 0, .bool false] 24)) (.string ⟨#[]⟩) (.int .i64 0) (.bool false) 24; simpa using q) : Bk ((w.alloc (.cells #[.string ⟨#[]⟩, .int .i64 0, .bool false] 24)).alloc (.cells #[.string ⟨#[]⟩, .int .i64 0, .bool false] 24)) (w.heap.size + 1) [.string ⟨#[]⟩, .int .i64 0, .bool false]), (((Below.refl w.heap.size w)).alloc (Nat.le_refl _) _).alloc ((((Below.refl w.heap.size w)).alloc (Nat.le_refl _) _).size) _⟩
 go_enter Tryz.func32, Tryz.ntmps32
 go_upto_region 1 with fail
 generalize ((w.alloc (.cells #[.string ⟨#[]⟩, .int .i64 0, .bool false] 24)).alloc (.cells #[.string ⟨#[]⟩, .int .i64 0, .bool false] 24)) = w1 at *
 go_wp2_with fail
 all_goals first | (exfalso; omega) | skip
 refine (HE _).mono ?_
 rintro o2 w2 ⟨rfl, bb⟩
 have F1 : Hid (Bk w2 (w.heap.size) [.string ⟨#[]⟩, .int .i64 0, .bool false] ∧ Bk w2 (w.heap.size + 1) [.string ⟨#[]⟩, .int .i64 0, .bool false] ∧ Below w.heap.size w w2) := ⟨(F0.out.1).step bb, (F0.out.2.1).step bb, (F0.out.2.2).trans (bb.mono (F0.out.2.2).size)⟩
 clear F0
 clear bb
 have lt0_2 := (F1.out.1).lt
 have lt1_2 := (F1.out.2.1).lt
 have le2 := (F1.out.2.2).size
 have F2 : Hid (Bk (w2.alloc (.cells #[.string u, .int .i64 o, .bool false] 24)) (w.heap.size) [.string ⟨#[]⟩, .int .i64 0, .bool false] ∧ Bk (w2.alloc (.cells #[.string u, .int .i64 o, .bool false] 24)) (w.heap.size + 1) [.string ⟨#[]⟩, .int .i64 0, .bool false] ∧ Bk (w2.alloc (.cells #[.string u, .int .i64 o, .bool false] 24)) (w2.heap.size) [.string u, .int .i64 o, .bool false] ∧ Below w.heap.size w (w2.alloc (.cells #[.string u, .int .i64 o, .bool false] 24))) := ⟨(F1.out.1).step ((Below.refl _ _).alloc (Nat.le_refl _) _), (F1.out.2.1).step ((Below.refl _ _).alloc (Nat.le_refl _) _), Bk.new3 w2 (.string u) (.int .i64 o) (.bool false) 24, (F1.out.2.2).alloc ((F1.out.2.2).size) _⟩
 clear F1
 go_upto_region 2 with fail
 generalize (w2.alloc (.cells #[.string u, .int .i64 o, .bool false] 24)) = w3 at *
 have l1_0 := F2.out.1.lt
 have a1_0_0 := F2.out.1.cell 0 _ rfl
 have f1_0_0 := F2.out.1.fz 0
 have a1_0_1 := F2.out.1.cell 1 _ rfl
 have f1_0_1 := F2.out.1.fz 1
 have a1_0_2 := F2.out.1.cell 2 _ rfl
 have f1_0_2 := F2.out.1.fz 2
 have l1_1 := F2.out.2.1.lt
 have a1_1_0 := F2.out.2.1.cell 0 _ rfl
 have f1_1_0 := F2.out.2.1.fz 0
 have a1_1_1 := F2.out.2.1.cell 1 _ rfl
 have f1_1_1 := F2.out.2.1.fz 1
 have a1_1_2 := F2.out.2.1.cell 2 _ rfl
 have f1_1_2 := F2.out.2.1.fz 2
 have l1_2 := F2.out.2.2.1.lt
 have a1_2_0 := F2.out.2.2.1.cell 0 _ rfl
 have f1_2_0 := F2.out.2.2.1.fz 0
 have a1_2_1 := F2.out.2.2.1.cell 1 _ rfl
 have f1_2_1 := F2.out.2.2.1.fz 1
 have a1_2_2 := F2.out.2.2.1.cell 2 _ rfl
 have f1_2_2 := F2.out.2.2.1.fz 2
 have ne1_0_1 : ¬ w.heap.size = w.heap.size + 1 := by omega
 have ne1_0_2 : ¬ w.heap.size = w2.heap.size := by omega
 have ne1_1_0 : ¬ w.heap.size + 1 = w.heap.size := by omega
 have ne1_1_2 : ¬ w.heap.size + 1 = w2.heap.size := by omega
 have ne1_2_0 : ¬ w2.heap.size = w.heap.size := by omega
 have ne1_2_1 : ¬ w2.heap.size = w.heap.size + 1 := by omega
 go_wp2
 refine bodyPost_ret (v := .tuple #[.agg #[.string ⟨#[]⟩, .int .i64 0, .bool false], .agg #[.string ⟨#[]⟩, .int .i64 0, .bool false], .iface 57 (.int .i64 8)]) (by simp [results, Tryz.results32, go_sem, World.cell?_setCell_same, World.cell?_setCell_other, *]) rfl ⟨rfl, ?_⟩
 repeat (first | refine Below.setCell ?_ (by first | exact Nat.le_refl _ | (dsimp only; omega)) _ | refine Below.alloc ?_ (by first | exact Nat.le_refl _ | omega | (simp; omega)) _ | refine Below.drew ?_)
 exact F2.out.2.2.2
theorem fvp_high {b z n : Int} {u : ByteArray} {o : Int} (q1 : ¬ n < 0) (q2 : 1100 < n) (HE : ∀ W, Calls Tryz.prog 29 #[.int .u64 b, .int .i64 z] W fun e w' => e = .returned (.tuple #[.agg #[.string u, .int .i64 o, .bool false], .nilIface]) ∧ Below W.heap.size W w') (w : World) :
 Calls Tryz.prog 32 #[.int .u64 b, .int .i64 z, .int .i64 n] w fun x w' => x = .returned (.tuple #[.agg #[.string ⟨#[]⟩, .int .i64 0, .bool false], .agg #[.string ⟨#[]⟩, .int .i64 0, .bool false], .iface 57 (.int .i64 8)]) ∧ Below w.heap.size w w' := by
 have F0 : Hid (Bk ((w.alloc (.cells #[.string ⟨#[]⟩, .int .i64 0, .bool false] 24)).alloc (.cells #[.string ⟨#[]⟩, .int .i64 0, .bool false] 24)) (w.heap.size) [.string ⟨#[]⟩, .int .i64 0, .bool false] ∧ Bk ((w.alloc (.cells #[.string ⟨#[]⟩, .int .i64 0, .bool false] 24)).alloc (.cells #[.string ⟨#[]⟩, .int .i64 0, .bool false] 24)) (w.heap.size + 1) [.string ⟨#[]⟩, .int .i64 0, .bool false] ∧ Below w.heap.size w ((w.alloc (.cells #[.string ⟨#[]⟩, .int .i64 0, .bool false] 24)).alloc (.cells #[.string ⟨#[]⟩, .int .i64 0, .bool false] 24))) := ⟨(Bk.new3 w (.string ⟨#[]⟩) (.int .i64 0) (.bool false) 24).step ((Below.refl _ _).alloc (Nat.le_refl _) _), ((by have q := Bk.new3 (w.alloc (.cells #[.string ⟨#[]⟩, .int .i64 0, .bool false] 24)) (.string ⟨#[]⟩) (.int .i64 0) (.bool false) 24; simpa using q) : Bk ((w.alloc (.cells #[.string ⟨#[]⟩, .int .i64 0, .bool false] 24)).alloc (.cells #[.string ⟨#[]⟩, .int .i64 0, .bool false] 24)) (w.heap.size + 1) [.string ⟨#[]⟩, .int .i64 0, .bool false]), (((Below.refl w.heap.size w)).alloc (Nat.le_refl _) _).alloc ((((Below.refl w.heap.size w)).alloc (Nat.le_refl _) _).size) _⟩
 go_enter Tryz.func32, Tryz.ntmps32
 go_upto_region 1 with fail
 generalize ((w.alloc (.cells #[.string ⟨#[]⟩, .int .i64 0, .bool false] 24)).alloc (.cells #[.string ⟨#[]⟩, .int .i64 0, .bool false] 24)) = w1 at *
 go_wp2_with fail
 all_goals first | (exfalso; omega) | skip
 refine (HE _).mono ?_
 rintro o2 w2 ⟨rfl, bb⟩
 have F1 : Hid (Bk w2 (w.heap.size) [.string ⟨#[]⟩, .int .i64 0, .bool false] ∧ Bk w2 (w.heap.size + 1) [.string ⟨#[]⟩, .int .i64 0, .bool false] ∧ Below w.heap.size w w2) := ⟨(F0.out.1).step bb, (F0.out.2.1).step bb, (F0.out.2.2).trans (bb.mono (F0.out.2.2).size)⟩
 clear F0
 clear bb
 have lt0_2 := (F1.out.1).lt
 have lt1_2 := (F1.out.2.1).lt
 have le2 := (F1.out.2.2).size
 have F2 : Hid (Bk (w2.alloc (.cells #[.string u, .int .i64 o, .bool false] 24)) (w.heap.size) [.string ⟨#[]⟩, .int .i64 0, .bool false] ∧ Bk (w2.alloc (.cells #[.string u, .int .i64 o, .bool false] 24)) (w.heap.size + 1) [.string ⟨#[]⟩, .int .i64 0, .bool false] ∧ Bk (w2.alloc (.cells #[.string u, .int .i64 o, .bool false] 24)) (w2.heap.size) [.string u, .int .i64 o, .bool false] ∧ Below w.heap.size w (w2.alloc (.cells #[.string u, .int .i64 o, .bool false] 24))) := ⟨(F1.out.1).step ((Below.refl _ _).alloc (Nat.le_refl _) _), (F1.out.2.1).step ((Below.refl _ _).alloc (Nat.le_refl _) _), Bk.new3 w2 (.string u) (.int .i64 o) (.bool false) 24, (F1.out.2.2).alloc ((F1.out.2.2).size) _⟩
 clear F1
 go_upto_region 2 with fail
 generalize (w2.alloc (.cells #[.string u, .int .i64 o, .bool false] 24)) = w3 at *
 have l1_0 := F2.out.1.lt
 have a1_0_0 := F2.out.1.cell 0 _ rfl
 have f1_0_0 := F2.out.1.fz 0
 have a1_0_1 := F2.out.1.cell 1 _ rfl
 have f1_0_1 := F2.out.1.fz 1
 have a1_0_2 := F2.out.1.cell 2 _ rfl
 have f1_0_2 := F2.out.1.fz 2
 have l1_1 := F2.out.2.1.lt
 have a1_1_0 := F2.out.2.1.cell 0 _ rfl
 have f1_1_0 := F2.out.2.1.fz 0
 have a1_1_1 := F2.out.2.1.cell 1 _ rfl
 have f1_1_1 := F2.out.2.1.fz 1
 have a1_1_2 := F2.out.2.1.cell 2 _ rfl
 have f1_1_2 := F2.out.2.1.fz 2
 have l1_2 := F2.out.2.2.1.lt
 have a1_2_0 := F2.out.2.2.1.cell 0 _ rfl
 have f1_2_0 := F2.out.2.2.1.fz 0
 have a1_2_1 := F2.out.2.2.1.cell 1 _ rfl
 have f1_2_1 := F2.out.2.2.1.fz 1
 have a1_2_2 := F2.out.2.2.1.cell 2 _ rfl
 have f1_2_2 := F2.out.2.2.1.fz 2
 have ne1_0_1 : ¬ w.heap.size = w.heap.size + 1 := by omega
 have ne1_0_2 : ¬ w.heap.size = w2.heap.size := by omega
 have ne1_1_0 : ¬ w.heap.size + 1 = w.heap.size := by omega
 have ne1_1_2 : ¬ w.heap.size + 1 = w2.heap.size := by omega
 have ne1_2_0 : ¬ w2.heap.size = w.heap.size := by omega
 have ne1_2_1 : ¬ w2.heap.size = w.heap.size + 1 := by omega
 go_wp2
 refine bodyPost_ret (v := .tuple #[.agg #[.string ⟨#[]⟩, .int .i64 0, .bool false], .agg #[.string ⟨#[]⟩, .int .i64 0, .bool false], .iface 57 (.int .i64 8)]) (by simp [results, Tryz.results32, go_sem, World.cell?_setCell_same, World.cell?_setCell_other, *]) rfl ⟨rfl, ?_⟩
 repeat (first | refine Below.setCell ?_ (by first | exact Nat.le_refl _ | (dsimp only; omega)) _ | refine Below.alloc ?_ (by first | exact Nat.le_refl _ | omega | (simp; omega)) _ | refine Below.drew ?_)
 exact F2.out.2.2.2
theorem fvp_ok {b z n : Int} {u v : ByteArray} {o k : Int} (q1 : ¬ n < 0) (q2 : ¬ 1100 < n) (o0 : -2000 ≤ o) (o1 : o ≤ 2000) (HE : ∀ W, Calls Tryz.prog 29 #[.int .u64 b, .int .i64 z] W fun e w' => e = .returned (.tuple #[.agg #[.string u, .int .i64 o, .bool false], .nilIface]) ∧ Below W.heap.size W w') (HR : ∀ W, Calls Tryz.prog 30 #[.agg #[.string u, .int .i64 o, .bool false], .int .i64 (o + n)] W fun e w' => e = .returned (.agg #[.string v, .int .i64 k, .bool false]) ∧ Below W.heap.size W w') (w : World) :
 Calls Tryz.prog 32 #[.int .u64 b, .int .i64 z, .int .i64 n] w fun x w' => x = .returned (.tuple #[.agg #[.string u, .int .i64 o, .bool false], .agg #[.string v, .int .i64 k, .bool false], .nilIface]) ∧ Below w.heap.size w w' := by
 have F0 : Hid (Bk ((w.alloc (.cells #[.string ⟨#[]⟩, .int .i64 0, .bool false] 24)).alloc (.cells #[.string ⟨#[]⟩, .int .i64 0, .bool false] 24)) (w.heap.size) [.string ⟨#[]⟩, .int .i64 0, .bool false] ∧ Bk ((w.alloc (.cells #[.string ⟨#[]⟩, .int .i64 0, .bool false] 24)).alloc (.cells #[.string ⟨#[]⟩, .int .i64 0, .bool false] 24)) (w.heap.size + 1) [.string ⟨#[]⟩, .int .i64 0, .bool false] ∧ Below w.heap.size w ((w.alloc (.cells #[.string ⟨#[]⟩, .int .i64 0, .bool false] 24)).alloc (.cells #[.string ⟨#[]⟩, .int .i64 0, .bool false] 24))) := ⟨(Bk.new3 w (.string ⟨#[]⟩) (.int .i64 0) (.bool false) 24).step ((Below.refl _ _).alloc (Nat.le_refl _) _), ((by have q := Bk.new3 (w.alloc (.cells #[.string ⟨#[]⟩, .int .i64 0, .bool false] 24)) (.string ⟨#[]⟩) (.int .i64 0) (.bool false) 24; simpa using q) : Bk ((w.alloc (.cells #[.string ⟨#[]⟩, .int .i64 0, .bool false] 24)).alloc (.cells #[.string ⟨#[]⟩, .int .i64 0, .bool false] 24)) (w.heap.size + 1) [.string ⟨#[]⟩, .int .i64 0, .bool false]), (((Below.refl w.heap.size w)).alloc (Nat.le_refl _) _).alloc ((((Below.refl w.heap.size w)).alloc (Nat.le_refl _) _).size) _⟩
 go_enter Tryz.func32, Tryz.ntmps32
 go_upto_region 1 with fail
 generalize ((w.alloc (.cells #[.string ⟨#[]⟩, .int .i64 0, .bool false] 24)).alloc (.cells #[.string ⟨#[]⟩, .int .i64 0, .bool false] 24)) = w1 at *
 go_wp2_with fail
 all_goals first | (exfalso; omega) | skip
 refine (HE _).mono ?_
 rintro o2 w2 ⟨rfl, bb⟩
 have F1 : Hid (Bk w2 (w.heap.size) [.string ⟨#[]⟩, .int .i64 0, .bool false] ∧ Bk w2 (w.heap.size + 1) [.string ⟨#[]⟩, .int .i64 0, .bool false] ∧ Below w.heap.size w w2) := ⟨(F0.out.1).step bb, (F0.out.2.1).step bb, (F0.out.2.2).trans (bb.mono (F0.out.2.2).size)⟩
 clear F0
 clear bb
 have lt0_2 := (F1.out.1).lt
 have lt1_2 := (F1.out.2.1).lt
 have le2 := (F1.out.2.2).size
 have F2 : Hid (Bk (w2.alloc (.cells #[.string u, .int .i64 o, .bool false] 24)) (w.heap.size) [.string ⟨#[]⟩, .int .i64 0, .bool false] ∧ Bk (w2.alloc (.cells #[.string u, .int .i64 o, .bool false] 24)) (w.heap.size + 1) [.string ⟨#[]⟩, .int .i64 0, .bool false] ∧ Bk (w2.alloc (.cells #[.string u, .int .i64 o, .bool false] 24)) (w2.heap.size) [.string u, .int .i64 o, .bool false] ∧ Below w.heap.size w (w2.alloc (.cells #[.string u, .int .i64 o, .bool false] 24))) := ⟨(F1.out.1).step ((Below.refl _ _).alloc (Nat.le_refl _) _), (F1.out.2.1).step ((Below.refl _ _).alloc (Nat.le_refl _) _), Bk.new3 w2 (.string u) (.int .i64 o) (.bool false) 24, (F1.out.2.2).alloc ((F1.out.2.2).size) _⟩
 clear F1
 go_upto_region 2 with fail
 generalize (w2.alloc (.cells #[.string u, .int .i64 o, .bool false] 24)) = w3 at *
 have l1_0 := F2.out.1.lt
 have a1_0_0 := F2.out.1.cell 0 _ rfl
 have f1_0_0 := F2.out.1.fz 0
 have a1_0_1 := F2.out.1.cell 1 _ rfl
 have f1_0_1 := F2.out.1.fz 1
 have a1_0_2 := F2.out.1.cell 2 _ rfl
 have f1_0_2 := F2.out.1.fz 2
 have l1_1 := F2.out.2.1.lt
 have a1_1_0 := F2.out.2.1.cell 0 _ rfl
 have f1_1_0 := F2.out.2.1.fz 0
 have a1_1_1 := F2.out.2.1.cell 1 _ rfl
 have f1_1_1 := F2.out.2.1.fz 1
 have a1_1_2 := F2.out.2.1.cell 2 _ rfl
 have f1_1_2 := F2.out.2.1.fz 2
 have l1_2 := F2.out.2.2.1.lt
 have a1_2_0 := F2.out.2.2.1.cell 0 _ rfl
 have f1_2_0 := F2.out.2.2.1.fz 0
 have a1_2_1 := F2.out.2.2.1.cell 1 _ rfl
 have f1_2_1 := F2.out.2.2.1.fz 1
 have a1_2_2 := F2.out.2.2.1.cell 2 _ rfl
 have f1_2_2 := F2.out.2.2.1.fz 2
 have ne1_0_1 : ¬ w.heap.size = w.heap.size + 1 := by omega
 have ne1_0_2 : ¬ w.heap.size = w2.heap.size := by omega
 have ne1_1_0 : ¬ w.heap.size + 1 = w.heap.size := by omega
 have ne1_1_2 : ¬ w.heap.size + 1 = w2.heap.size := by omega
 have ne1_2_0 : ¬ w2.heap.size = w.heap.size := by omega
 have ne1_2_1 : ¬ w2.heap.size = w.heap.size + 1 := by omega
 have wk : IntKind.i64.wrap (o + n) = o + n := by rw [IntKind.wrap_i64]; omega
 go_upto_region 6 with fail
 go_region_held3 (fun w' => w'.cell? ⟨w2.heap.size, 0, none⟩ = some (.string u) ∧ w'.cell? ⟨w2.heap.size, 1, none⟩ = some (.int .i64 o) ∧ w'.cell? ⟨w2.heap.size, 2, none⟩ = some (.bool false)) (simp [*, go_sem]) (first | (go_at_call 30; refine (HR _).mono ?_; rintro px vx ⟨rfl, bb⟩; (have Ga : Hid (Bk vx (w.heap.size) [.string ⟨#[]⟩, .int .i64 0, .bool false] ∧ Bk vx (w.heap.size + 1) [.string ⟨#[]⟩, .int .i64 0, .bool false] ∧ Bk vx (w2.heap.size) [.string u, .int .i64 o, .bool false] ∧ Below w.heap.size w vx) := ⟨((F2.out.1).step (Below.refl _ _).drew).step bb, ((F2.out.2.1).step (Below.refl _ _).drew).step bb, ((F2.out.2.2.1).step (Below.refl _ _).drew).step bb, ((F2.out.2.2.2).drew).trans (bb.mono (F2.out.2.2.2).size)⟩; clear bb; have da_0 := (Ga.out.1).lt; have da_0_0 := (Ga.out.1).cell 0 _ rfl; have ea_0_0 := (Ga.out.1).fz 0; have da_0_1 := (Ga.out.1).cell 1 _ rfl; have ea_0_1 := (Ga.out.1).fz 1; have da_0_2 := (Ga.out.1).cell 2 _ rfl; have ea_0_2 := (Ga.out.1).fz 2; have da_1 := (Ga.out.2.1).lt; have da_1_0 := (Ga.out.2.1).cell 0 _ rfl; have ea_1_0 := (Ga.out.2.1).fz 0; have da_1_1 := (Ga.out.2.1).cell 1 _ rfl; have ea_1_1 := (Ga.out.2.1).fz 1; have da_1_2 := (Ga.out.2.1).cell 2 _ rfl; have ea_1_2 := (Ga.out.2.1).fz 2; have da_2 := (Ga.out.2.2.1).lt; have da_2_0 := (Ga.out.2.2.1).cell 0 _ rfl; have ea_2_0 := (Ga.out.2.2.1).fz 0; have da_2_1 := (Ga.out.2.2.1).cell 1 _ rfl; have ea_2_1 := (Ga.out.2.2.1).fz 1; have da_2_2 := (Ga.out.2.2.1).cell 2 _ rfl; have ea_2_2 := (Ga.out.2.2.1).fz 2)))
 all_goals
  go_wp2
  refine bodyPost_ret (v := .tuple #[.agg #[.string u, .int .i64 o, .bool false], .agg #[.string v, .int .i64 k, .bool false], .nilIface]) (by simp [results, Tryz.results32, go_sem, World.cell?_setCell_same, World.cell?_setCell_other, *]) rfl ⟨rfl, ?_⟩
  repeat (first | refine Below.setCell ?_ (by first | exact Nat.le_refl _ | (dsimp only; omega)) _ | refine Below.drew ?_)
  exact Ga.out.2.2.2
theorem fpl_any {b z n : Int} {u v : ByteArray} {o k : Int} {E : Value} (HV : ∀ W, Calls Tryz.prog 32 #[.int .u64 b, .int .i64 z, .int .i64 n] W fun e w' => e = .returned (.tuple #[.agg #[.string u, .int .i64 o, .bool false], .agg #[.string v, .int .i64 k, .bool false], E]) ∧ Below W.heap.size W w') (w : World) :
 Calls Tryz.prog 9 #[.int .u64 b, .int .i64 z, .int .i64 n] w fun x w' => x = .returned (.tuple #[.agg #[.string v, .int .i64 k, .bool false], E]) ∧ Below w.heap.size w w' := by
 have F0 : Hid (Bk (w.alloc (.cells #[.string ⟨#[]⟩, .int .i64 0, .bool false] 24)) (w.heap.size) [.string ⟨#[]⟩, .int .i64 0, .bool false] ∧ Below w.heap.size w (w.alloc (.cells #[.string ⟨#[]⟩, .int .i64 0, .bool false] 24))) := ⟨Bk.new3 w (.string ⟨#[]⟩) (.int .i64 0) (.bool false) 24, ((Below.refl w.heap.size w)).alloc (Nat.le_refl _) _⟩
 go_enter Tryz.func9, Tryz.ntmps9
 go_upto_region 1 with fail
 generalize (w.alloc (.cells #[.string ⟨#[]⟩, .int .i64 0, .bool false] 24)) = w1 at *
 go_wp2_with fail
 all_goals first | (exfalso; omega) | skip
 refine (HV _).mono ?_
 rintro o2 w2 ⟨rfl, bb⟩
 have F1 : Hid (Bk w2 (w.heap.size) [.string ⟨#[]⟩, .int .i64 0, .bool false] ∧ Below w.heap.size w w2) := ⟨(F0.out.1).step bb, (F0.out.2).trans (bb.mono (F0.out.2).size)⟩
 clear F0
 clear bb
 have lt0_1 := (F1.out.1).lt
 have le1 := (F1.out.2).size
 have F2 : Hid (Bk ((w2.alloc (.cells #[.string u, .int .i64 o, .bool false] 24)).alloc (.cells #[.string v, .int .i64 k, .bool false] 24)) (w.heap.size) [.string ⟨#[]⟩, .int .i64 0, .bool false] ∧ Bk ((w2.alloc (.cells #[.string u, .int .i64 o, .bool false] 24)).alloc (.cells #[.string v, .int .i64 k, .bool false] 24)) (w2.heap.size) [.string u, .int .i64 o, .bool false] ∧ Bk ((w2.alloc (.cells #[.string u, .int .i64 o, .bool false] 24)).alloc (.cells #[.string v, .int .i64 k, .bool false] 24)) (w2.heap.size + 1) [.string v, .int .i64 k, .bool false] ∧ Below w.heap.size w ((w2.alloc (.cells #[.string u, .int .i64 o, .bool false] 24)).alloc (.cells #[.string v, .int .i64 k, .bool false] 24))) := ⟨((F1.out.1).step ((Below.refl _ _).alloc (Nat.le_refl _) _)).step ((Below.refl _ _).alloc (Nat.le_refl _) _), (Bk.new3 w2 (.string u) (.int .i64 o) (.bool false) 24).step ((Below.refl _ _).alloc (Nat.le_refl _) _), ((by have q := Bk.new3 (w2.alloc (.cells #[.string u, .int .i64 o, .bool false] 24)) (.string v) (.int .i64 k) (.bool false) 24; simpa using q) : Bk ((w2.alloc (.cells #[.string u, .int .i64 o, .bool false] 24)).alloc (.cells #[.string v, .int .i64 k, .bool false] 24)) (w2.heap.size + 1) [.string v, .int .i64 k, .bool false]), ((F1.out.2).alloc ((F1.out.2).size) _).alloc (((F1.out.2).alloc ((F1.out.2).size) _).size) _⟩
 clear F1
 go_upto_region 2 with fail
 generalize ((w2.alloc (.cells #[.string u, .int .i64 o, .bool false] 24)).alloc (.cells #[.string v, .int .i64 k, .bool false] 24)) = w3 at *
 have l1_0 := F2.out.1.lt
 have a1_0_0 := F2.out.1.cell 0 _ rfl
 have f1_0_0 := F2.out.1.fz 0
 have a1_0_1 := F2.out.1.cell 1 _ rfl
 have f1_0_1 := F2.out.1.fz 1
 have a1_0_2 := F2.out.1.cell 2 _ rfl
 have f1_0_2 := F2.out.1.fz 2
 have l1_1 := F2.out.2.1.lt
 have a1_1_0 := F2.out.2.1.cell 0 _ rfl
 have f1_1_0 := F2.out.2.1.fz 0
 have a1_1_1 := F2.out.2.1.cell 1 _ rfl
 have f1_1_1 := F2.out.2.1.fz 1
 have a1_1_2 := F2.out.2.1.cell 2 _ rfl
 have f1_1_2 := F2.out.2.1.fz 2
 have l1_2 := F2.out.2.2.1.lt
 have a1_2_0 := F2.out.2.2.1.cell 0 _ rfl
 have f1_2_0 := F2.out.2.2.1.fz 0
 have a1_2_1 := F2.out.2.2.1.cell 1 _ rfl
 have f1_2_1 := F2.out.2.2.1.fz 1
 have a1_2_2 := F2.out.2.2.1.cell 2 _ rfl
 have f1_2_2 := F2.out.2.2.1.fz 2
 have ne1_0_1 : ¬ w.heap.size = w2.heap.size := by omega
 have ne1_0_2 : ¬ w.heap.size = w2.heap.size + 1 := by omega
 have ne1_1_0 : ¬ w2.heap.size = w.heap.size := by omega
 have ne1_1_2 : ¬ w2.heap.size = w2.heap.size + 1 := by omega
 have ne1_2_0 : ¬ w2.heap.size + 1 = w.heap.size := by omega
 have ne1_2_1 : ¬ w2.heap.size + 1 = w2.heap.size := by omega
 go_wp2
 refine bodyPost_ret (v := .tuple #[.agg #[.string v, .int .i64 k, .bool false], E]) (by simp [results, Tryz.results9, go_sem, World.cell?_setCell_same, World.cell?_setCell_other, *]) rfl ⟨rfl, ?_⟩
 repeat (first | refine Below.setCell ?_ (by first | exact Nat.le_refl _ | (dsimp only; omega)) _ | refine Below.alloc ?_ (by first | exact Nat.le_refl _ | omega | (simp; omega)) _ | refine Below.drew ?_)
 exact F2.out.2.2.2
theorem fxa_err {b z n m : Int} (HV : ∀ W, Calls Tryz.prog 32 #[.int .u64 b, .int .i64 z, .int .i64 n] W fun e w' => e = .returned (.tuple #[.agg #[.string ⟨#[]⟩, .int .i64 0, .bool false], .agg #[.string ⟨#[]⟩, .int .i64 0, .bool false], .iface 57 (.int .i64 m)]) ∧ Below W.heap.size W w') (w : World) :
 Calls Tryz.prog 15 #[.int .u64 b, .int .i64 z, .int .i64 n] w fun x w' => x = .returned (.tuple #[.bool false, .iface 57 (.int .i64 m)]) ∧ Below w.heap.size w w' := by
 have F0 : Hid (Below w.heap.size w w) := Below.refl _ _
 go_enter Tryz.func15, Tryz.ntmps15
 go_wp2_with fail
 all_goals first | (exfalso; omega) | skip
 refine (HV _).mono ?_
 rintro o1 w1 ⟨rfl, bb⟩
 have F1 : Hid (Below w.heap.size w w1) := (F0.out).trans (bb.mono (F0.out).size)
 clear F0
 clear bb
 have le0 := (F1.out).size
 have F2 : Hid (Bk ((w1.alloc (.cells #[.string ⟨#[]⟩, .int .i64 0, .bool false] 24)).alloc (.cells #[.string ⟨#[]⟩, .int .i64 0, .bool false] 24)) (w1.heap.size) [.string ⟨#[]⟩, .int .i64 0, .bool false] ∧ Bk ((w1.alloc (.cells #[.string ⟨#[]⟩, .int .i64 0, .bool false] 24)).alloc (.cells #[.string ⟨#[]⟩, .int .i64 0, .bool false] 24)) (w1.heap.size + 1) [.string ⟨#[]⟩, .int .i64 0, .bool false] ∧ Below w.heap.size w ((w1.alloc (.cells #[.string ⟨#[]⟩, .int .i64 0, .bool false] 24)).alloc (.cells #[.string ⟨#[]⟩, .int .i64 0, .bool false] 24))) := ⟨(Bk.new3 w1 (.string ⟨#[]⟩) (.int .i64 0) (.bool false) 24).step ((Below.refl _ _).alloc (Nat.le_refl _) _), ((by have q := Bk.new3 (w1.alloc (.cells #[.string ⟨#[]⟩, .int .i64 0, .bool false] 24)) (.string ⟨#[]⟩) (.int .i64 0) (.bool false) 24; simpa using q) : Bk ((w1.alloc (.cells #[.string ⟨#[]⟩, .int .i64 0, .bool false] 24)).alloc (.cells #[.string ⟨#[]⟩, .int .i64 0, .bool false] 24)) (w1.heap.size + 1) [.string ⟨#[]⟩, .int .i64 0, .bool false]), ((F1.out).alloc ((F1.out).size) _).alloc (((F1.out).alloc ((F1.out).size) _).size) _⟩
 clear F1
 go_upto_region 2 with fail
 generalize ((w1.alloc (.cells #[.string ⟨#[]⟩, .int .i64 0, .bool false] 24)).alloc (.cells #[.string ⟨#[]⟩, .int .i64 0, .bool false] 24)) = w2 at *
 have l1_0 := F2.out.1.lt
 have a1_0_0 := F2.out.1.cell 0 _ rfl
 have f1_0_0 := F2.out.1.fz 0
 have a1_0_1 := F2.out.1.cell 1 _ rfl
 have f1_0_1 := F2.out.1.fz 1
 have a1_0_2 := F2.out.1.cell 2 _ rfl
 have f1_0_2 := F2.out.1.fz 2
 have l1_1 := F2.out.2.1.lt
 have a1_1_0 := F2.out.2.1.cell 0 _ rfl
 have f1_1_0 := F2.out.2.1.fz 0
 have a1_1_1 := F2.out.2.1.cell 1 _ rfl
 have f1_1_1 := F2.out.2.1.fz 1
 have a1_1_2 := F2.out.2.1.cell 2 _ rfl
 have f1_1_2 := F2.out.2.1.fz 2
 have ne1_0_1 : ¬ w1.heap.size = w1.heap.size + 1 := by omega
 have ne1_1_0 : ¬ w1.heap.size + 1 = w1.heap.size := by omega
 go_wp2
 go_ret2
 exact ⟨rfl, F2.out.2.2⟩
theorem fxa_same {b z n : Int} {u : ByteArray} {o : Int} (HV : ∀ W, Calls Tryz.prog 32 #[.int .u64 b, .int .i64 z, .int .i64 n] W fun e w' => e = .returned (.tuple #[.agg #[.string u, .int .i64 o, .bool false], .agg #[.string u, .int .i64 o, .bool false], .nilIface]) ∧ Below W.heap.size W w') (w : World) :
 Calls Tryz.prog 15 #[.int .u64 b, .int .i64 z, .int .i64 n] w fun x w' => x = .returned (.tuple #[.bool true, .nilIface]) ∧ Below w.heap.size w w' := by
 have F0 : Hid (Below w.heap.size w w) := Below.refl _ _
 go_enter Tryz.func15, Tryz.ntmps15
 go_wp2_with fail
 all_goals first | (exfalso; omega) | skip
 refine (HV _).mono ?_
 rintro o1 w1 ⟨rfl, bb⟩
 have F1 : Hid (Below w.heap.size w w1) := (F0.out).trans (bb.mono (F0.out).size)
 clear F0
 clear bb
 have le0 := (F1.out).size
 have F2 : Hid (Bk ((w1.alloc (.cells #[.string u, .int .i64 o, .bool false] 24)).alloc (.cells #[.string u, .int .i64 o, .bool false] 24)) (w1.heap.size) [.string u, .int .i64 o, .bool false] ∧ Bk ((w1.alloc (.cells #[.string u, .int .i64 o, .bool false] 24)).alloc (.cells #[.string u, .int .i64 o, .bool false] 24)) (w1.heap.size + 1) [.string u, .int .i64 o, .bool false] ∧ Below w.heap.size w ((w1.alloc (.cells #[.string u, .int .i64 o, .bool false] 24)).alloc (.cells #[.string u, .int .i64 o, .bool false] 24))) := ⟨(Bk.new3 w1 (.string u) (.int .i64 o) (.bool false) 24).step ((Below.refl _ _).alloc (Nat.le_refl _) _), ((by have q := Bk.new3 (w1.alloc (.cells #[.string u, .int .i64 o, .bool false] 24)) (.string u) (.int .i64 o) (.bool false) 24; simpa using q) : Bk ((w1.alloc (.cells #[.string u, .int .i64 o, .bool false] 24)).alloc (.cells #[.string u, .int .i64 o, .bool false] 24)) (w1.heap.size + 1) [.string u, .int .i64 o, .bool false]), ((F1.out).alloc ((F1.out).size) _).alloc (((F1.out).alloc ((F1.out).size) _).size) _⟩
 clear F1
 go_upto_region 2 with fail
 generalize ((w1.alloc (.cells #[.string u, .int .i64 o, .bool false] 24)).alloc (.cells #[.string u, .int .i64 o, .bool false] 24)) = w2 at *
 have l1_0 := F2.out.1.lt
 have a1_0_0 := F2.out.1.cell 0 _ rfl
 have f1_0_0 := F2.out.1.fz 0
 have a1_0_1 := F2.out.1.cell 1 _ rfl
 have f1_0_1 := F2.out.1.fz 1
 have a1_0_2 := F2.out.1.cell 2 _ rfl
 have f1_0_2 := F2.out.1.fz 2
 have l1_1 := F2.out.2.1.lt
 have a1_1_0 := F2.out.2.1.cell 0 _ rfl
 have f1_1_0 := F2.out.2.1.fz 0
 have a1_1_1 := F2.out.2.1.cell 1 _ rfl
 have f1_1_1 := F2.out.2.1.fz 1
 have a1_1_2 := F2.out.2.1.cell 2 _ rfl
 have f1_1_2 := F2.out.2.1.fz 2
 have ne1_0_1 : ¬ w1.heap.size = w1.heap.size + 1 := by omega
 have ne1_1_0 : ¬ w1.heap.size + 1 = w1.heap.size := by omega
 go_wp2
 go_ret2
 exact ⟨rfl, F2.out.2.2⟩
theorem fxa_text {b z n : Int} {u v : ByteArray} {o k : Int} (h : (v.toList == u.toList) = false) (HV : ∀ W, Calls Tryz.prog 32 #[.int .u64 b, .int .i64 z, .int .i64 n] W fun e w' => e = .returned (.tuple #[.agg #[.string u, .int .i64 o, .bool false], .agg #[.string v, .int .i64 k, .bool false], .nilIface]) ∧ Below W.heap.size W w') (w : World) :
 Calls Tryz.prog 15 #[.int .u64 b, .int .i64 z, .int .i64 n] w fun x w' => x = .returned (.tuple #[.bool false, .nilIface]) ∧ Below w.heap.size w w' := by
 have F0 : Hid (Below w.heap.size w w) := Below.refl _ _
 go_enter Tryz.func15, Tryz.ntmps15
 go_wp2_with fail
 all_goals first | (exfalso; omega) | skip
 refine (HV _).mono ?_
 rintro o1 w1 ⟨rfl, bb⟩
 have F1 : Hid (Below w.heap.size w w1) := (F0.out).trans (bb.mono (F0.out).size)
 clear F0
 clear bb
 have le0 := (F1.out).size
 have F2 : Hid (Bk ((w1.alloc (.cells #[.string u, .int .i64 o, .bool false] 24)).alloc (.cells #[.string v, .int .i64 k, .bool false] 24)) (w1.heap.size) [.string u, .int .i64 o, .bool false] ∧ Bk ((w1.alloc (.cells #[.string u, .int .i64 o, .bool false] 24)).alloc (.cells #[.string v, .int .i64 k, .bool false] 24)) (w1.heap.size + 1) [.string v, .int .i64 k, .bool false] ∧ Below w.heap.size w ((w1.alloc (.cells #[.string u, .int .i64 o, .bool false] 24)).alloc (.cells #[.string v, .int .i64 k, .bool false] 24))) := ⟨(Bk.new3 w1 (.string u) (.int .i64 o) (.bool false) 24).step ((Below.refl _ _).alloc (Nat.le_refl _) _), ((by have q := Bk.new3 (w1.alloc (.cells #[.string u, .int .i64 o, .bool false] 24)) (.string v) (.int .i64 k) (.bool false) 24; simpa using q) : Bk ((w1.alloc (.cells #[.string u, .int .i64 o, .bool false] 24)).alloc (.cells #[.string v, .int .i64 k, .bool false] 24)) (w1.heap.size + 1) [.string v, .int .i64 k, .bool false]), ((F1.out).alloc ((F1.out).size) _).alloc (((F1.out).alloc ((F1.out).size) _).size) _⟩
 clear F1
 go_upto_region 2 with fail
 generalize ((w1.alloc (.cells #[.string u, .int .i64 o, .bool false] 24)).alloc (.cells #[.string v, .int .i64 k, .bool false] 24)) = w2 at *
 have l1_0 := F2.out.1.lt
 have a1_0_0 := F2.out.1.cell 0 _ rfl
 have f1_0_0 := F2.out.1.fz 0
 have a1_0_1 := F2.out.1.cell 1 _ rfl
 have f1_0_1 := F2.out.1.fz 1
 have a1_0_2 := F2.out.1.cell 2 _ rfl
 have f1_0_2 := F2.out.1.fz 2
 have l1_1 := F2.out.2.1.lt
 have a1_1_0 := F2.out.2.1.cell 0 _ rfl
 have f1_1_0 := F2.out.2.1.fz 0
 have a1_1_1 := F2.out.2.1.cell 1 _ rfl
 have f1_1_1 := F2.out.2.1.fz 1
 have a1_1_2 := F2.out.2.1.cell 2 _ rfl
 have f1_1_2 := F2.out.2.1.fz 2
 have ne1_0_1 : ¬ w1.heap.size = w1.heap.size + 1 := by omega
 have ne1_1_0 : ¬ w1.heap.size + 1 = w1.heap.size := by omega
 go_wp2
 go_ret2
 exact ⟨rfl, F2.out.2.2⟩
theorem fxa_pt {b z n : Int} {u : ByteArray} {o k : Int} (h : (k == o) = false) (HV : ∀ W, Calls Tryz.prog 32 #[.int .u64 b, .int .i64 z, .int .i64 n] W fun e w' => e = .returned (.tuple #[.agg #[.string u, .int .i64 o, .bool false], .agg #[.string u, .int .i64 k, .bool false], .nilIface]) ∧ Below W.heap.size W w') (w : World) :
 Calls Tryz.prog 15 #[.int .u64 b, .int .i64 z, .int .i64 n] w fun x w' => x = .returned (.tuple #[.bool false, .nilIface]) ∧ Below w.heap.size w w' := by
 have F0 : Hid (Below w.heap.size w w) := Below.refl _ _
 go_enter Tryz.func15, Tryz.ntmps15
 go_wp2_with fail
 all_goals first | (exfalso; omega) | skip
 refine (HV _).mono ?_
 rintro o1 w1 ⟨rfl, bb⟩
 have F1 : Hid (Below w.heap.size w w1) := (F0.out).trans (bb.mono (F0.out).size)
 clear F0
 clear bb
 have le0 := (F1.out).size
 have F2 : Hid (Bk ((w1.alloc (.cells #[.string u, .int .i64 o, .bool false] 24)).alloc (.cells #[.string u, .int .i64 k, .bool false] 24)) (w1.heap.size) [.string u, .int .i64 o, .bool false] ∧ Bk ((w1.alloc (.cells #[.string u, .int .i64 o, .bool false] 24)).alloc (.cells #[.string u, .int .i64 k, .bool false] 24)) (w1.heap.size + 1) [.string u, .int .i64 k, .bool false] ∧ Below w.heap.size w ((w1.alloc (.cells #[.string u, .int .i64 o, .bool false] 24)).alloc (.cells #[.string u, .int .i64 k, .bool false] 24))) := ⟨(Bk.new3 w1 (.string u) (.int .i64 o) (.bool false) 24).step ((Below.refl _ _).alloc (Nat.le_refl _) _), ((by have q := Bk.new3 (w1.alloc (.cells #[.string u, .int .i64 o, .bool false] 24)) (.string u) (.int .i64 k) (.bool false) 24; simpa using q) : Bk ((w1.alloc (.cells #[.string u, .int .i64 o, .bool false] 24)).alloc (.cells #[.string u, .int .i64 k, .bool false] 24)) (w1.heap.size + 1) [.string u, .int .i64 k, .bool false]), ((F1.out).alloc ((F1.out).size) _).alloc (((F1.out).alloc ((F1.out).size) _).size) _⟩
 clear F1
 go_upto_region 2 with fail
 generalize ((w1.alloc (.cells #[.string u, .int .i64 o, .bool false] 24)).alloc (.cells #[.string u, .int .i64 k, .bool false] 24)) = w2 at *
 have l1_0 := F2.out.1.lt
 have a1_0_0 := F2.out.1.cell 0 _ rfl
 have f1_0_0 := F2.out.1.fz 0
 have a1_0_1 := F2.out.1.cell 1 _ rfl
 have f1_0_1 := F2.out.1.fz 1
 have a1_0_2 := F2.out.1.cell 2 _ rfl
 have f1_0_2 := F2.out.1.fz 2
 have l1_1 := F2.out.2.1.lt
 have a1_1_0 := F2.out.2.1.cell 0 _ rfl
 have f1_1_0 := F2.out.2.1.fz 0
 have a1_1_1 := F2.out.2.1.cell 1 _ rfl
 have f1_1_1 := F2.out.2.1.fz 1
 have a1_1_2 := F2.out.2.1.cell 2 _ rfl
 have f1_1_2 := F2.out.2.1.fz 2
 have ne1_0_1 : ¬ w1.heap.size = w1.heap.size + 1 := by omega
 have ne1_1_0 : ¬ w1.heap.size + 1 = w1.heap.size := by omega
 go_wp2
 go_ret2
 exact ⟨rfl, F2.out.2.2⟩
theorem max3 {a b o q : Int} {E : Value} (h1 : a = max 0 o) (h2 : b = max 0 q) : Ending.returned (.tuple #[.int .i64 a, .int .i64 b, E]) = Ending.returned (.tuple #[.int .i64 (max 0 o), .int .i64 (max 0 q), E]) := by rw [h1, h2]
theorem fen_err {b z m : Int} (HE : ∀ W, Calls Tryz.prog 29 #[.int .u64 b, .int .i64 z] W fun e w' => e = .returned (.tuple #[.agg #[.string ⟨#[]⟩, .int .i64 0, .bool false], .iface 57 (.int .i64 m)]) ∧ Below W.heap.size W w') (w : World) :
 Calls Tryz.prog 13 #[.int .u64 b, .int .i64 z] w fun x w' => x = .returned (.tuple #[.int .i64 0, .int .i64 0, .iface 57 (.int .i64 m)]) ∧ Below w.heap.size w w' := by
 have F0 : Hid (Below w.heap.size w w) := Below.refl _ _
 go_enter Tryz.func13, Tryz.ntmps13
 go_wp2_with fail
 all_goals first | (exfalso; omega) | skip
 refine (HE _).mono ?_
 rintro o1 w1 ⟨rfl, bb⟩
 have F1 : Hid (Below w.heap.size w w1) := (F0.out).trans (bb.mono (F0.out).size)
 clear F0
 clear bb
 have le0 := (F1.out).size
 have F2 : Hid (Bk (w1.alloc (.cells #[.string ⟨#[]⟩, .int .i64 0, .bool false] 24)) (w1.heap.size) [.string ⟨#[]⟩, .int .i64 0, .bool false] ∧ Below w.heap.size w (w1.alloc (.cells #[.string ⟨#[]⟩, .int .i64 0, .bool false] 24))) := ⟨Bk.new3 w1 (.string ⟨#[]⟩) (.int .i64 0) (.bool false) 24, (F1.out).alloc ((F1.out).size) _⟩
 clear F1
 go_upto_region 2 with fail
 generalize (w1.alloc (.cells #[.string ⟨#[]⟩, .int .i64 0, .bool false] 24)) = w2 at *
 have l1_0 := F2.out.1.lt
 have a1_0_0 := F2.out.1.cell 0 _ rfl
 have f1_0_0 := F2.out.1.fz 0
 have a1_0_1 := F2.out.1.cell 1 _ rfl
 have f1_0_1 := F2.out.1.fz 1
 have a1_0_2 := F2.out.1.cell 2 _ rfl
 have f1_0_2 := F2.out.1.fz 2
 go_wp2
 go_ret3
 exact ⟨rfl, F2.out.2⟩
theorem fen_ok {b z : Int} {u : ByteArray} {o : Int} (u8 : u.size ≤ 800) (o0 : -2000 ≤ o) (o1 : o ≤ 2000) (HE : ∀ W, Calls Tryz.prog 29 #[.int .u64 b, .int .i64 z] W fun e w' => e = .returned (.tuple #[.agg #[.string u, .int .i64 o, .bool false], .nilIface]) ∧ Below W.heap.size W w') (w : World) :
 Calls Tryz.prog 13 #[.int .u64 b, .int .i64 z] w fun x w' => x = .returned (.tuple #[.int .i64 (max 0 o), .int .i64 (max 0 ((u.size : Int) - o)), .nilIface]) ∧ Below w.heap.size w w' := by
 have F0 : Hid (Below w.heap.size w w) := Below.refl _ _
 go_enter Tryz.func13, Tryz.ntmps13
 go_wp2_with fail
 all_goals first | (exfalso; omega) | skip
 refine (HE _).mono ?_
 rintro o1 w1 ⟨rfl, bb⟩
 have F1 : Hid (Below w.heap.size w w1) := (F0.out).trans (bb.mono (F0.out).size)
 clear F0
 clear bb
 have le0 := (F1.out).size
 have F2 : Hid (Bk (w1.alloc (.cells #[.string u, .int .i64 o, .bool false] 24)) (w1.heap.size) [.string u, .int .i64 o, .bool false] ∧ Below w.heap.size w (w1.alloc (.cells #[.string u, .int .i64 o, .bool false] 24))) := ⟨Bk.new3 w1 (.string u) (.int .i64 o) (.bool false) 24, (F1.out).alloc ((F1.out).size) _⟩
 clear F1
 go_upto_region 2 with fail
 generalize (w1.alloc (.cells #[.string u, .int .i64 o, .bool false] 24)) = w2 at *
 have l1_0 := F2.out.1.lt
 have a1_0_0 := F2.out.1.cell 0 _ rfl
 have f1_0_0 := F2.out.1.fz 0
 have a1_0_1 := F2.out.1.cell 1 _ rfl
 have f1_0_1 := F2.out.1.fz 1
 have a1_0_2 := F2.out.1.cell 2 _ rfl
 have f1_0_2 := F2.out.1.fz 2
 have wk : IntKind.i64.wrap ((u.size : Int) - o) = (u.size : Int) - o := by rw [IntKind.wrap_i64]; omega
 go_upto_region 4 with fail
 go_region_held3 (fun w' => w'.cell? ⟨w1.heap.size, 0, none⟩ = some (.string u) ∧ w'.cell? ⟨w1.heap.size, 1, none⟩ = some (.int .i64 o) ∧ w'.cell? ⟨w1.heap.size, 2, none⟩ = some (.bool false)) (simp [*, go_sem]) (fail)
 go_wp2
 all_goals
  go_ret3
  exact ⟨max3 (by omega) (by omega), (F2.out.2).drew⟩
structure BR (W : World) (g n : Nat) (F : Nat → Nat) : Prop where
 lt : g < W.heap.size
 row : BRow W g n F
theorem BR.set {W : World} {g n : Nat} {F : Nat → Nat} (h : BR W g n F) {i : Nat} (hi : i < n) (r : Nat) : BR (W.setCell ⟨g, i, none⟩ (.int .u8 (r : Int))) g n (putF F i r) :=
 ⟨by rw [World.size_setCell]; exact h.lt, h.row.set hi r⟩
theorem Bk.setC {W : World} {K : Nat} {l : List Value} (h : Bk W K l) {g : Nat} (hne : ¬ K = g) (i : Nat) (v : Value) : Bk (W.setCell ⟨g, i, none⟩ v) K l :=
 ⟨by rw [World.size_setCell]; exact h.lt, fun j x q => (World.cell?_setCell_other W ⟨g, i, none⟩ ⟨K, j, none⟩ v (by intro z; injection z with z _ _; exact hne z.symm)).trans (h.cell j x q), fun j => by rw [World.frozen?_setCell]; exact h.fz j⟩
theorem conv_row (U : World) (t : ByteArray) (hs : t.size ≤ 100000) : ∃ W1 C, (Go.convert 9 109 (.string t)).run Tryz.prog U = .ok (.slice (some ⟨U.heap.size, 0, none⟩) t.size C) W1 ∧ t.size ≤ C ∧ C ≤ maxLen ∧ Below U.heap.size U W1 ∧ BR W1 U.heap.size t.size (dgt t) := by
 have hL := Lib.run_convert_string_bytes (P := Tryz.prog) U 9 109 5 t und_str9b und_bytes48 und_u8b
 have bU : Below U.heap.size U (Lib.bytesWorld U 5 t) := ⟨rfl, rfl, rfl, by rw [Lib.bytesWorld_size]; omega, fun k hk => Lib.bytesWorld_at_old U 5 t k hk⟩
 refine ⟨Lib.bytesWorld U 5 t, grownCap U t.size 0 5, hL, grownCap_ge _ _ _ _, grownCap_le_maxLen _ _ _ _ (Nat.le_trans hs (by decide)), bU, ⟨by rw [Lib.bytesWorld_size]; omega, fun i hi => ?_, fun i hi => ?_⟩⟩
 · have q := Lib.bytesWorld_cell U 5 t i hi
   rw [getD_dgt hi] at q
   exact q
 · have q := Lib.bytesWorld_at_new U 5 t
   unfold World.frozen?
   rw [q]
   have z : ¬ (Lib.bytesCells U 5 t).size ≤ i := by
    unfold Lib.bytesCells
    simp
    omega
   simp [z]
theorem row_text {W : World} {g n C : Nat} {F : Nat → Nat} (h : BR W g n F) (hF : ∀ i, i < n → F i < 256) : ∃ u : ByteArray, u.size = n ∧ (∀ i, i < n → dgt u i = F i) ∧ ∀ W', (∀ i, i < n → W'.cell? ⟨g, i, none⟩ = W.cell? ⟨g, i, none⟩) → (Go.convert 109 9 (.slice (some ⟨g, 0, none⟩) n C)).run Tryz.prog W' = .ok (.string u) W' := by
 have hU := nums_dgt F n hF
 refine ⟨_, hU.1, hU.2, fun W' hW => ?_⟩
 refine run_convert_bytes_arg W' 109 5 und_bytes48 und_u8b g 0 n C _ (by simp) ?_ 9 und_str9b
 intro i hi
 have q := h.row.cell i hi
 rw [Nat.zero_add, hW i hi, q]
 simp [List.getD_eq_getElem?_getD, hi]
def zeroT (s : ByteArray) (i : Nat) : Nat := if i = 0 then 48 else dgt s (i - 1)
def incT (s : ByteArray) (k i : Nat) : Nat := if i < k then zeroT s i else if i = k then zeroT s k + 1 else 48
theorem dgt_zero_app {t s : ByteArray} {n : Nat} (h : t = ⟨#[48]⟩ ++ s.extract 0 n) (hn : n ≤ s.size) : t.size = n + 1 ∧ ∀ i, i < n + 1 → dgt t i = zeroT s i := by
 subst h
 have e := pre_size (s := s) (k := n) hn
 have e1 : (⟨#[48]⟩ : ByteArray).size = 1 := rfl
 have z : (⟨#[48]⟩ ++ s.extract 0 n : ByteArray).size = n + 1 := by rw [ByteArray.size_append, e, e1]; omega
 refine ⟨z, fun i hi => ?_⟩
 unfold zeroT
 by_cases c : i = 0
 · subst c
   rw [if_pos rfl, dgt_lt (by omega), ByteArray.getElem_append_left (by rw [e1]; omega)]
   rfl
 · rw [if_neg c, dgt_lt (by omega), ByteArray.getElem_append_right (by rw [e1]; omega)]
   rw [← pre_dgt (s := s) (k := n) hn (by omega), dgt_lt (by omega)]
   rfl
theorem Bk.fill3 {W : World} {K : Nat} {x y z : Value} (h : Bk W K [x, y, z]) (a b c : Value) : Bk (((W.setCell ⟨K, 0, none⟩ a).setCell ⟨K, 1, none⟩ b).setCell ⟨K, 2, none⟩ c) K [a, b, c] := by
 have c0 := h.cell 0 _ rfl
 have c1 := h.cell 1 _ rfl
 have c2 := h.cell 2 _ rfl
 have n01 : (⟨K, 1, none⟩ : Addr) ≠ ⟨K, 0, none⟩ := by intro q; injection q with _ q _; omega
 refine ⟨by rw [World.size_setCell, World.size_setCell, World.size_setCell]; exact h.lt, fun i v q => ?_, fun i => by rw [World.frozen?_setCell, World.frozen?_setCell, World.frozen?_setCell]; exact h.fz i⟩
 match i, q with
 | 0, q => cases q; simp [World.cell?_setCell_same, World.cell?_setCell_other, c0]
 | 1, q => cases q; simp [World.cell?_setCell_same, World.cell?_setCell_other, c1]
 | 2, q => cases q; simp [World.cell?_setCell_same, World.cell?_setCell_other, c2]
 | n + 3, q => simp at q
abbrev Dp := ByteArray × Int
theorem pwT_add (a b : Nat) : pwT (a + b) = pwT a * pwT b := Nat.pow_add 10 a b
theorem pwT_lt {a b : Nat} (h : pwT a < pwT b) : a < b := (Nat.pow_lt_pow_iff_right (by decide)).1 h
theorem rn_near {X S : Nat} (S0 : 0 < S) : (rnU X S ≤ X ∧ 2 * (X - rnU X S) ≤ S ∧ (2 * (X - rnU X S) = S → rnU X S / S % 2 = 0)) ∨ (X ≤ rnU X S ∧ 2 * (rnU X S - X) ≤ S ∧ (2 * (rnU X S - X) = S → rnU X S / S % 2 = 0)) := by
  have dm := @dn_mod X S
  have ml := Nat.mod_lt X S0
  have dq : dnU X S / S = X / S := by unfold dnU; exact Nat.mul_div_cancel _ S0
  cases r : rnB X S with
  | false =>
    have e : rnU X S = dnU X S := by unfold rnU; rw [r]; rfl
    have q : ¬ (S < 2 * (X % S) ∨ (2 * (X % S) = S ∧ X / S % 2 = 1)) := by
      have := r
      unfold rnB at this
      exact of_decide_eq_false this
    left
    rw [e, dq]
    refine ⟨by omega, by omega, fun h => ?_⟩
    have : 2 * (X % S) = S := by omega
    have : ¬ X / S % 2 = 1 := fun k => q (Or.inr ⟨this, k⟩)
    omega
  | true =>
    have e : rnU X S = upU X S := by unfold rnU; rw [r]; rfl
    have q : S < 2 * (X % S) ∨ (2 * (X % S) = S ∧ X / S % 2 = 1) := by
      have := r
      unfold rnB at this
      exact of_decide_eq_true this
    have m0 : 0 < X % S := by omega
    have u := up_is S0 m0
    have uq : upU X S / S = X / S + 1 := by
      rw [u, Nat.add_div_right _ S0, dq]
    right
    rw [e, uq]
    refine ⟨by omega, by omega, fun h => ?_⟩
    omega
theorem cross {E S T X Y p q x y : Nat} (hT : E * S = T) (T0 : 0 < T) (E0 : 0 < E) (q0 : 0 < q) (y0 : 0 < y) (h1 : p * T = X * q) (h2 : x * T = Y * y) (le : Y ≤ X) :
 E * 2 * x * q ≤ E * 2 * p * y ∧ (E * 2 * p * y - E * 2 * x * q < q * y ↔ 2 * (X - Y) < S) ∧ (E * 2 * p * y - E * 2 * x * q = q * y ↔ 2 * (X - Y) = S) := by
 have K0 : 0 < E * (q * y) := Nat.mul_pos E0 (Nat.mul_pos q0 y0)
 have a : E * 2 * p * y * T = E * (q * y) * (2 * X) := by
  rw [show E * 2 * p * y * T = E * 2 * (p * T) * y by ac_rfl, h1]
  ac_rfl
 have b : E * 2 * x * q * T = E * (q * y) * (2 * Y) := by
  rw [show E * 2 * x * q * T = E * 2 * (x * T) * q by ac_rfl, h2]
  ac_rfl
 have c : q * y * T = E * (q * y) * S := by
  rw [← hT]
  ac_rfl
 generalize E * (q * y) = K at *
 generalize E * 2 * p * y = u at *
 generalize E * 2 * x * q = v at *
 generalize q * y = w at *
 have d : (u - v) * T = K * (2 * (X - Y)) := by
  rw [Nat.sub_mul, a, b, ← Nat.mul_sub]
  congr 1
  omega
 refine ⟨?_, ?_, ?_⟩
 · apply Nat.le_of_mul_le_mul_right _ T0
   rw [a, b]
   exact Nat.mul_le_mul_left K (by omega)
 · rw [← Nat.mul_lt_mul_right T0, d, c]
   exact Nat.mul_lt_mul_left K0
 · rw [← Nat.mul_right_cancel_iff T0, d, c]
   exact Nat.mul_left_cancel_iff K0
theorem fx_ev (m : Nat) (e : Int) : fv m e = ev (-(R0 : Int)) m e * 5 ^ R0 := by
 unfold fv ev
 rw [show e - -(R0 : Int) = e + (R0 : Int) by omega]
theorem fx_ten (n : Nat) : n * 10 ^ R0 = ev (-(R0 : Int)) n 0 * 5 ^ R0 := by
 have q := fv_nat (m := n) (k := 0)
 rw [Nat.pow_zero, Nat.mul_one, fx_ev] at q
 exact q.symm
theorem frc_units {n d m : Nat} {x : Int} (h : Frc n d m x) (hx : -(R0 : Int) ≤ x) : n * 10 ^ R0 = fv m x * d ∧ 0 < d := by
 obtain ⟨k, rfl, _⟩ := h.2
 have q := h.1.at (-(R0 : Int)) (by omega) hx
 refine ⟨?_, Nat.two_pow_pos k⟩
 have key : ∀ a b c : Nat, b * a * c = a * c * b := by intros; ac_rfl
 rw [fx_ten, fx_ev, q]
 exact key _ _ _
theorem dvA_pv2 (s : ByteArray) : ∀ n, dvA s 0 n = pv s n
  | 0 => rfl
  | n + 1 => by
    show dvA s 0 n * 10 + (dgt s (0 + n) - 48) = 10 * pv s n + (dgt s n - 48)
    rw [dvA_pv2 s n, Nat.zero_add]
    omega
def fqN (s : ByteArray) (p : Int) : Nat := dvA s 0 s.size * 10 ^ (p - s.size).toNat
def fqD (s : ByteArray) (p : Int) : Nat := 10 ^ ((s.size : Int) - p).toNat
theorem dx_frac2 {s : ByteArray} {p : Int} {X : Nat} (h : Dx s p X) : fqN s p * 10 ^ R0 = X * fqD s p ∧ 0 < fqD s p := by
 have lo := h.lo
 refine ⟨?_, Nat.pow_pos (by decide)⟩
 unfold fqN fqD
 rw [dvA_pv2, ← h.vl, Nat.mul_assoc, Nat.mul_assoc, ← Nat.pow_add, ← Nat.pow_add]
 congr 2
 omega
theorem Fx.places {u : ByteArray} {o n : Int} {v : ByteArray} {k : Int} (h : Fx u o n v k) (h0 : 0 ≤ n - o) : (v.size : Int) - k ≤ n - o := by
 rcases h.way with ⟨_, rfl, rfl⟩ | ⟨rfl, _, _, rfl, rfl⟩ | ⟨rfl, _, _, rfl, rfl⟩ | ⟨N, s1, s2, p2, e, N0, u0, D, w⟩
 · show ((0 : Nat) : Int) - 0 ≤ _
   omega
 · show ((0 : Nat) : Int) - 0 ≤ _
   omega
 · show ((1 : Nat) : Int) - (o + 1) ≤ _
   omega
 · have q : ((s1.size : Int) - o ≤ n - o) ∧ ((s2.size : Int) - p2 ≤ n - o) := by
    rcases D.way with ⟨c, rfl, rfl, rfl⟩ | ⟨c, m, k, m0, m1, _, _, rfl, k1, _, K⟩
    · omega
    · refine ⟨by rw [pre_size (by omega)]; omega, ?_⟩
      rcases K with ⟨_, rfl, rfl⟩ | ⟨k0, _, rfl, rfl⟩
      · show ((1 : Nat) : Int) - (o + 1) ≤ _
        omega
      · rw [upS_size k0 (by omega)]
        omega
   rcases w with ⟨_, _, rfl, rfl⟩ | ⟨_, rfl, rfl⟩
   · exact q.2
   · exact q.1
theorem Fx.point {u : ByteArray} {o n : Int} {v : ByteArray} {k : Int} (h : Fx u o n v k) : k = 0 ∨ k = o ∨ k = o + 1 := by
 rcases h.way with ⟨_, _, rfl⟩ | ⟨_, _, _, _, rfl⟩ | ⟨_, _, _, _, rfl⟩ | ⟨N, s1, s2, p2, e, N0, u0, D, w⟩
 · exact Or.inl rfl
 · exact Or.inl rfl
 · exact Or.inr (Or.inr rfl)
 · have q : p2 = o ∨ p2 = o + 1 := by
    rcases D.way with ⟨_, _, _, e⟩ | ⟨_, m, k, _, _, _, _, _, _, _, ⟨_, _, e⟩ | ⟨_, _, _, e⟩⟩
    · exact Or.inl e
    · exact Or.inr e
    · exact Or.inl e
   rcases w with ⟨_, _, _, rfl⟩ | ⟨_, _, rfl⟩
   · exact Or.inr q
   · exact Or.inr (Or.inl rfl)
theorem last_even {v : ByteArray} {k : Int} {Y n : Nat} (D : Dx v k Y) (hn : n ≤ R0) (hp : (v.size : Int) - k ≤ (n : Int)) (he : Y / 10 ^ (R0 - n) % 2 = 0) {j : Nat} (hj : (j : Int) = k + (n : Int) - 1) (jl : j < v.size) : (dgt v j - 48) % 2 = 0 := by
 have lo := D.lo
 have e : j + 1 = v.size := by omega
 have S0 : 0 < 10 ^ (R0 - n) := Nat.pow_pos (by decide)
 have q : Y / 10 ^ (R0 - n) = pv v v.size := by
  rw [← D.vl, show (k + (R0 : Int) - (v.size : Int)).toNat = R0 - n by omega]
  exact Nat.mul_div_cancel _ S0
 rw [q, ← e] at he
 have s : pv v (j + 1) = 10 * pv v j + (dgt v j - 48) := rfl
 omega
theorem two_top : pw2 54 * pw2 971 < pwT 310 := by decide +kernel
theorem top_lt {m k : Nat} (hm : m ≤ pw2 54) (hk : k ≤ 971) : m * pw2 k < pwT 310 := Nat.lt_of_le_of_lt (Nat.mul_le_mul hm (pw2_mono hk)) two_top
theorem pwT_pos (n : Nat) : 0 < pwT n := Nat.pow_pos (by decide)
theorem close_a (m k j : Nat) : m * 5 ^ k * 10 ^ j ≤ m * 10 ^ (k + j) := by
 rw [Nat.mul_assoc, Nat.pow_add]
 exact Nat.mul_le_mul_left m (Nat.mul_le_mul_right _ (Nat.pow_le_pow_left (by decide) k))
theorem lt_scale {a b c : Nat} (h : a < b) (c0 : 0 < c) : a * c < b * c := Nat.mul_lt_mul_of_pos_right h c0
theorem dx_close {m : Nat} {e : Int} (hm : m ≤ 18014398509481984) (h1 : -1075 ≤ e) (h2 : e ≤ 971) {s : ByteArray} {p : Int} (D : Dx s p (fv m e)) (h0 : 0 < s.size) : p ≤ 310 := by
 obtain ⟨d0, d1, _⟩ := D.some h0
 have hm2 : m ≤ pw2 54 := hm
 obtain ⟨e8, h8⟩ : ∃ e8, e8 = 310 := ⟨_, rfl⟩
 have T : ∀ {m k : Nat}, m ≤ pw2 54 → k ≤ 971 → m * pw2 k < pwT e8 := by
  intro m k a b
  rw [h8]
  exact top_lt a b
 have a : fv m e < pwT e8 * pwT R0 := by
  rcases Int.lt_or_le e 0 with c | c
  · obtain ⟨k, rfl⟩ : ∃ k : Nat, e = -(k : Int) := ⟨(-e).toNat, by omega⟩
    have k0 : k ≤ R0 := by unfold R0; omega
    have y := T hm2 (Nat.zero_le 971)
    rw [show pw2 0 = 1 from rfl, Nat.mul_one] at y
    rw [fv_neg k0]
    have x := close_a m k (R0 - k)
    rw [show k + (R0 - k) = R0 by omega] at x
    exact Nat.lt_of_le_of_lt x (lt_scale y (pwT_pos R0))
  · obtain ⟨k, rfl⟩ : ∃ k : Nat, e = (k : Int) := ⟨e.toNat, by omega⟩
    rw [fv_nat]
    exact lt_scale (T hm2 (by omega)) (pwT_pos R0)
 rw [← pwT_add] at a
 have b : pwT (p + (R0 : Int) - 1).toNat < pwT (e8 + R0) := Nat.lt_of_le_of_lt d1 a
 have := pwT_lt b
 omega
structure DcB (W : World) (K : Nat) (a b c : Value) : Prop where
 lt : K < W.heap.size
 a0 : W.cell? ⟨K, 0, none⟩ = some a
 a1 : W.cell? ⟨K, 1, none⟩ = some b
 a2 : W.cell? ⟨K, 2, none⟩ = some c
 f0 : W.frozen? ⟨K, 0, none⟩ = false
 f1 : W.frozen? ⟨K, 1, none⟩ = false
 f2 : W.frozen? ⟨K, 2, none⟩ = false
theorem DcB.step {W W' : World} {K : Nat} {a b c : Value} (h : DcB W K a b c) (hb : Below W.heap.size W W') : DcB W' K a b c := by
 have k := fun o => hb.cell (p := ⟨K, o, none⟩) h.lt
 have j := fun o => hb.frozen (p := ⟨K, o, none⟩) h.lt
 exact ⟨Nat.lt_of_lt_of_le h.lt hb.size, (k 0).trans h.a0, (k 1).trans h.a1, (k 2).trans h.a2, (j 0).trans h.f0, (j 1).trans h.f1, (j 2).trans h.f2⟩
theorem DcB.new (W : World) (a b c : Value) (T : TypeId) : DcB (W.alloc (.cells #[a, b, c] T)) W.heap.size a b c :=
 ⟨by simp, by simp, by simp, by simp, World.frozen?_alloc_new _ _ _ _, World.frozen?_alloc_new _ _ _ _, World.frozen?_alloc_new _ _ _ _⟩
end Go.Proofs.YtohhmobfmmeohaaGreatDoor
