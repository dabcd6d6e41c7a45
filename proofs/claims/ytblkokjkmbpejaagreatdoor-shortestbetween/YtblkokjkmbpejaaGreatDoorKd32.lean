/-
  Holds: SoV.
-/
import Derived.Test.YtblkokjkmbpejaaGreatDoorRows
import Derived.Laws.Externs
import Derived.WalkKit
import Derived.WalkSpells
import Derived.WalkLawsBesides
import Derived.Lib.Mul64
import Derived.Stop.Asserts
import Derived.RowKitTokens
import Derived.Lib.Strings
import Derived.Lib.BufferWrite
import Derived.Deep.OwnRows
import Derived.Deep.RegionHeld3
import Derived.BigQuiet
import Derived.Lib.ConvBytes
import Derived.Laws.CopyOwn
import Derived.Lib.TrailingZeros
import Derived.Lib.ItoaNum
import Derived.Deep.LoopGhost
import Derived.Deep.AppendLies
import Derived.Deep.DeepCutAuto
import Derived.Test.YtblkokjkmbpejaaGreatDoorShelf
import Derived.Test.YtblkokjkmbpejaaGreatDoorKd29
import Derived.Test.YtblkokjkmbpejaaGreatDoorKd30
import Derived.Test.YtblkokjkmbpejaaGreatDoorKd31
set_option maxRecDepth 100000
set_option maxHeartbeats 4000000
namespace Go.Proofs.YtblkokjkmbpejaaGreatDoor
open Go.RowKit
theorem lowF_self (s : ByteArray) (p : Int) : lowF s p s p = 0 := by
 have := lowF_flip s p s p
 omega
theorem incT_pad {s : ByteArray} (hs : s.size ≤ 800) (k i : Nat) : incT (padB s) k i = incT s k i := by
 have e := (padB_is hs).2
 unfold incT zeroT
 rw [e, e]
def aS (s : ByteArray) (p : Int) (n : Nat) : Dp := if s.size ≤ n ∧ kN s n = 0 ∧ p = 1099511627776 then (⟨#[49]⟩, 1099511627777) else nS s p n
theorem raf_is {s : ByteArray} {p : Int} (g : VN s p false) {n : Nat} (hs : s.size ≤ n) (hn : n ≤ 800) (w : World) :
 Calls Tryz.prog 35 #[dcV s p false, .int .i64 (n : Int)] w fun x w' => x = .returned (dcV (aS s p n).1 (aS s p n).2 false) ∧ Below w.heap.size w w' := by
 obtain ⟨k1, k2, k3⟩ := kN_is s n
 obtain ⟨z, e⟩ := padB_is g.len
 have nf := vn_nf g
 have M := fun (v : ByteArray) (vs : v.size = n + 1) (hv : ∀ i, i < n + 1 → dgt v i = incT s (kN s n) i) W => inc_make (s := padB s) (p := p) (padB_dg g.dg g.len) (by rw [e]; exact nf.first) g.lo g.hi (n := n) (k := kN s n) (by have := g.pos; omega) hn k1 (by omega) (fun h => by rw [e]; exact k3 h) vs (fun i hi => by rw [hv i hi, incT_pad g.len]) W
 unfold aS
 by_cases c : kN s n = 0 ∧ p = 1099511627776
 · rw [if_pos ⟨hs, c⟩]
   have ek : nxK p (kN s n) = 4 := by unfold nxK; rw [if_pos c]
   rw [ek] at M
   exact raf_big hs hn g.dg g.lo g.hi k1 k2 k3 M w
 · rw [if_neg (fun h => c h.2)]
   have ek : nxK p (kN s n) = 0 := by unfold nxK; rw [if_neg c]
   rw [ek] at M
   exact raf_ok hs hn g.dg g.lo g.hi k1 k2 k3 M w
theorem big_no : ¬ VD ⟨#[49]⟩ 1099511627777 false := by
 rintro (⟨a, _⟩ | g)
 · exact absurd a (by decide)
 · have := g.hi; omega
def kS (s : ByteArray) (p : Int) (t : ByteArray) (q : Int) (n : Nat) : Int := if s.size ≤ n ∧ kN s n = 0 ∧ p = 1099511627776 then 0 else lowF (nS s p n).1 (nS s p n).2 t q
def eS (s : ByteArray) (p : Int) (n : Nat) : Int := if s.size ≤ n ∧ kN s n = 0 ∧ p = 1099511627776 then 1 else 0
theorem aS_cmp {s t : ByteArray} {p q : Int} (g : VN s p false) (ht : VD t q false) {n : Nat} (hn : n ≤ 800) (w : World) :
 Calls Tryz.prog 23 #[dcV (aS s p n).1 (aS s p n).2 false, dcV t q false] w fun x w' => x = .returned (.tuple #[.int .i64 (kS s p t q n), .int .i64 (eS s p n)]) ∧ Below w.heap.size w w' := by
 unfold aS kS eS
 by_cases c : s.size ≤ n ∧ kN s n = 0 ∧ p = 1099511627776
 · rw [if_pos c, if_pos c, if_pos c]
   exact rcmp_bad1 (by decide) big_no w
 · rw [if_neg c, if_neg c, if_neg c]
   exact rcmp_is (nS_vd g hn) ht w
theorem inB_one (c : Bool) (h : Int) : inB c 1 h = if c then decide (h ≤ 0) else decide (h < 0) := by
 unfold inB
 cases c
 · rw [if_neg (by decide), if_neg (by decide), decide_eq_true (show (0 : Int) < 1 by decide), Bool.true_and]
 · rw [if_pos rfl, if_pos rfl, decide_eq_true (show (0 : Int) ≤ 1 by decide), Bool.true_and]
theorem fS_stS {s t : ByteArray} {p q : Int} (g : VN s p false) (lt : lowF s p t q < 0) (c : Bool) {n : Nat} (hn : n ≤ 800) : fS c s p t q n = stS c s p (aS s p n) (kS s p t q n) n := by
  unfold fS
  by_cases a : c = true ∧ s.size ≤ n
  · rw [stS_self a]
    have e : gS c s p n = (s, p) := by unfold gS; rw [if_pos a]
    rw [e]
    have e2 : hdB c s p t q (s, p) = true := by
      unfold hdB inB
      show (if c then _ else _) = true
      rw [if_pos a.1]
      show (decide (0 ≤ lowF s p s p) && decide (lowF s p t q ≤ 0)) = true
      rw [lowF_self, decide_eq_true (by omega), decide_eq_true (by omega)]
      rfl
    rw [if_pos e2]
  · have e : gS c s p n = nS s p n := by unfold gS; rw [if_neg a]
    rw [e]
    have h3 := lowF_in (nS s p n).1 (nS s p n).2 t q
    by_cases ok : kN s n = 0 ∧ p = 1099511627776
    · have en : nS s p n = (⟨#[]⟩, 0) := by
        unfold nS nxD
        rw [if_pos ok.1, if_pos ok.2]
      have e2 : hdB c s p t q (nS s p n) = false := by
        rw [en]
        unfold hdB inB
        have : lowF (⟨#[]⟩ : ByteArray) 0 s p = -1 := lowF_left _ _ rfl (by have := g.pos; omega)
        show (if c then decide (0 ≤ lowF (⟨#[]⟩ : ByteArray) 0 s p) && _ else decide (0 < lowF (⟨#[]⟩ : ByteArray) 0 s p) && _) = false
        rw [this]
        cases c <;> rfl
      rw [e2, if_neg Bool.false_ne_true]
      refine (stS_none a ?_).symm
      unfold aS
      by_cases b : s.size ≤ n
      · rw [if_pos ⟨b, ok⟩]
        intro h
        have := h.2.1
        dsimp only at this
        omega
      · rw [if_neg (fun h => b h.1), en]
        intro h
        exact absurd h.1 (by decide)
    · have ha := nS_above g hn (show okN s p n from ok)
      have eA : aS s p n = nS s p n := by unfold aS; rw [if_neg (fun h => ok h.2)]
      have eK : kS s p t q n = lowF (nS s p n).1 (nS s p n).2 t q := by unfold kS; rw [if_neg (fun h => ok h.2)]
      have hp : (nS s p n).2 ≤ 1099511627776 := by
        rcases nS_vd g hn with ⟨_, z, _⟩ | v
        · omega
        · exact v.hi
      have e2 : hdB c s p t q (nS s p n) = if c then decide (lowF (nS s p n).1 (nS s p n).2 t q ≤ 0) else decide (lowF (nS s p n).1 (nS s p n).2 t q < 0) := by
        unfold hdB
        rw [ha.2]
        exact inB_one c _
      rw [eA, eK, e2]
      generalize lowF (nS s p n).1 (nS s p n).2 t q = x at *
      cases c with
      | true =>
        rw [if_pos rfl]
        by_cases y : x ≤ 0
        · rw [if_pos (decide_eq_true y), stS_some a ⟨ha.1, hp, by by_cases u : x < 0; exact Or.inl u; exact Or.inr ⟨by omega, rfl⟩⟩]
        · rw [if_neg (by rw [decide_eq_false y]; decide), stS_none a (fun h => by have := h.2.2; omega)]
      | false =>
        rw [if_neg Bool.false_ne_true]
        by_cases y : x < 0
        · rw [if_pos (decide_eq_true y), stS_some a ⟨ha.1, hp, Or.inl y⟩]
        · rw [if_neg (by rw [decide_eq_false y]; decide), stS_none a (fun h => by rcases h.2.2 with b | ⟨_, b⟩; exact y b; cases b)]
theorem rrd_some {s : ByteArray} {p : Int} (g : VN s p false) {n : Nat} (n0 : 1 ≤ n) : ∃ d r : Dp, (n < s.size → r = aS s p n) ∧ ∀ W, Calls Tryz.prog 34 #[dcV s p false, .int .i64 (n : Int)] W fun x w' => x = .returned (.tuple #[dcV d.1 d.2 false, dcV r.1 r.2 false]) ∧ Below W.heap.size W w' := by
 rcases Nat.lt_or_ge n s.size with c | c
 · obtain ⟨k1, k2, k3⟩ := kN_is s n
   obtain ⟨m, m1, m2, m3⟩ := zeros_at s n
   have nf := vn_nf g
   have m0 : 0 < m := by
    rcases Nat.eq_zero_or_pos m with z | z
    · exact absurd (m2 0 (by omega) (by omega)) nf.first
    · exact z
   refine ⟨(s.extract 0 m, p), nxD s p (kN s n), fun _ => ?_, fun W => rrd_gen g c (by omega) m0 m1 m2 (m3 m0) k1 k2 k3 W⟩
   unfold aS
   rw [if_neg (fun h => absurd h.1 (by omega))]
   unfold nS nxD
   by_cases z : kN s n = 0
   · rw [if_pos z, if_pos z]
   · rw [if_neg z, if_neg z, upS_pad g.dg g.len (by omega) (by omega) (padB_dg g.dg g.len)]
 · exact ⟨(s, p), (s, p), fun h => by omega, fun W => rrd_none g c W⟩
theorem rse_is {s t : ByteArray} {p q : Int} (g : VN s p false) (ht : VD t q false) (lt : lowF s p t q < 0) (c : Bool) (w : World) :
 Calls Tryz.prog 17 #[dcV s p false, dcV t q false, .bool c] w fun x w' => x = .returned (ansD (firstF (fS c s p t q) 1 800)) ∧ Below w.heap.size w w' := by
 have X : ∀ n, ∃ d : Dp × Dp, 1 ≤ n → (n < s.size → d.2 = aS s p n) ∧ ∀ W, Calls Tryz.prog 34 #[dcV s p false, .int .i64 (n : Int)] W fun x w' => x = .returned (.tuple #[dcV d.1.1 d.1.2 false, dcV d.2.1 d.2.2 false]) ∧ Below W.heap.size W w' := by
  intro n
  by_cases n0 : 1 ≤ n
  · obtain ⟨d, r, a, b⟩ := rrd_some g n0
    exact ⟨(d, r), fun _ => ⟨a, b⟩⟩
  · exact ⟨((s, p), (s, p)), fun h => absurd h n0⟩
 obtain ⟨D, hD⟩ := Classical.axiomOfChoice X
 exact rse_loop (dd := fun n => (D n).1) (ru := fun n => (D n).2) (U := aS s p) (kk := kS s p t q) (ee := eS s p) g.pos (by omega) (fun W => rvald_yes (Or.inr g) W) (fun W => rvald_yes ht W) (fun W => rcmp_is (Or.inr g) ht W)
  (fun n a _ W => (hD n a).2 W) (fun n a b => (hD n a).1 b) (fun n a b W => raf_is g a b W) (fun n _ b W => aS_cmp g ht b W) (fun n _ b => fS_stS g lt c b) w
theorem least_zero {t : ByteArray} {q : Int} (ht : VD t q false) (lt : lowF ⟨#[]⟩ 0 t q < 0) (w : World) :
 Calls Tryz.prog 33 #[.agg #[.string ⟨#[]⟩, .int .i64 0, .bool false, .string t, .int .i64 q, .bool false, .bool true]] w fun x w' => x = .returned (.tuple #[dcV ⟨#[]⟩ 0 false, .bool true]) ∧ Below w.heap.size w w' := by
 have z : VD ⟨#[]⟩ 0 false := Or.inl ⟨rfl, rfl, rfl⟩
 have r := sle_t z ht (g := fun _ => (⟨#[]⟩, 0)) (E := fun _ => .nilIface) (fun n _ _ => z) (fun n a b W => dup_off (⟨z, by omega, by omega, fun y => by cases y⟩) (by unfold onB; rw [Bool.false_or]; exact decide_eq_false (by show ¬ (n : Int) < 0; omega)) (fun W => below_self z (n := n) b (Nat.zero_le _) W) W) w
 have e : seekF (hdB true ⟨#[]⟩ 0 t q) (fun _ => [((⟨#[]⟩, 0) : Dp)]) 1 800 = some (⟨#[]⟩, 0) := by
  have h : hdB true ⟨#[]⟩ 0 t q (⟨#[]⟩, 0) = true := by
   unfold hdB inB
   show (if true then decide (0 ≤ lowF (⟨#[]⟩ : ByteArray) 0 ⟨#[]⟩ 0) && decide (lowF (⟨#[]⟩ : ByteArray) 0 t q ≤ 0) else _) = true
   rw [if_pos rfl, lowF_self, decide_eq_true (by omega), decide_eq_true (by omega)]
   rfl
  show seekF _ _ 1 (799 + 1) = _
  unfold seekF
  rw [List.find?_cons, h]
 rw [e] at r
 exact r
theorem between_all {s t : ByteArray} {p q : Int} {c1 c2 c : Bool} (hs : s.size ≤ 9223372036854775807) (ht : t.size ≤ 9223372036854775807) : ∃ (d : Dp) (E : Value) (n : Int),
    (∀ W, Calls Tryz.prog 16 #[dcV s p c1, dcV t q c2, .bool c] W fun x w' => x = .returned (.tuple #[dcV d.1 d.2 false, E]) ∧ Below W.heap.size W w') ∧
    (∀ W, Calls Tryz.prog 17 #[dcV s p c1, dcV t q c2, .bool c] W fun x w' => x = .returned (.tuple #[dcV d.1 d.2 false, .int .i64 n]) ∧ Below W.heap.size W w') ∧
    ((E = .nilIface ∧ n = 0) ∨ E = .iface 69 (.int .i64 n)) := by
  by_cases v1 : VD s p c1
  · by_cases v2 : VD t q c2
    · obtain ⟨r, C1, C2⟩ := cmp_same v1 v2
      have A1 := fun W => rvald_yes v1 W
      have A2 := fun W => rvald_yes v2 W
      cases c1 with
      | true => exact ⟨(⟨#[]⟩, 0), _, 1, fun W => ssi_cut1 C1 W, fun W => rse_cut1 rfl A1 A2 W, Or.inr rfl⟩
      | false =>
        cases c2 with
        | true => exact ⟨(⟨#[]⟩, 0), _, 1, fun W => ssi_cut2 C1 W, fun W => rse_cut2 rfl rfl A1 A2 W, Or.inr rfl⟩
        | false =>
          replace C1 := fun W => cmp_ff v1 v2 W
          replace C2 := fun W => rcmp_is v1 v2 W
          by_cases o : 0 ≤ lowF s p t q
          · exact ⟨(⟨#[]⟩, 0), _, 1, fun W => ssi_ord o C1 W, fun W => rse_ord o A1 A2 C2 W, Or.inr rfl⟩
          · rcases v1 with ⟨z1, z2, _⟩ | g
            · have e : s = ⟨#[]⟩ := ByteArray.ext (Array.eq_empty_of_size_eq_zero z1)
              subst e
              subst z2
              cases c with
              | false => exact ⟨(⟨#[]⟩, 0), _, 1, fun W => ssi_open o C1 W, fun W => rse_open0 o A1 A2 C2 W, Or.inr rfl⟩
              | true => exact ⟨(⟨#[]⟩, 0), _, 0, fun W => ssi_zero o C1 (fun W => least_zero v2 (by omega) W) W, fun W => rse_zero o A1 A2 C2 W, Or.inl ⟨rfl, rfl⟩⟩
            · have B1 := fun W => ssi_is g v2 (by omega) c W
              have B2 := fun W => rse_is g v2 (by omega) c W
              cases k : firstF (fS c s p t q) 1 800 with
              | some d =>
                rw [k] at B1 B2
                exact ⟨d, _, 0, B1, B2, Or.inl ⟨rfl, rfl⟩⟩
              | none =>
                rw [k] at B1 B2
                exact ⟨(⟨#[]⟩, 0), _, 4, B1, B2, Or.inr rfl⟩
    · have N2 := fun W => rvald_no ht v2 W
      exact ⟨(⟨#[]⟩, 0), _, 1, fun W => ssi_err (fun W => dcmp_bad2 ht v1 v2 W) W, fun W => rse_bad2 (m := 1) (by decide) (fun W => rvald_yes v1 W) N2 W, Or.inr rfl⟩
  · exact ⟨(⟨#[]⟩, 0), _, 1, fun W => ssi_err (fun W => dcmp_bad1 hs v1 W) W, fun W => rse_bad1 (n := 1) (by decide) (fun W => rvald_no hs v1 W) W, Or.inr rfl⟩
end Go.Proofs.YtblkokjkmbpejaaGreatDoor
