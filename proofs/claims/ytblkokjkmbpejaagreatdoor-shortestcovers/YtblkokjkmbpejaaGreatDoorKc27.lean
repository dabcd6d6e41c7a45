/-
  Holds: SoHc SoL SoJ.
-/
import Derived.Test.YtblkokjkmbpejaaGreatDoorRows
import Derived.Laws.Externs
import Derived.WalkKit
import Derived.WalkSpells
import Derived.WalkLawsBesides
import Derived.Lib.Mul64
import Derived.Stop.Asserts
import Derived.RowKitTokens
import Derived.Lib.Strings
import Derived.Lib.BufferWrite
import Derived.Deep.OwnRows
import Derived.Deep.RegionHeld3
import Derived.BigQuiet
import Derived.Lib.ConvBytes
import Derived.Laws.CopyOwn
import Derived.Lib.TrailingZeros
import Derived.Lib.ItoaNum
import Derived.Deep.LoopGhost
import Derived.Deep.AppendLies
import Derived.Deep.DeepCutAuto
import Derived.Test.YtblkokjkmbpejaaGreatDoorKc26
set_option maxRecDepth 100000
set_option maxHeartbeats 4000000
namespace Go.Proofs.YtblkokjkmbpejaaGreatDoor
open Go.RowKit
def firstF (f : Nat → Option Dp) : Nat → Nat → Option Dp
  | _, 0 => none
  | n, k + 1 => match f n with
    | some d => some d
    | none => firstF f (n + 1) k
theorem seek_first (hb : Dp → Bool) (cand : Nat → List Dp) : ∀ k n, seekF hb cand n k = firstF (fun m => (cand m).find? hb) n k
  | 0, _ => rfl
  | k + 1, n => by
    unfold seekF firstF
    cases (cand n).find? hb with
    | some d => rfl
    | none => exact seek_first hb cand k (n + 1)
theorem first_congr {f g : Nat → Option Dp} : ∀ k n, (∀ m, n ≤ m → m < n + k → f m = g m) → firstF f n k = firstF g n k
  | 0, _, _ => rfl
  | k + 1, n, h => by
    unfold firstF
    rw [h n (Nat.le_refl _) (by omega), first_congr k (n + 1) (fun m a b => h m (by omega) (by omega))]
theorem bd_bad {b : Nat} {z n : Int} (h : Bad b z n) (w : World) : Calls Tryz.prog 50 #[.int .u64 (b : Int), .int .i64 z] w fun e w' => e = .returned (.tuple #[dcV ⟨#[]⟩ 0 false, dcV ⟨#[]⟩ 0 false, .bool false, .iface 69 (.int .i64 n)]) ∧ Below w.heap.size w w' :=
 bd_err (fun W => span_err (fun W => fin_bad h W) W) w
theorem ssp_bad {b : Nat} {z n : Int} (h : Bad b z n) (w : World) : Calls Tryz.prog 28 #[.int .u64 (b : Int), .int .i64 z] w fun e w' => e = .returned (.tuple #[.agg #[.string ⟨#[]⟩, .int .i64 0, .bool false, .string ⟨#[]⟩, .int .i64 0, .bool false, .bool false], dcV ⟨#[]⟩ 0 false, .iface 69 (.int .i64 n)]) ∧ Below w.heap.size w w' :=
 ssp_err (fun W => bd_bad h W) w
theorem ssp_is {z : Int} {f T : Nat} {L : Int} {S I b : Nat} (h : Fn z f T L S I b) {u s t : ByteArray} {o p q : Int} (G : Dx u o (vlF f L (mg S b))) (D : Dx s p (loF f L (mg S b))) (E : Dx t q (hiF f L (mg S b))) (w : World) :
 Calls Tryz.prog 28 #[.int .u64 (b : Int), .int .i64 z] w fun e w' => e = .returned (.tuple #[.agg #[.string s, .int .i64 p, .bool false, .string t, .int .i64 q, .bool false, .bool (decide (b % 2 = 0))], dcV u o false, .nilIface]) ∧ Below w.heap.size w w' :=
 ssp_ok (fun W => bd_is h D E W) (fun W => ex_is h G W) w
theorem Fl.near {z : Int} {f T : Nat} {L : Int} {S I b : Nat} {u : ByteArray} {o : Int} {s : ByteArray} {p : Int} {t : ByteArray} {q : Int} {A : Nat} {d1 d2 : Nat → Dp} (h : Fl z f T L S I b u o s p t q A d1 d2) (c : Bool) {few many : Nat} (h1 : 1 ≤ few) (fm : few ≤ many) (h2 : many ≤ 17) (w : World) :
 Calls Tryz.prog 29 #[.agg #[.string s, .int .i64 p, .bool false, .string t, .int .i64 q, .bool false, .bool c], dcV u o false, .int .i64 (few : Int), .int .i64 (many : Int)] w fun x w' => x = .returned (ansV (firstF (fD c s p t q u d1 d2) few (many + 1 - few))) ∧ Below w.heap.size w w' := by
 have g := h.g.vn h.pos
 have r := snear_ok (c := c) (u := u) (o := o) h.d.vd h.e.vd fm (by omega) (r := rC u d1 d2) (g := d2) (fun n a b => by
  have k := h.rc (show 1 ≤ n by omega) (by omega)
  obtain ⟨_, _, _, c4⟩ := h.c n (by omega) (by omega)
  exact ⟨k.vd, c4.vd⟩) (fun n a b W => by
  obtain ⟨c1, du, _, _⟩ := h.c n (by omega) (by omega)
  have k := du_round g h.o1 (by omega) du W
  unfold rC
  by_cases q : n < u.size ∧ upB u false n = true
  · rw [if_pos q] at k ⊢; exact k
  · rw [if_neg q] at k ⊢; rw [c1]; exact k) (fun n a b W => by
  obtain ⟨c1, du, _, _⟩ := h.c n (by omega) (by omega)
  exact du_up g h.o1 (by omega) du W) w
 rw [seek_first] at r
 exact r
theorem Fl.first {z : Int} {f T : Nat} {L : Int} {S I b : Nat} {u : ByteArray} {o : Int} {s : ByteArray} {p : Int} {t : ByteArray} {q : Int} {A : Nat} {d1 d2 : Nat → Dp} (h : Fl z f T L S I b u o s p t q A d1 d2) (c : Bool) : ∃ N d, firstF (fD c s p t q u d1 d2) 1 17 = some d ∧ 1 ≤ N ∧ N ≤ (if z = 32 then 9 else 17) ∧ fD c s p t q u d1 d2 N = some d ∧ ∀ m, 1 ≤ m → m < N → fD c s p t q u d1 d2 m = none := by
  obtain ⟨M, hM, M1, dM, eM⟩ : ∃ M : Nat, M = (if z = 32 then 9 else 17) ∧ M ≤ 17 ∧ ∃ d, fD c s p t q u d1 d2 M = some d := by
    rcases h.fn.sf with ⟨rfl, rfl, rfl, rfl, rfl, rfl⟩ | ⟨rfl, rfl, rfl, rfl, rfl, rfl⟩
    · obtain ⟨d, e⟩ := h.there c (N := 9) (by decide) (by decide) (by decide)
      exact ⟨9, rfl, by decide, d, e⟩
    · obtain ⟨d, e⟩ := h.there c (N := 17) (by decide) (by decide) (by decide)
      exact ⟨17, rfl, by decide, d, e⟩
  have key : ∀ k n, n ≤ M → M < n + k → (∀ m, 1 ≤ m → m < n → fD c s p t q u d1 d2 m = none) → 1 ≤ n → ∃ N d, firstF (fD c s p t q u d1 d2) n k = some d ∧ 1 ≤ N ∧ N ≤ M ∧ fD c s p t q u d1 d2 N = some d ∧ ∀ m, 1 ≤ m → m < N → fD c s p t q u d1 d2 m = none := by
    intro k
    induction k with
    | zero => intro n a b _ _; omega
    | succ k ih =>
      intro n a b hn n1
      unfold firstF
      cases e : fD c s p t q u d1 d2 n with
      | some d => exact ⟨n, d, rfl, n1, a, e, hn⟩
      | none =>
        have nM : n ≠ M := by
          rintro rfl
          rw [e] at eM
          cases eM
        exact ih (n + 1) (by omega) (by omega) (fun m m1 m2 => by
          rcases Nat.lt_or_ge m n with q | q
          · exact hn m m1 q
          · rw [show m = n by omega]; exact e) (by omega)
  obtain ⟨N, d, k1, k2, k3, k4, k5⟩ := key 17 1 (by rw [hM]; split <;> omega) (by omega) (fun m a b => by omega) (Nat.le_refl 1)
  exact ⟨N, d, k1, k2, by rw [← hM]; exact k3, k4, k5⟩
theorem Fl.digits {z : Int} {f T : Nat} {L : Int} {S I b : Nat} {u : ByteArray} {o : Int} {s : ByteArray} {p : Int} {t : ByteArray} {q : Int} {A : Nat} {d1 d2 : Nat → Dp} (h : Fl z f T L S I b u o s p t q A d1 d2) {d : Dp} (hd : firstF (fD (decide (b % 2 = 0)) s p t q u d1 d2) 1 17 = some d) (w : World) :
 Calls Tryz.prog 8 #[.int .u64 (b : Int), .int .i64 z] w fun x w' => x = .returned (.tuple #[dcV d.1 d.2 false, .nilIface]) ∧ Below w.heap.size w w' :=
 sdi_ok (fun W => ssp_is h.fn h.g h.d h.e W) (fun W => by
  have r := h.near (decide (b % 2 = 0)) (few := 1) (many := 17) (by omega) (by omega) (by omega) W
  rw [show 17 + 1 - 1 = 17 from rfl, hd] at r
  exact r) w
theorem Fl.within {z : Int} {f T : Nat} {L : Int} {S I b : Nat} {u : ByteArray} {o : Int} {s : ByteArray} {p : Int} {t : ByteArray} {q : Int} {A : Nat} {d1 d2 : Nat → Dp} (h : Fl z f T L S I b u o s p t q A d1 d2) {n : Nat} (n0 : 1 ≤ n) (n1 : n ≤ 17) (w : World) :
    Calls Tryz.prog 14 #[.int .u64 (b : Int), .int .i64 z, .int .i64 (n : Int)] w fun x w' => x = .returned (match fD (decide (b % 2 = 0)) s p t q u d1 d2 n with | some d => .tuple #[dcV d.1 d.2 false, .bool true, .nilIface] | none => .tuple #[dcV ⟨#[]⟩ 0 false, .bool false, .nilIface]) ∧ Below w.heap.size w w' := by
  have H := fun W => h.near (decide (b % 2 = 0)) (few := n) (many := n) n0 (Nat.le_refl _) n1 W
  have e : firstF (fD (decide (b % 2 = 0)) s p t q u d1 d2) n (n + 1 - n) = fD (decide (b % 2 = 0)) s p t q u d1 d2 n := by
    rw [Nat.add_sub_cancel_left]
    unfold firstF
    cases fD (decide (b % 2 = 0)) s p t q u d1 d2 n <;> rfl
  rw [e] at H
  have SP := fun W => ssp_is h.fn h.g h.d h.e W
  cases k : fD (decide (b % 2 = 0)) s p t q u d1 d2 n with
  | some d =>
    rw [k] at H
    exact swi_ok (by omega) (by omega) h.pos SP H w
  | none =>
    rw [k] at H
    exact swi_ok (by omega) (by omega) h.pos SP H w
theorem fn_zero {z : Int} {f T : Nat} {L : Int} {S I b : Nat} (h : Fn z f T L S I b) (m0 : mg S b = 0) (w : World) : Calls Tryz.prog 8 #[.int .u64 (b : Int), .int .i64 z] w fun x w' => x = .returned (.tuple #[dcV ⟨#[]⟩ 0 false, .nilIface]) ∧ Below w.heap.size w w' := by
 obtain ⟨⟨s, p, D⟩, ⟨t, q, E⟩, u, o, G⟩ := Fn.has h
 have D0 := D
 have G0 := G
 rw [m0, vl_zero] at G0
 rw [m0] at D0
 obtain ⟨rfl, rfl⟩ := Dx.uniq G0 dx_nought
 obtain ⟨rfl, rfl⟩ := Dx.uniq D0 dx_nought
 have z0 : VD ⟨#[]⟩ 0 false := dx_nought.vd
 have ev : b % 2 = 0 := by
  obtain ⟨_, _, _, _, s2, _, _⟩ := h.sf.fs
  unfold mg at m0
  have := Nat.div_add_mod b S
  rw [m0, Nat.add_zero] at this
  rw [← this, Nat.mul_mod, s2]
  simp
 refine sdi_ok (fun W => ssp_is h G D E W) (k := true) (fun W => ?_) w
 have MR0 : ∀ n : Nat, n ≤ 17 → ∀ k, MR ⟨#[]⟩ 0 false (n : Int) k := fun n hn k => ⟨z0, by omega, by omega, fun y => by cases y⟩
 have on : ∀ n : Nat, onB ⟨#[]⟩ false (n : Int) = false := fun n => by unfold onB; rw [Bool.false_or]; exact decide_eq_false (by show ¬ (n : Int) < ((0 : Nat) : Int); omega)
 have r := snear_ok (c := decide (b % 2 = 0)) (u := ⟨#[]⟩) (o := 0) D.vd E.vd (few := 1) (many := 17) (by omega) (by omega) (r := fun _ => (⟨#[]⟩, 0)) (g := fun _ => (⟨#[]⟩, 0)) (fun n _ _ => ⟨z0, z0⟩) (fun n a b W => dround_off (MR0 n b _) (on n) (fun W => below_self z0 (by omega) (Nat.zero_le _) W) W) (fun n a b W => dup_off (MR0 n b _) (on n) (fun W => below_self z0 (by omega) (Nat.zero_le _) W) W) W
 have hit : hdB (decide (b % 2 = 0)) ⟨#[]⟩ 0 t q (⟨#[]⟩, 0) = true := by
  unfold hdB
  have hp : 0 < hiF f L (mg S b) := by
   have := vl_hi h.sf.fs.1 h.m
   omega
  rw [dx_low dx_nought dx_nought, dx_low dx_nought E, decide_eq_true ev]
  unfold inB cmpI
  rw [if_pos rfl]
  simp [hp]
 rw [show 17 + 1 - 1 = 16 + 1 from rfl] at r
 unfold seekF at r
 rw [List.find?_cons, hit] at r
 exact r
theorem fn_within_none {z : Int} {f T : Nat} {L : Int} {S I b : Nat} (h : Fn z f T L S I b) {n : Int} (hn : n < 1 ∨ 17 < n ∨ mg S b = 0) (w : World) : Calls Tryz.prog 14 #[.int .u64 (b : Int), .int .i64 z, .int .i64 n] w fun x w' => x = .returned (.tuple #[dcV ⟨#[]⟩ 0 false, .bool false, .iface 69 (.int .i64 1)]) ∧ Below w.heap.size w w' := by
 obtain ⟨⟨s, p, D⟩, ⟨t, q, E⟩, u, o, G⟩ := Fn.has h
 have SP := fun W => ssp_is h G D E W
 by_cases c1 : n < 1
 · exact swi_low c1 SP w
 · by_cases c2 : 17 < n
   · exact swi_high c1 c2 SP w
   · have m0 : mg S b = 0 := by omega
     rw [m0, vl_zero] at G
     obtain ⟨rfl, rfl⟩ := Dx.uniq G dx_nought
     exact swi_zero c1 c2 SP w
def nxD (s : ByteArray) (p : Int) (k : Nat) : Dp := if k = 0 then (if p = 1099511627776 then (⟨#[]⟩, 0) else (⟨#[49]⟩, p + 1)) else (upS s k, p)
end Go.Proofs.YtblkokjkmbpejaaGreatDoor
