/-
  Holds: SoHc SoL SoIa SoIb SoJ.
-/
import Derived.Test.YtblkokjkmbpejaaGreatDoorRows
import Derived.Laws.Externs
import Derived.WalkKit
import Derived.WalkSpells
import Derived.WalkLawsBesides
import Derived.Lib.Mul64
import Derived.Stop.Asserts
import Derived.RowKitTokens
import Derived.Lib.Strings
import Derived.Lib.BufferWrite
import Derived.Deep.OwnRows
import Derived.Deep.RegionHeld3
import Derived.BigQuiet
import Derived.Lib.ConvBytes
import Derived.Laws.CopyOwn
import Derived.Lib.TrailingZeros
import Derived.Lib.ItoaNum
import Derived.Deep.LoopGhost
import Derived.Deep.AppendLies
import Derived.Deep.DeepCutAuto
import Derived.Test.YtblkokjkmbpejaaGreatDoorKd26
set_option maxRecDepth 100000
set_option maxHeartbeats 4000000
namespace Go.Proofs.YtblkokjkmbpejaaGreatDoor
open Go.RowKit
def firstF (f : Nat → Option Dp) : Nat → Nat → Option Dp
  | _, 0 => none
  | n, k + 1 => match f n with
    | some d => some d
    | none => firstF f (n + 1) k
theorem seek_first (hb : Dp → Bool) (cand : Nat → List Dp) : ∀ k n, seekF hb cand n k = firstF (fun m => (cand m).find? hb) n k
  | 0, _ => rfl
  | k + 1, n => by
    unfold seekF firstF
    cases (cand n).find? hb with
    | some d => rfl
    | none => exact seek_first hb cand k (n + 1)
theorem first_congr {f g : Nat → Option Dp} : ∀ k n, (∀ m, n ≤ m → m < n + k → f m = g m) → firstF f n k = firstF g n k
  | 0, _, _ => rfl
  | k + 1, n, h => by
    unfold firstF
    rw [h n (Nat.le_refl _) (by omega), first_congr k (n + 1) (fun m a b => h m (by omega) (by omega))]
theorem ssp_is {z : Int} {f T : Nat} {L : Int} {S I b : Nat} (h : Fn z f T L S I b) {u s t : ByteArray} {o p q : Int} (G : Dx u o (vlF f L (mg S b))) (D : Dx s p (loF f L (mg S b))) (E : Dx t q (hiF f L (mg S b))) (w : World) :
 Calls Tryz.prog 28 #[.int .u64 (b : Int), .int .i64 z] w fun e w' => e = .returned (.tuple #[.agg #[.string s, .int .i64 p, .bool false, .string t, .int .i64 q, .bool false, .bool (decide (b % 2 = 0))], dcV u o false, .nilIface]) ∧ Below w.heap.size w w' :=
 ssp_ok (fun W => bd_is h D E W) (fun W => ex_is h G W) w
theorem Fl.near {z : Int} {f T : Nat} {L : Int} {S I b : Nat} {u : ByteArray} {o : Int} {s : ByteArray} {p : Int} {t : ByteArray} {q : Int} {A : Nat} {d1 d2 : Nat → Dp} (h : Fl z f T L S I b u o s p t q A d1 d2) (c : Bool) {few many : Nat} (h1 : 1 ≤ few) (fm : few ≤ many) (h2 : many ≤ 17) (w : World) :
 Calls Tryz.prog 29 #[.agg #[.string s, .int .i64 p, .bool false, .string t, .int .i64 q, .bool false, .bool c], dcV u o false, .int .i64 (few : Int), .int .i64 (many : Int)] w fun x w' => x = .returned (ansV (firstF (fD c s p t q u d1 d2) few (many + 1 - few))) ∧ Below w.heap.size w w' := by
 have g := h.g.vn h.pos
 have r := snear_ok (c := c) (u := u) (o := o) h.d.vd h.e.vd fm (by omega) (r := rC u d1 d2) (g := d2) (fun n a b => by
  have k := h.rc (show 1 ≤ n by omega) (by omega)
  obtain ⟨_, _, _, c4⟩ := h.c n (by omega) (by omega)
  exact ⟨k.vd, c4.vd⟩) (fun n a b W => by
  obtain ⟨c1, du, _, _⟩ := h.c n (by omega) (by omega)
  have k := du_round g h.o1 (by omega) du W
  unfold rC
  by_cases q : n < u.size ∧ upB u false n = true
  · rw [if_pos q] at k ⊢; exact k
  · rw [if_neg q] at k ⊢; rw [c1]; exact k) (fun n a b W => by
  obtain ⟨c1, du, _, _⟩ := h.c n (by omega) (by omega)
  exact du_up g h.o1 (by omega) du W) w
 rw [seek_first] at r
 exact r
theorem Fl.first {z : Int} {f T : Nat} {L : Int} {S I b : Nat} {u : ByteArray} {o : Int} {s : ByteArray} {p : Int} {t : ByteArray} {q : Int} {A : Nat} {d1 d2 : Nat → Dp} (h : Fl z f T L S I b u o s p t q A d1 d2) (c : Bool) : ∃ N d, firstF (fD c s p t q u d1 d2) 1 17 = some d ∧ 1 ≤ N ∧ N ≤ (if z = 32 then 9 else 17) ∧ fD c s p t q u d1 d2 N = some d ∧ ∀ m, 1 ≤ m → m < N → fD c s p t q u d1 d2 m = none := by
  obtain ⟨M, hM, M1, dM, eM⟩ : ∃ M : Nat, M = (if z = 32 then 9 else 17) ∧ M ≤ 17 ∧ ∃ d, fD c s p t q u d1 d2 M = some d := by
    rcases h.fn.sf with ⟨rfl, rfl, rfl, rfl, rfl, rfl⟩ | ⟨rfl, rfl, rfl, rfl, rfl, rfl⟩
    · obtain ⟨d, e⟩ := h.there c (N := 9) (by decide) (by decide) (by decide)
      exact ⟨9, rfl, by decide, d, e⟩
    · obtain ⟨d, e⟩ := h.there c (N := 17) (by decide) (by decide) (by decide)
      exact ⟨17, rfl, by decide, d, e⟩
  have key : ∀ k n, n ≤ M → M < n + k → (∀ m, 1 ≤ m → m < n → fD c s p t q u d1 d2 m = none) → 1 ≤ n → ∃ N d, firstF (fD c s p t q u d1 d2) n k = some d ∧ 1 ≤ N ∧ N ≤ M ∧ fD c s p t q u d1 d2 N = some d ∧ ∀ m, 1 ≤ m → m < N → fD c s p t q u d1 d2 m = none := by
    intro k
    induction k with
    | zero => intro n a b _ _; omega
    | succ k ih =>
      intro n a b hn n1
      unfold firstF
      cases e : fD c s p t q u d1 d2 n with
      | some d => exact ⟨n, d, rfl, n1, a, e, hn⟩
      | none =>
        have nM : n ≠ M := by
          rintro rfl
          rw [e] at eM
          cases eM
        exact ih (n + 1) (by omega) (by omega) (fun m m1 m2 => by
          rcases Nat.lt_or_ge m n with q | q
          · exact hn m m1 q
          · rw [show m = n by omega]; exact e) (by omega)
  obtain ⟨N, d, k1, k2, k3, k4, k5⟩ := key 17 1 (by rw [hM]; split <;> omega) (by omega) (fun m a b => by omega) (Nat.le_refl 1)
  exact ⟨N, d, k1, k2, by rw [← hM]; exact k3, k4, k5⟩
theorem Fl.digits {z : Int} {f T : Nat} {L : Int} {S I b : Nat} {u : ByteArray} {o : Int} {s : ByteArray} {p : Int} {t : ByteArray} {q : Int} {A : Nat} {d1 d2 : Nat → Dp} (h : Fl z f T L S I b u o s p t q A d1 d2) {d : Dp} (hd : firstF (fD (decide (b % 2 = 0)) s p t q u d1 d2) 1 17 = some d) (w : World) :
 Calls Tryz.prog 8 #[.int .u64 (b : Int), .int .i64 z] w fun x w' => x = .returned (.tuple #[dcV d.1 d.2 false, .nilIface]) ∧ Below w.heap.size w w' :=
 sdi_ok (fun W => ssp_is h.fn h.g h.d h.e W) (fun W => by
  have r := h.near (decide (b % 2 = 0)) (few := 1) (many := 17) (by omega) (by omega) (by omega) W
  rw [show 17 + 1 - 1 = 17 from rfl, hd] at r
  exact r) w
theorem rrd_eq {u d1 : ByteArray} {o d2 k1 : Int} (h0 : 0 < u.size) (hs : u.size ≤ 800) (M1 : ∀ W, Calls Tryz.prog 46 #[.string u, .int .i64 o, .bool false] W fun e w' => e = .returned (.tuple #[.agg #[.string d1, .int .i64 d2, .bool false], .int .i64 k1]) ∧ Below W.heap.size W w') (w : World) :
 Calls Tryz.prog 34 #[.agg #[.string u, .int .i64 o, .bool false], .int .i64 (u.size : Int)] w fun x w' => x = .returned (.tuple #[.agg #[.string u, .int .i64 o, .bool false], .agg #[.string u, .int .i64 o, .bool false]]) ∧ Below w.heap.size w w' := by
 have he : u.toList.isEmpty = false := empty_false h0
 have n0 : ¬ (u.size : Int) < 0 := by omega
 have sz : (u.size : Int) ≤ 9223372036854775807 := by omega
 have F0 : Hid (Bk (((w.alloc (.cells #[.string u, .int .i64 o, .bool false] 24)).alloc (.cells #[.string ⟨#[]⟩, .int .i64 0, .bool false] 24)).alloc (.cells #[.string ⟨#[]⟩, .int .i64 0, .bool false] 24)) (w.heap.size) [.string u, .int .i64 o, .bool false] ∧ Bk (((w.alloc (.cells #[.string u, .int .i64 o, .bool false] 24)).alloc (.cells #[.string ⟨#[]⟩, .int .i64 0, .bool false] 24)).alloc (.cells #[.string ⟨#[]⟩, .int .i64 0, .bool false] 24)) (w.heap.size + 1) [.string ⟨#[]⟩, .int .i64 0, .bool false] ∧ Bk (((w.alloc (.cells #[.string u, .int .i64 o, .bool false] 24)).alloc (.cells #[.string ⟨#[]⟩, .int .i64 0, .bool false] 24)).alloc (.cells #[.string ⟨#[]⟩, .int .i64 0, .bool false] 24)) (w.heap.size + 1 + 1) [.string ⟨#[]⟩, .int .i64 0, .bool false] ∧ Below w.heap.size w (((w.alloc (.cells #[.string u, .int .i64 o, .bool false] 24)).alloc (.cells #[.string ⟨#[]⟩, .int .i64 0, .bool false] 24)).alloc (.cells #[.string ⟨#[]⟩, .int .i64 0, .bool false] 24))) := ⟨((Bk.new3 w (.string u) (.int .i64 o) (.bool false) 24).step ((Below.refl _ _).alloc (Nat.le_refl _) _)).step ((Below.refl _ _).alloc (Nat.le_refl _) _), (((by have q := Bk.new3 (w.alloc (.cells #[.string u, .int .i64 o, .bool false] 24)) (.string ⟨#[]⟩) (.int .i64 0) (.bool false) 24; simpa using q) : Bk ((w.alloc (.cells #[.string u, .int .i64 o, .bool false] 24)).alloc (.cells #[.string ⟨#[]⟩, .int .i64 0, .bool false] 24)) (w.heap.size + 1) [.string ⟨#[]⟩, .int .i64 0, .bool false])).step ((Below.refl _ _).alloc (Nat.le_refl _) _), ((by have q := Bk.new3 ((w.alloc (.cells #[.string u, .int .i64 o, .bool false] 24)).alloc (.cells #[.string ⟨#[]⟩, .int .i64 0, .bool false] 24)) (.string ⟨#[]⟩) (.int .i64 0) (.bool false) 24; simpa using q) : Bk (((w.alloc (.cells #[.string u, .int .i64 o, .bool false] 24)).alloc (.cells #[.string ⟨#[]⟩, .int .i64 0, .bool false] 24)).alloc (.cells #[.string ⟨#[]⟩, .int .i64 0, .bool false] 24)) (w.heap.size + 1 + 1) [.string ⟨#[]⟩, .int .i64 0, .bool false]), ((((Below.refl w.heap.size w)).alloc (Nat.le_refl _) _).alloc ((((Below.refl w.heap.size w)).alloc (Nat.le_refl _) _).size) _).alloc (((((Below.refl w.heap.size w)).alloc (Nat.le_refl _) _).alloc ((((Below.refl w.heap.size w)).alloc (Nat.le_refl _) _).size) _).size) _⟩
 go_enter Tryz.func34, Tryz.ntmps34
 go_upto_region 1 with fail
 generalize (((w.alloc (.cells #[.string u, .int .i64 o, .bool false] 24)).alloc (.cells #[.string ⟨#[]⟩, .int .i64 0, .bool false] 24)).alloc (.cells #[.string ⟨#[]⟩, .int .i64 0, .bool false] 24)) = w1 at *
 have l1_0 := F0.out.1.lt
 have a1_0_0 := F0.out.1.cell 0 _ rfl
 have f1_0_0 := F0.out.1.fz 0
 have a1_0_1 := F0.out.1.cell 1 _ rfl
 have f1_0_1 := F0.out.1.fz 1
 have a1_0_2 := F0.out.1.cell 2 _ rfl
 have f1_0_2 := F0.out.1.fz 2
 have l1_1 := F0.out.2.1.lt
 have a1_1_0 := F0.out.2.1.cell 0 _ rfl
 have f1_1_0 := F0.out.2.1.fz 0
 have a1_1_1 := F0.out.2.1.cell 1 _ rfl
 have f1_1_1 := F0.out.2.1.fz 1
 have a1_1_2 := F0.out.2.1.cell 2 _ rfl
 have f1_1_2 := F0.out.2.1.fz 2
 have l1_2 := F0.out.2.2.1.lt
 have a1_2_0 := F0.out.2.2.1.cell 0 _ rfl
 have f1_2_0 := F0.out.2.2.1.fz 0
 have a1_2_1 := F0.out.2.2.1.cell 1 _ rfl
 have f1_2_1 := F0.out.2.2.1.fz 1
 have a1_2_2 := F0.out.2.2.1.cell 2 _ rfl
 have f1_2_2 := F0.out.2.2.1.fz 2
 have ne1_0_1 : ¬ w.heap.size = w.heap.size + 1 := by omega
 have ne1_0_2 : ¬ w.heap.size = w.heap.size + 1 + 1 := by omega
 have ne1_1_0 : ¬ w.heap.size + 1 = w.heap.size := by omega
 have ne1_1_2 : ¬ w.heap.size + 1 = w.heap.size + 1 + 1 := by omega
 have ne1_2_0 : ¬ w.heap.size + 1 + 1 = w.heap.size := by omega
 have ne1_2_1 : ¬ w.heap.size + 1 + 1 = w.heap.size + 1 := by omega
 go_upto_region 4 with fail
 go_cut [6, 7] from 26 to 35 (fun bv kv wx => ∃ K : Nat, bv = .pointer (some ⟨K, 0, none⟩) ∧ w.heap.size + 1 + 1 < K ∧ Hid (Bk wx (w.heap.size) [.string u, .int .i64 o, .bool false] ∧ Bk wx (w.heap.size + 1) [.string ⟨#[]⟩, .int .i64 0, .bool false] ∧ Bk wx (w.heap.size + 1 + 1) [.string ⟨#[]⟩, .int .i64 0, .bool false] ∧ Bk wx K [.string d1, .int .i64 d2, .bool false] ∧ Below w.heap.size w wx))
 case first =>
  go_region_held3 (fun w' => w'.cell? ⟨w.heap.size, 0, none⟩ = some (.string u) ∧ w'.cell? ⟨w.heap.size, 1, none⟩ = some (.int .i64 o) ∧ w'.cell? ⟨w.heap.size, 2, none⟩ = some (.bool false)) (simp [*, go_sem]) (first | (go_at_call 46; refine (M1 _).mono ?_; rintro p1 v1 ⟨rfl, bb⟩; first | (have G1 : Hid (Bk v1 (w.heap.size) [.string u, .int .i64 o, .bool false] ∧ Bk v1 (w.heap.size + 1) [.string ⟨#[]⟩, .int .i64 0, .bool false] ∧ Bk v1 (w.heap.size + 1 + 1) [.string ⟨#[]⟩, .int .i64 0, .bool false] ∧ Below w.heap.size w v1) := ⟨((F0.out.1).step ((Below.refl w1.heap.size w1).alloc (Nat.le_refl _) (.cells #[.string ⟨#[]⟩, .int .i64 0, .bool false] 24)).drew).step bb, ((F0.out.2.1).step ((Below.refl w1.heap.size w1).alloc (Nat.le_refl _) (.cells #[.string ⟨#[]⟩, .int .i64 0, .bool false] 24)).drew).step bb, ((F0.out.2.2.1).step ((Below.refl w1.heap.size w1).alloc (Nat.le_refl _) (.cells #[.string ⟨#[]⟩, .int .i64 0, .bool false] 24)).drew).step bb, ((F0.out.2.2.2).trans (((Below.refl w1.heap.size w1).alloc (Nat.le_refl _) (.cells #[.string ⟨#[]⟩, .int .i64 0, .bool false] 24)).drew.mono (F0.out.2.2.2).size)).trans (bb.mono ((F0.out.2.2.2).trans (((Below.refl w1.heap.size w1).alloc (Nat.le_refl _) (.cells #[.string ⟨#[]⟩, .int .i64 0, .bool false] 24)).drew.mono (F0.out.2.2.2).size)).size)⟩; have N1 : Hid (Bk v1 (w1.heap.size) [.string ⟨#[]⟩, .int .i64 0, .bool false]) := ((Bk.new3 w1 _ _ _ 24).step (Below.refl _ _).drew).step bb; clear bb; have d1_0 := (G1.out.1).lt; have d1_0_0 := (G1.out.1).cell 0 _ rfl; have e1_0_0 := (G1.out.1).fz 0; have d1_0_1 := (G1.out.1).cell 1 _ rfl; have e1_0_1 := (G1.out.1).fz 1; have d1_0_2 := (G1.out.1).cell 2 _ rfl; have e1_0_2 := (G1.out.1).fz 2; have d1_1 := (G1.out.2.1).lt; have d1_1_0 := (G1.out.2.1).cell 0 _ rfl; have e1_1_0 := (G1.out.2.1).fz 0; have d1_1_1 := (G1.out.2.1).cell 1 _ rfl; have e1_1_1 := (G1.out.2.1).fz 1; have d1_1_2 := (G1.out.2.1).cell 2 _ rfl; have e1_1_2 := (G1.out.2.1).fz 2; have d1_2 := (G1.out.2.2.1).lt; have d1_2_0 := (G1.out.2.2.1).cell 0 _ rfl; have e1_2_0 := (G1.out.2.2.1).fz 0; have d1_2_1 := (G1.out.2.2.1).cell 1 _ rfl; have e1_2_1 := (G1.out.2.2.1).fz 1; have d1_2_2 := (G1.out.2.2.1).cell 2 _ rfl; have e1_2_2 := (G1.out.2.2.1).fz 2; have n1 := N1.out.lt; have n1_0 := N1.out.cell 0 _ rfl; have n1_1 := N1.out.cell 1 _ rfl; have n1_2 := N1.out.cell 2 _ rfl; have m1_0 := N1.out.fz 0; have m1_1 := N1.out.fz 1; have m1_2 := N1.out.fz 2) | (have G1 : Hid (Bk v1 (w.heap.size) [.string u, .int .i64 o, .bool false] ∧ Bk v1 (w.heap.size + 1) [.string ⟨#[]⟩, .int .i64 0, .bool false] ∧ Bk v1 (w.heap.size + 1 + 1) [.string ⟨#[]⟩, .int .i64 0, .bool false] ∧ Below w.heap.size w v1) := ⟨((F0.out.1).step ((Below.refl w1.heap.size w1).drew)).step bb, ((F0.out.2.1).step ((Below.refl w1.heap.size w1).drew)).step bb, ((F0.out.2.2.1).step ((Below.refl w1.heap.size w1).drew)).step bb, ((F0.out.2.2.2).trans (((Below.refl w1.heap.size w1).drew).mono (F0.out.2.2.2).size)).trans (bb.mono ((F0.out.2.2.2).trans (((Below.refl w1.heap.size w1).drew).mono (F0.out.2.2.2).size)).size)⟩; clear bb; have d1_0 := (G1.out.1).lt; have d1_0_0 := (G1.out.1).cell 0 _ rfl; have e1_0_0 := (G1.out.1).fz 0; have d1_0_1 := (G1.out.1).cell 1 _ rfl; have e1_0_1 := (G1.out.1).fz 1; have d1_0_2 := (G1.out.1).cell 2 _ rfl; have e1_0_2 := (G1.out.1).fz 2; have d1_1 := (G1.out.2.1).lt; have d1_1_0 := (G1.out.2.1).cell 0 _ rfl; have e1_1_0 := (G1.out.2.1).fz 0; have d1_1_1 := (G1.out.2.1).cell 1 _ rfl; have e1_1_1 := (G1.out.2.1).fz 1; have d1_1_2 := (G1.out.2.1).cell 2 _ rfl; have e1_1_2 := (G1.out.2.1).fz 2; have d1_2 := (G1.out.2.2.1).lt; have d1_2_0 := (G1.out.2.2.1).cell 0 _ rfl; have e1_2_0 := (G1.out.2.2.1).fz 0; have d1_2_1 := (G1.out.2.2.1).cell 1 _ rfl; have e1_2_1 := (G1.out.2.2.1).fz 1; have d1_2_2 := (G1.out.2.2.1).cell 2 _ rfl; have e1_2_2 := (G1.out.2.2.1).fz 2)))
  all_goals go_wp2
  all_goals go_meet
  all_goals refine ⟨_, rfl, by omega, ?_⟩
  all_goals show (_ ∧ _)
  all_goals first | exact ⟨(G1.out.1).step ((Below.refl _ _).alloc (Nat.le_refl _) _), (G1.out.2.1).step ((Below.refl _ _).alloc (Nat.le_refl _) _), (G1.out.2.2.1).step ((Below.refl _ _).alloc (Nat.le_refl _) _), Bk.new3 v1 _ _ _ _, (G1.out.2.2.2).alloc (G1.out.2.2.2).size _⟩ | exact ⟨(((G1.out.1).setC (by omega) 0 _).setC (by omega) 1 _).setC (by omega) 2 _, (((G1.out.2.1).setC (by omega) 0 _).setC (by omega) 1 _).setC (by omega) 2 _, (((G1.out.2.2.1).setC (by omega) 0 _).setC (by omega) 1 _).setC (by omega) 2 _, N1.out.fill3 _ _ _, (((G1.out.2.2.2).setCell (by show w.heap.size ≤ w1.heap.size; omega) _).setCell (by show w.heap.size ≤ w1.heap.size; omega) _).setCell (by show w.heap.size ≤ w1.heap.size; omega) _⟩
 case rest =>
 obtain ⟨K, rfl, hK, HC⟩ := hcut
 clear F0 M1
 have F60 : Hid (Bk wc (w.heap.size) [.string u, .int .i64 o, .bool false] ∧ Bk wc (w.heap.size + 1) [.string ⟨#[]⟩, .int .i64 0, .bool false] ∧ Bk wc (w.heap.size + 1 + 1) [.string ⟨#[]⟩, .int .i64 0, .bool false] ∧ Bk wc K [.string d1, .int .i64 d2, .bool false] ∧ Below w.heap.size w wc) := HC
 clear HC
 have l11_0 := F60.out.1.lt
 have a11_0_0 := F60.out.1.cell 0 _ rfl
 have f11_0_0 := F60.out.1.fz 0
 have a11_0_1 := F60.out.1.cell 1 _ rfl
 have f11_0_1 := F60.out.1.fz 1
 have a11_0_2 := F60.out.1.cell 2 _ rfl
 have f11_0_2 := F60.out.1.fz 2
 have l11_1 := F60.out.2.1.lt
 have a11_1_0 := F60.out.2.1.cell 0 _ rfl
 have f11_1_0 := F60.out.2.1.fz 0
 have a11_1_1 := F60.out.2.1.cell 1 _ rfl
 have f11_1_1 := F60.out.2.1.fz 1
 have a11_1_2 := F60.out.2.1.cell 2 _ rfl
 have f11_1_2 := F60.out.2.1.fz 2
 have l11_2 := F60.out.2.2.1.lt
 have a11_2_0 := F60.out.2.2.1.cell 0 _ rfl
 have f11_2_0 := F60.out.2.2.1.fz 0
 have a11_2_1 := F60.out.2.2.1.cell 1 _ rfl
 have f11_2_1 := F60.out.2.2.1.fz 1
 have a11_2_2 := F60.out.2.2.1.cell 2 _ rfl
 have f11_2_2 := F60.out.2.2.1.fz 2
 go_upto_region 6 with fail
 have ne1 : ¬ w.heap.size = w.heap.size + 1 := by omega
 have ne2 : ¬ w.heap.size = w.heap.size + 1 + 1 := by omega
 have ne3 : ¬ w.heap.size + 1 = w.heap.size + 1 + 1 := by omega
 go_region_held3 (fun w' => w'.cell? ⟨w.heap.size, 0, none⟩ = some (.string u) ∧ w'.cell? ⟨w.heap.size, 1, none⟩ = some (.int .i64 o) ∧ w'.cell? ⟨w.heap.size, 2, none⟩ = some (.bool false)) (simp [*, go_sem, World.cell?_setCell_other]) (fail)
 all_goals go_wp2
 all_goals
  refine bodyPost_ret (v := .tuple #[.agg #[.string u, .int .i64 o, .bool false], .agg #[.string u, .int .i64 o, .bool false]]) (by simp [results, Tryz.results34, go_sem, World.cell?_setCell_same, World.cell?_setCell_other, *]) rfl ⟨rfl, ?_⟩
  refine Below.drew ?_
  repeat (first | refine Below.setCell ?_ (by first | exact Nat.le_refl _ | (dsimp only; omega)) _ | refine Below.alloc ?_ (by first | exact Nat.le_refl _ | omega | (simp; omega)) _ | refine Below.drew ?_)
  exact F60.out.2.2.2.2
theorem rrd_more {u d1 : ByteArray} {o d2 k1 n : Int} (h0 : 0 < u.size) (hs : u.size ≤ 800) (hn : (u.size : Int) < n) (M1 : ∀ W, Calls Tryz.prog 46 #[.string u, .int .i64 o, .bool false] W fun e w' => e = .returned (.tuple #[.agg #[.string d1, .int .i64 d2, .bool false], .int .i64 k1]) ∧ Below W.heap.size W w') (w : World) :
 Calls Tryz.prog 34 #[.agg #[.string u, .int .i64 o, .bool false], .int .i64 n] w fun x w' => x = .returned (.tuple #[.agg #[.string u, .int .i64 o, .bool false], .agg #[.string u, .int .i64 o, .bool false]]) ∧ Below w.heap.size w w' := by
 have he : u.toList.isEmpty = false := empty_false h0
 have n0 : ¬ (u.size : Int) < 0 := by omega
 have sz : (u.size : Int) ≤ 9223372036854775807 := by omega
 have hn2 : ¬ n ≤ (u.size : Int) := by omega
 have F0 : Hid (Bk (((w.alloc (.cells #[.string u, .int .i64 o, .bool false] 24)).alloc (.cells #[.string ⟨#[]⟩, .int .i64 0, .bool false] 24)).alloc (.cells #[.string ⟨#[]⟩, .int .i64 0, .bool false] 24)) (w.heap.size) [.string u, .int .i64 o, .bool false] ∧ Bk (((w.alloc (.cells #[.string u, .int .i64 o, .bool false] 24)).alloc (.cells #[.string ⟨#[]⟩, .int .i64 0, .bool false] 24)).alloc (.cells #[.string ⟨#[]⟩, .int .i64 0, .bool false] 24)) (w.heap.size + 1) [.string ⟨#[]⟩, .int .i64 0, .bool false] ∧ Bk (((w.alloc (.cells #[.string u, .int .i64 o, .bool false] 24)).alloc (.cells #[.string ⟨#[]⟩, .int .i64 0, .bool false] 24)).alloc (.cells #[.string ⟨#[]⟩, .int .i64 0, .bool false] 24)) (w.heap.size + 1 + 1) [.string ⟨#[]⟩, .int .i64 0, .bool false] ∧ Below w.heap.size w (((w.alloc (.cells #[.string u, .int .i64 o, .bool false] 24)).alloc (.cells #[.string ⟨#[]⟩, .int .i64 0, .bool false] 24)).alloc (.cells #[.string ⟨#[]⟩, .int .i64 0, .bool false] 24))) := ⟨((Bk.new3 w (.string u) (.int .i64 o) (.bool false) 24).step ((Below.refl _ _).alloc (Nat.le_refl _) _)).step ((Below.refl _ _).alloc (Nat.le_refl _) _), (((by have q := Bk.new3 (w.alloc (.cells #[.string u, .int .i64 o, .bool false] 24)) (.string ⟨#[]⟩) (.int .i64 0) (.bool false) 24; simpa using q) : Bk ((w.alloc (.cells #[.string u, .int .i64 o, .bool false] 24)).alloc (.cells #[.string ⟨#[]⟩, .int .i64 0, .bool false] 24)) (w.heap.size + 1) [.string ⟨#[]⟩, .int .i64 0, .bool false])).step ((Below.refl _ _).alloc (Nat.le_refl _) _), ((by have q := Bk.new3 ((w.alloc (.cells #[.string u, .int .i64 o, .bool false] 24)).alloc (.cells #[.string ⟨#[]⟩, .int .i64 0, .bool false] 24)) (.string ⟨#[]⟩) (.int .i64 0) (.bool false) 24; simpa using q) : Bk (((w.alloc (.cells #[.string u, .int .i64 o, .bool false] 24)).alloc (.cells #[.string ⟨#[]⟩, .int .i64 0, .bool false] 24)).alloc (.cells #[.string ⟨#[]⟩, .int .i64 0, .bool false] 24)) (w.heap.size + 1 + 1) [.string ⟨#[]⟩, .int .i64 0, .bool false]), ((((Below.refl w.heap.size w)).alloc (Nat.le_refl _) _).alloc ((((Below.refl w.heap.size w)).alloc (Nat.le_refl _) _).size) _).alloc (((((Below.refl w.heap.size w)).alloc (Nat.le_refl _) _).alloc ((((Below.refl w.heap.size w)).alloc (Nat.le_refl _) _).size) _).size) _⟩
 go_enter Tryz.func34, Tryz.ntmps34
 go_upto_region 1 with fail
 generalize (((w.alloc (.cells #[.string u, .int .i64 o, .bool false] 24)).alloc (.cells #[.string ⟨#[]⟩, .int .i64 0, .bool false] 24)).alloc (.cells #[.string ⟨#[]⟩, .int .i64 0, .bool false] 24)) = w1 at *
 have l1_0 := F0.out.1.lt
 have a1_0_0 := F0.out.1.cell 0 _ rfl
 have f1_0_0 := F0.out.1.fz 0
 have a1_0_1 := F0.out.1.cell 1 _ rfl
 have f1_0_1 := F0.out.1.fz 1
 have a1_0_2 := F0.out.1.cell 2 _ rfl
 have f1_0_2 := F0.out.1.fz 2
 have l1_1 := F0.out.2.1.lt
 have a1_1_0 := F0.out.2.1.cell 0 _ rfl
 have f1_1_0 := F0.out.2.1.fz 0
 have a1_1_1 := F0.out.2.1.cell 1 _ rfl
 have f1_1_1 := F0.out.2.1.fz 1
 have a1_1_2 := F0.out.2.1.cell 2 _ rfl
 have f1_1_2 := F0.out.2.1.fz 2
 have l1_2 := F0.out.2.2.1.lt
 have a1_2_0 := F0.out.2.2.1.cell 0 _ rfl
 have f1_2_0 := F0.out.2.2.1.fz 0
 have a1_2_1 := F0.out.2.2.1.cell 1 _ rfl
 have f1_2_1 := F0.out.2.2.1.fz 1
 have a1_2_2 := F0.out.2.2.1.cell 2 _ rfl
 have f1_2_2 := F0.out.2.2.1.fz 2
 have ne1_0_1 : ¬ w.heap.size = w.heap.size + 1 := by omega
 have ne1_0_2 : ¬ w.heap.size = w.heap.size + 1 + 1 := by omega
 have ne1_1_0 : ¬ w.heap.size + 1 = w.heap.size := by omega
 have ne1_1_2 : ¬ w.heap.size + 1 = w.heap.size + 1 + 1 := by omega
 have ne1_2_0 : ¬ w.heap.size + 1 + 1 = w.heap.size := by omega
 have ne1_2_1 : ¬ w.heap.size + 1 + 1 = w.heap.size + 1 := by omega
 go_upto_region 4 with fail
 go_cut [6, 7] from 26 to 35 (fun bv kv wx => ∃ K : Nat, bv = .pointer (some ⟨K, 0, none⟩) ∧ w.heap.size + 1 + 1 < K ∧ Hid (Bk wx (w.heap.size) [.string u, .int .i64 o, .bool false] ∧ Bk wx (w.heap.size + 1) [.string ⟨#[]⟩, .int .i64 0, .bool false] ∧ Bk wx (w.heap.size + 1 + 1) [.string ⟨#[]⟩, .int .i64 0, .bool false] ∧ Bk wx K [.string d1, .int .i64 d2, .bool false] ∧ Below w.heap.size w wx))
 case first =>
  go_region_held3 (fun w' => w'.cell? ⟨w.heap.size, 0, none⟩ = some (.string u) ∧ w'.cell? ⟨w.heap.size, 1, none⟩ = some (.int .i64 o) ∧ w'.cell? ⟨w.heap.size, 2, none⟩ = some (.bool false)) (simp [*, go_sem]) (first | (go_at_call 46; refine (M1 _).mono ?_; rintro p1 v1 ⟨rfl, bb⟩; first | (have G1 : Hid (Bk v1 (w.heap.size) [.string u, .int .i64 o, .bool false] ∧ Bk v1 (w.heap.size + 1) [.string ⟨#[]⟩, .int .i64 0, .bool false] ∧ Bk v1 (w.heap.size + 1 + 1) [.string ⟨#[]⟩, .int .i64 0, .bool false] ∧ Below w.heap.size w v1) := ⟨((F0.out.1).step ((Below.refl w1.heap.size w1).alloc (Nat.le_refl _) (.cells #[.string ⟨#[]⟩, .int .i64 0, .bool false] 24)).drew).step bb, ((F0.out.2.1).step ((Below.refl w1.heap.size w1).alloc (Nat.le_refl _) (.cells #[.string ⟨#[]⟩, .int .i64 0, .bool false] 24)).drew).step bb, ((F0.out.2.2.1).step ((Below.refl w1.heap.size w1).alloc (Nat.le_refl _) (.cells #[.string ⟨#[]⟩, .int .i64 0, .bool false] 24)).drew).step bb, ((F0.out.2.2.2).trans (((Below.refl w1.heap.size w1).alloc (Nat.le_refl _) (.cells #[.string ⟨#[]⟩, .int .i64 0, .bool false] 24)).drew.mono (F0.out.2.2.2).size)).trans (bb.mono ((F0.out.2.2.2).trans (((Below.refl w1.heap.size w1).alloc (Nat.le_refl _) (.cells #[.string ⟨#[]⟩, .int .i64 0, .bool false] 24)).drew.mono (F0.out.2.2.2).size)).size)⟩; have N1 : Hid (Bk v1 (w1.heap.size) [.string ⟨#[]⟩, .int .i64 0, .bool false]) := ((Bk.new3 w1 _ _ _ 24).step (Below.refl _ _).drew).step bb; clear bb; have d1_0 := (G1.out.1).lt; have d1_0_0 := (G1.out.1).cell 0 _ rfl; have e1_0_0 := (G1.out.1).fz 0; have d1_0_1 := (G1.out.1).cell 1 _ rfl; have e1_0_1 := (G1.out.1).fz 1; have d1_0_2 := (G1.out.1).cell 2 _ rfl; have e1_0_2 := (G1.out.1).fz 2; have d1_1 := (G1.out.2.1).lt; have d1_1_0 := (G1.out.2.1).cell 0 _ rfl; have e1_1_0 := (G1.out.2.1).fz 0; have d1_1_1 := (G1.out.2.1).cell 1 _ rfl; have e1_1_1 := (G1.out.2.1).fz 1; have d1_1_2 := (G1.out.2.1).cell 2 _ rfl; have e1_1_2 := (G1.out.2.1).fz 2; have d1_2 := (G1.out.2.2.1).lt; have d1_2_0 := (G1.out.2.2.1).cell 0 _ rfl; have e1_2_0 := (G1.out.2.2.1).fz 0; have d1_2_1 := (G1.out.2.2.1).cell 1 _ rfl; have e1_2_1 := (G1.out.2.2.1).fz 1; have d1_2_2 := (G1.out.2.2.1).cell 2 _ rfl; have e1_2_2 := (G1.out.2.2.1).fz 2; have n1 := N1.out.lt; have n1_0 := N1.out.cell 0 _ rfl; have n1_1 := N1.out.cell 1 _ rfl; have n1_2 := N1.out.cell 2 _ rfl; have m1_0 := N1.out.fz 0; have m1_1 := N1.out.fz 1; have m1_2 := N1.out.fz 2) | (have G1 : Hid (Bk v1 (w.heap.size) [.string u, .int .i64 o, .bool false] ∧ Bk v1 (w.heap.size + 1) [.string ⟨#[]⟩, .int .i64 0, .bool false] ∧ Bk v1 (w.heap.size + 1 + 1) [.string ⟨#[]⟩, .int .i64 0, .bool false] ∧ Below w.heap.size w v1) := ⟨((F0.out.1).step ((Below.refl w1.heap.size w1).drew)).step bb, ((F0.out.2.1).step ((Below.refl w1.heap.size w1).drew)).step bb, ((F0.out.2.2.1).step ((Below.refl w1.heap.size w1).drew)).step bb, ((F0.out.2.2.2).trans (((Below.refl w1.heap.size w1).drew).mono (F0.out.2.2.2).size)).trans (bb.mono ((F0.out.2.2.2).trans (((Below.refl w1.heap.size w1).drew).mono (F0.out.2.2.2).size)).size)⟩; clear bb; have d1_0 := (G1.out.1).lt; have d1_0_0 := (G1.out.1).cell 0 _ rfl; have e1_0_0 := (G1.out.1).fz 0; have d1_0_1 := (G1.out.1).cell 1 _ rfl; have e1_0_1 := (G1.out.1).fz 1; have d1_0_2 := (G1.out.1).cell 2 _ rfl; have e1_0_2 := (G1.out.1).fz 2; have d1_1 := (G1.out.2.1).lt; have d1_1_0 := (G1.out.2.1).cell 0 _ rfl; have e1_1_0 := (G1.out.2.1).fz 0; have d1_1_1 := (G1.out.2.1).cell 1 _ rfl; have e1_1_1 := (G1.out.2.1).fz 1; have d1_1_2 := (G1.out.2.1).cell 2 _ rfl; have e1_1_2 := (G1.out.2.1).fz 2; have d1_2 := (G1.out.2.2.1).lt; have d1_2_0 := (G1.out.2.2.1).cell 0 _ rfl; have e1_2_0 := (G1.out.2.2.1).fz 0; have d1_2_1 := (G1.out.2.2.1).cell 1 _ rfl; have e1_2_1 := (G1.out.2.2.1).fz 1; have d1_2_2 := (G1.out.2.2.1).cell 2 _ rfl; have e1_2_2 := (G1.out.2.2.1).fz 2)))
  all_goals go_wp2
  all_goals go_meet
  all_goals refine ⟨_, rfl, by omega, ?_⟩
  all_goals show (_ ∧ _)
  all_goals first | exact ⟨(G1.out.1).step ((Below.refl _ _).alloc (Nat.le_refl _) _), (G1.out.2.1).step ((Below.refl _ _).alloc (Nat.le_refl _) _), (G1.out.2.2.1).step ((Below.refl _ _).alloc (Nat.le_refl _) _), Bk.new3 v1 _ _ _ _, (G1.out.2.2.2).alloc (G1.out.2.2.2).size _⟩ | exact ⟨(((G1.out.1).setC (by omega) 0 _).setC (by omega) 1 _).setC (by omega) 2 _, (((G1.out.2.1).setC (by omega) 0 _).setC (by omega) 1 _).setC (by omega) 2 _, (((G1.out.2.2.1).setC (by omega) 0 _).setC (by omega) 1 _).setC (by omega) 2 _, N1.out.fill3 _ _ _, (((G1.out.2.2.2).setCell (by show w.heap.size ≤ w1.heap.size; omega) _).setCell (by show w.heap.size ≤ w1.heap.size; omega) _).setCell (by show w.heap.size ≤ w1.heap.size; omega) _⟩
 case rest =>
 obtain ⟨K, rfl, hK, HC⟩ := hcut
 clear F0 M1
 have F60 : Hid (Bk wc (w.heap.size) [.string u, .int .i64 o, .bool false] ∧ Bk wc (w.heap.size + 1) [.string ⟨#[]⟩, .int .i64 0, .bool false] ∧ Bk wc (w.heap.size + 1 + 1) [.string ⟨#[]⟩, .int .i64 0, .bool false] ∧ Bk wc K [.string d1, .int .i64 d2, .bool false] ∧ Below w.heap.size w wc) := HC
 clear HC
 have l11_0 := F60.out.1.lt
 have a11_0_0 := F60.out.1.cell 0 _ rfl
 have f11_0_0 := F60.out.1.fz 0
 have a11_0_1 := F60.out.1.cell 1 _ rfl
 have f11_0_1 := F60.out.1.fz 1
 have a11_0_2 := F60.out.1.cell 2 _ rfl
 have f11_0_2 := F60.out.1.fz 2
 have l11_1 := F60.out.2.1.lt
 have a11_1_0 := F60.out.2.1.cell 0 _ rfl
 have f11_1_0 := F60.out.2.1.fz 0
 have a11_1_1 := F60.out.2.1.cell 1 _ rfl
 have f11_1_1 := F60.out.2.1.fz 1
 have a11_1_2 := F60.out.2.1.cell 2 _ rfl
 have f11_1_2 := F60.out.2.1.fz 2
 have l11_2 := F60.out.2.2.1.lt
 have a11_2_0 := F60.out.2.2.1.cell 0 _ rfl
 have f11_2_0 := F60.out.2.2.1.fz 0
 have a11_2_1 := F60.out.2.2.1.cell 1 _ rfl
 have f11_2_1 := F60.out.2.2.1.fz 1
 have a11_2_2 := F60.out.2.2.1.cell 2 _ rfl
 have f11_2_2 := F60.out.2.2.1.fz 2
 go_upto_region 6 with fail
 have ne1 : ¬ w.heap.size = w.heap.size + 1 := by omega
 have ne2 : ¬ w.heap.size = w.heap.size + 1 + 1 := by omega
 have ne3 : ¬ w.heap.size + 1 = w.heap.size + 1 + 1 := by omega
 go_region_held3 (fun w' => w'.cell? ⟨w.heap.size, 0, none⟩ = some (.string u) ∧ w'.cell? ⟨w.heap.size, 1, none⟩ = some (.int .i64 o) ∧ w'.cell? ⟨w.heap.size, 2, none⟩ = some (.bool false)) (simp [*, go_sem, World.cell?_setCell_other]) (fail)
 all_goals go_wp2
 all_goals
  refine bodyPost_ret (v := .tuple #[.agg #[.string u, .int .i64 o, .bool false], .agg #[.string u, .int .i64 o, .bool false]]) (by simp [results, Tryz.results34, go_sem, World.cell?_setCell_same, World.cell?_setCell_other, *]) rfl ⟨rfl, ?_⟩
  refine Below.drew ?_
  repeat (first | refine Below.setCell ?_ (by first | exact Nat.le_refl _ | (dsimp only; omega)) _ | refine Below.alloc ?_ (by first | exact Nat.le_refl _ | omega | (simp; omega)) _ | refine Below.drew ?_)
  exact F60.out.2.2.2.2
theorem rrd_cut {u d1 e1 : ByteArray} {o d2 e2 k1 k2 : Int} {n k : Nat} (hs : u.size ≤ 800) (hd : DG u) (ho : -1099511627776 ≤ o) (ho2 : o ≤ 1099511627776) (hn : n < u.size) (kn : k ≤ n) (h9 : ∀ i, k ≤ i → i < n → dgt u i = 57) (hk : 0 < k → dgt u (k - 1) ≠ 57) (M1 : ∀ W, Calls Tryz.prog 46 #[.string (u.extract 0 n), .int .i64 o, .bool false] W fun e w' => e = .returned (.tuple #[.agg #[.string d1, .int .i64 d2, .bool false], .int .i64 k1]) ∧ Below W.heap.size W w') (M2 : ∀ v : ByteArray, v.size = n + 1 → (∀ i, i < n + 1 → dgt v i = incT u k i) → ∀ W, Calls Tryz.prog 46 #[.string v, .int .i64 (o + 1), .bool false] W fun e w' => e = .returned (.tuple #[.agg #[.string e1, .int .i64 e2, .bool false], .int .i64 k2]) ∧ Below W.heap.size W w') (w : World) :
 Calls Tryz.prog 34 #[.agg #[.string u, .int .i64 o, .bool false], .int .i64 (n : Int)] w fun x w' => x = .returned (.tuple #[.agg #[.string d1, .int .i64 d2, .bool false], .agg #[.string e1, .int .i64 e2, .bool false]]) ∧ Below w.heap.size w w' := by
 have he : u.toList.isEmpty = false := empty_false (by omega)
 have n0 : ¬ (n : Int) < 0 := by omega
 have nl : (n : Int) ≤ (u.size : Int) := by omega
 have nn : ¬ (n : Int) = (u.size : Int) := by omega
 have sz : (u.size : Int) ≤ 9223372036854775807 := by omega
 have ni : ((n : Int)).toNat = n := by omega
 have HP : Hid ((∀ i, k ≤ i → i < n → dgt u i = 57) ∧ (0 < k → dgt u (k - 1) ≠ 57) ∧ k ≤ n ∧ DG u ∧ n < u.size ∧ u.size ≤ 800) := ⟨h9, hk, kn, hd, hn, hs⟩
 have HM2 : Hid (∀ v : ByteArray, v.size = n + 1 → (∀ i, i < n + 1 → dgt v i = incT u k i) → ∀ W, Calls Tryz.prog 46 #[.string v, .int .i64 (o + 1), .bool false] W fun e w' => e = .returned (.tuple #[.agg #[.string e1, .int .i64 e2, .bool false], .int .i64 k2]) ∧ Below W.heap.size W w') := M2
 clear h9 hk kn hd hn hs M2
 have F0 : Hid (Bk (((w.alloc (.cells #[.string u, .int .i64 o, .bool false] 24)).alloc (.cells #[.string ⟨#[]⟩, .int .i64 0, .bool false] 24)).alloc (.cells #[.string ⟨#[]⟩, .int .i64 0, .bool false] 24)) (w.heap.size) [.string u, .int .i64 o, .bool false] ∧ Bk (((w.alloc (.cells #[.string u, .int .i64 o, .bool false] 24)).alloc (.cells #[.string ⟨#[]⟩, .int .i64 0, .bool false] 24)).alloc (.cells #[.string ⟨#[]⟩, .int .i64 0, .bool false] 24)) (w.heap.size + 1) [.string ⟨#[]⟩, .int .i64 0, .bool false] ∧ Bk (((w.alloc (.cells #[.string u, .int .i64 o, .bool false] 24)).alloc (.cells #[.string ⟨#[]⟩, .int .i64 0, .bool false] 24)).alloc (.cells #[.string ⟨#[]⟩, .int .i64 0, .bool false] 24)) (w.heap.size + 1 + 1) [.string ⟨#[]⟩, .int .i64 0, .bool false] ∧ Below w.heap.size w (((w.alloc (.cells #[.string u, .int .i64 o, .bool false] 24)).alloc (.cells #[.string ⟨#[]⟩, .int .i64 0, .bool false] 24)).alloc (.cells #[.string ⟨#[]⟩, .int .i64 0, .bool false] 24))) := ⟨((Bk.new3 w (.string u) (.int .i64 o) (.bool false) 24).step ((Below.refl _ _).alloc (Nat.le_refl _) _)).step ((Below.refl _ _).alloc (Nat.le_refl _) _), (((by have q := Bk.new3 (w.alloc (.cells #[.string u, .int .i64 o, .bool false] 24)) (.string ⟨#[]⟩) (.int .i64 0) (.bool false) 24; simpa using q) : Bk ((w.alloc (.cells #[.string u, .int .i64 o, .bool false] 24)).alloc (.cells #[.string ⟨#[]⟩, .int .i64 0, .bool false] 24)) (w.heap.size + 1) [.string ⟨#[]⟩, .int .i64 0, .bool false])).step ((Below.refl _ _).alloc (Nat.le_refl _) _), ((by have q := Bk.new3 ((w.alloc (.cells #[.string u, .int .i64 o, .bool false] 24)).alloc (.cells #[.string ⟨#[]⟩, .int .i64 0, .bool false] 24)) (.string ⟨#[]⟩) (.int .i64 0) (.bool false) 24; simpa using q) : Bk (((w.alloc (.cells #[.string u, .int .i64 o, .bool false] 24)).alloc (.cells #[.string ⟨#[]⟩, .int .i64 0, .bool false] 24)).alloc (.cells #[.string ⟨#[]⟩, .int .i64 0, .bool false] 24)) (w.heap.size + 1 + 1) [.string ⟨#[]⟩, .int .i64 0, .bool false]), ((((Below.refl w.heap.size w)).alloc (Nat.le_refl _) _).alloc ((((Below.refl w.heap.size w)).alloc (Nat.le_refl _) _).size) _).alloc (((((Below.refl w.heap.size w)).alloc (Nat.le_refl _) _).alloc ((((Below.refl w.heap.size w)).alloc (Nat.le_refl _) _).size) _).size) _⟩
 go_enter Tryz.func34, Tryz.ntmps34
 go_upto_region 1 with fail
 generalize (((w.alloc (.cells #[.string u, .int .i64 o, .bool false] 24)).alloc (.cells #[.string ⟨#[]⟩, .int .i64 0, .bool false] 24)).alloc (.cells #[.string ⟨#[]⟩, .int .i64 0, .bool false] 24)) = w1 at *
 have l1_0 := F0.out.1.lt
 have a1_0_0 := F0.out.1.cell 0 _ rfl
 have f1_0_0 := F0.out.1.fz 0
 have a1_0_1 := F0.out.1.cell 1 _ rfl
 have f1_0_1 := F0.out.1.fz 1
 have a1_0_2 := F0.out.1.cell 2 _ rfl
 have f1_0_2 := F0.out.1.fz 2
 have l1_1 := F0.out.2.1.lt
 have a1_1_0 := F0.out.2.1.cell 0 _ rfl
 have f1_1_0 := F0.out.2.1.fz 0
 have a1_1_1 := F0.out.2.1.cell 1 _ rfl
 have f1_1_1 := F0.out.2.1.fz 1
 have a1_1_2 := F0.out.2.1.cell 2 _ rfl
 have f1_1_2 := F0.out.2.1.fz 2
 have l1_2 := F0.out.2.2.1.lt
 have a1_2_0 := F0.out.2.2.1.cell 0 _ rfl
 have f1_2_0 := F0.out.2.2.1.fz 0
 have a1_2_1 := F0.out.2.2.1.cell 1 _ rfl
 have f1_2_1 := F0.out.2.2.1.fz 1
 have a1_2_2 := F0.out.2.2.1.cell 2 _ rfl
 have f1_2_2 := F0.out.2.2.1.fz 2
 have ne1_0_1 : ¬ w.heap.size = w.heap.size + 1 := by omega
 have ne1_0_2 : ¬ w.heap.size = w.heap.size + 1 + 1 := by omega
 have ne1_1_0 : ¬ w.heap.size + 1 = w.heap.size := by omega
 have ne1_1_2 : ¬ w.heap.size + 1 = w.heap.size + 1 + 1 := by omega
 have ne1_2_0 : ¬ w.heap.size + 1 + 1 = w.heap.size := by omega
 have ne1_2_1 : ¬ w.heap.size + 1 + 1 = w.heap.size + 1 := by omega
 go_upto_region 4 with fail
 go_cut [6, 7] from 26 to 35 (fun bv kv wx => ∃ K : Nat, bv = .pointer (some ⟨K, 0, none⟩) ∧ w.heap.size + 1 + 1 < K ∧ Hid (Bk wx (w.heap.size) [.string u, .int .i64 o, .bool false] ∧ Bk wx (w.heap.size + 1) [.string ⟨#[]⟩, .int .i64 0, .bool false] ∧ Bk wx (w.heap.size + 1 + 1) [.string ⟨#[]⟩, .int .i64 0, .bool false] ∧ Bk wx K [.string d1, .int .i64 d2, .bool false] ∧ Below w.heap.size w wx))
 case first =>
  go_region_held3 (fun w' => w'.cell? ⟨w.heap.size, 0, none⟩ = some (.string u) ∧ w'.cell? ⟨w.heap.size, 1, none⟩ = some (.int .i64 o) ∧ w'.cell? ⟨w.heap.size, 2, none⟩ = some (.bool false)) (simp [*, go_sem]) (first | (go_at_call 46; refine (M1 _).mono ?_; rintro p1 v1 ⟨rfl, bb⟩; first | (have G1 : Hid (Bk v1 (w.heap.size) [.string u, .int .i64 o, .bool false] ∧ Bk v1 (w.heap.size + 1) [.string ⟨#[]⟩, .int .i64 0, .bool false] ∧ Bk v1 (w.heap.size + 1 + 1) [.string ⟨#[]⟩, .int .i64 0, .bool false] ∧ Below w.heap.size w v1) := ⟨((F0.out.1).step ((Below.refl w1.heap.size w1).alloc (Nat.le_refl _) (.cells #[.string ⟨#[]⟩, .int .i64 0, .bool false] 24)).drew).step bb, ((F0.out.2.1).step ((Below.refl w1.heap.size w1).alloc (Nat.le_refl _) (.cells #[.string ⟨#[]⟩, .int .i64 0, .bool false] 24)).drew).step bb, ((F0.out.2.2.1).step ((Below.refl w1.heap.size w1).alloc (Nat.le_refl _) (.cells #[.string ⟨#[]⟩, .int .i64 0, .bool false] 24)).drew).step bb, ((F0.out.2.2.2).trans (((Below.refl w1.heap.size w1).alloc (Nat.le_refl _) (.cells #[.string ⟨#[]⟩, .int .i64 0, .bool false] 24)).drew.mono (F0.out.2.2.2).size)).trans (bb.mono ((F0.out.2.2.2).trans (((Below.refl w1.heap.size w1).alloc (Nat.le_refl _) (.cells #[.string ⟨#[]⟩, .int .i64 0, .bool false] 24)).drew.mono (F0.out.2.2.2).size)).size)⟩; have N1 : Hid (Bk v1 (w1.heap.size) [.string ⟨#[]⟩, .int .i64 0, .bool false]) := ((Bk.new3 w1 _ _ _ 24).step (Below.refl _ _).drew).step bb; clear bb; have d1_0 := (G1.out.1).lt; have d1_0_0 := (G1.out.1).cell 0 _ rfl; have e1_0_0 := (G1.out.1).fz 0; have d1_0_1 := (G1.out.1).cell 1 _ rfl; have e1_0_1 := (G1.out.1).fz 1; have d1_0_2 := (G1.out.1).cell 2 _ rfl; have e1_0_2 := (G1.out.1).fz 2; have d1_1 := (G1.out.2.1).lt; have d1_1_0 := (G1.out.2.1).cell 0 _ rfl; have e1_1_0 := (G1.out.2.1).fz 0; have d1_1_1 := (G1.out.2.1).cell 1 _ rfl; have e1_1_1 := (G1.out.2.1).fz 1; have d1_1_2 := (G1.out.2.1).cell 2 _ rfl; have e1_1_2 := (G1.out.2.1).fz 2; have d1_2 := (G1.out.2.2.1).lt; have d1_2_0 := (G1.out.2.2.1).cell 0 _ rfl; have e1_2_0 := (G1.out.2.2.1).fz 0; have d1_2_1 := (G1.out.2.2.1).cell 1 _ rfl; have e1_2_1 := (G1.out.2.2.1).fz 1; have d1_2_2 := (G1.out.2.2.1).cell 2 _ rfl; have e1_2_2 := (G1.out.2.2.1).fz 2; have n1 := N1.out.lt; have n1_0 := N1.out.cell 0 _ rfl; have n1_1 := N1.out.cell 1 _ rfl; have n1_2 := N1.out.cell 2 _ rfl; have m1_0 := N1.out.fz 0; have m1_1 := N1.out.fz 1; have m1_2 := N1.out.fz 2) | (have G1 : Hid (Bk v1 (w.heap.size) [.string u, .int .i64 o, .bool false] ∧ Bk v1 (w.heap.size + 1) [.string ⟨#[]⟩, .int .i64 0, .bool false] ∧ Bk v1 (w.heap.size + 1 + 1) [.string ⟨#[]⟩, .int .i64 0, .bool false] ∧ Below w.heap.size w v1) := ⟨((F0.out.1).step ((Below.refl w1.heap.size w1).drew)).step bb, ((F0.out.2.1).step ((Below.refl w1.heap.size w1).drew)).step bb, ((F0.out.2.2.1).step ((Below.refl w1.heap.size w1).drew)).step bb, ((F0.out.2.2.2).trans (((Below.refl w1.heap.size w1).drew).mono (F0.out.2.2.2).size)).trans (bb.mono ((F0.out.2.2.2).trans (((Below.refl w1.heap.size w1).drew).mono (F0.out.2.2.2).size)).size)⟩; clear bb; have d1_0 := (G1.out.1).lt; have d1_0_0 := (G1.out.1).cell 0 _ rfl; have e1_0_0 := (G1.out.1).fz 0; have d1_0_1 := (G1.out.1).cell 1 _ rfl; have e1_0_1 := (G1.out.1).fz 1; have d1_0_2 := (G1.out.1).cell 2 _ rfl; have e1_0_2 := (G1.out.1).fz 2; have d1_1 := (G1.out.2.1).lt; have d1_1_0 := (G1.out.2.1).cell 0 _ rfl; have e1_1_0 := (G1.out.2.1).fz 0; have d1_1_1 := (G1.out.2.1).cell 1 _ rfl; have e1_1_1 := (G1.out.2.1).fz 1; have d1_1_2 := (G1.out.2.1).cell 2 _ rfl; have e1_1_2 := (G1.out.2.1).fz 2; have d1_2 := (G1.out.2.2.1).lt; have d1_2_0 := (G1.out.2.2.1).cell 0 _ rfl; have e1_2_0 := (G1.out.2.2.1).fz 0; have d1_2_1 := (G1.out.2.2.1).cell 1 _ rfl; have e1_2_1 := (G1.out.2.2.1).fz 1; have d1_2_2 := (G1.out.2.2.1).cell 2 _ rfl; have e1_2_2 := (G1.out.2.2.1).fz 2)))
  all_goals go_wp2
  all_goals go_meet
  all_goals refine ⟨_, rfl, by omega, ?_⟩
  all_goals show (_ ∧ _)
  all_goals first | exact ⟨(G1.out.1).step ((Below.refl _ _).alloc (Nat.le_refl _) _), (G1.out.2.1).step ((Below.refl _ _).alloc (Nat.le_refl _) _), (G1.out.2.2.1).step ((Below.refl _ _).alloc (Nat.le_refl _) _), Bk.new3 v1 _ _ _ _, (G1.out.2.2.2).alloc (G1.out.2.2.2).size _⟩ | exact ⟨(((G1.out.1).setC (by omega) 0 _).setC (by omega) 1 _).setC (by omega) 2 _, (((G1.out.2.1).setC (by omega) 0 _).setC (by omega) 1 _).setC (by omega) 2 _, (((G1.out.2.2.1).setC (by omega) 0 _).setC (by omega) 1 _).setC (by omega) 2 _, N1.out.fill3 _ _ _, (((G1.out.2.2.2).setCell (by show w.heap.size ≤ w1.heap.size; omega) _).setCell (by show w.heap.size ≤ w1.heap.size; omega) _).setCell (by show w.heap.size ≤ w1.heap.size; omega) _⟩
 case rest =>
 obtain ⟨K, rfl, hK, HC⟩ := hcut
 clear F0 M1
 have F60 : Hid (Bk wc (w.heap.size) [.string u, .int .i64 o, .bool false] ∧ Bk wc (w.heap.size + 1) [.string ⟨#[]⟩, .int .i64 0, .bool false] ∧ Bk wc (w.heap.size + 1 + 1) [.string ⟨#[]⟩, .int .i64 0, .bool false] ∧ Bk wc K [.string d1, .int .i64 d2, .bool false] ∧ Below w.heap.size w wc) := HC
 clear HC
 have l11_0 := F60.out.1.lt
 have a11_0_0 := F60.out.1.cell 0 _ rfl
 have f11_0_0 := F60.out.1.fz 0
 have a11_0_1 := F60.out.1.cell 1 _ rfl
 have f11_0_1 := F60.out.1.fz 1
 have a11_0_2 := F60.out.1.cell 2 _ rfl
 have f11_0_2 := F60.out.1.fz 2
 have l11_1 := F60.out.2.1.lt
 have a11_1_0 := F60.out.2.1.cell 0 _ rfl
 have f11_1_0 := F60.out.2.1.fz 0
 have a11_1_1 := F60.out.2.1.cell 1 _ rfl
 have f11_1_1 := F60.out.2.1.fz 1
 have a11_1_2 := F60.out.2.1.cell 2 _ rfl
 have f11_1_2 := F60.out.2.1.fz 2
 have l11_2 := F60.out.2.2.1.lt
 have a11_2_0 := F60.out.2.2.1.cell 0 _ rfl
 have f11_2_0 := F60.out.2.2.1.fz 0
 have a11_2_1 := F60.out.2.2.1.cell 1 _ rfl
 have f11_2_1 := F60.out.2.2.1.fz 1
 have a11_2_2 := F60.out.2.2.1.cell 2 _ rfl
 have f11_2_2 := F60.out.2.2.1.fz 2
 go_upto_region 7 with fail
 obtain ⟨t, ht⟩ : ∃ t, t = (⟨#[48]⟩ ++ u.extract 0 n : ByteArray) := ⟨_, rfl⟩
 obtain ⟨ts, td⟩ := dgt_zero_app ht (by have := HP.out.2.2.2.2.1; omega)
 obtain ⟨W1, C, hcv, hC1, hC2, hbW, R0⟩ := conv_row wc t (by have := HP.out.2.2.2.2.2; have := HP.out.2.2.2.2.1; omega)
 rw [ts] at hcv hC1 R0
 have HT : Hid (∀ i, i < n + 1 → dgt t i = zeroT u i) := td
 rw [ht] at hcv
 have lex := pre_size (s := u) (k := n) (by have := HP.out.2.2.2.2.1; omega)
 go_wp2_with fail
 have lk0 := (F60.out.1).lt
 have lk1 := (F60.out.2.1).lt
 have lk2 := (F60.out.2.2.1).lt
 have lk3 := (F60.out.2.2.2.1).lt
 have lw := (F60.out.2.2.2.2).size
 have IB : Hid (Bk W1 (w.heap.size) [.string u, .int .i64 o, .bool false] ∧ Bk W1 (w.heap.size + 1) [.string ⟨#[]⟩, .int .i64 0, .bool false] ∧ Bk W1 (w.heap.size + 1 + 1) [.string ⟨#[]⟩, .int .i64 0, .bool false] ∧ Bk W1 (K) [.string d1, .int .i64 d2, .bool false] ∧ BR W1 (wc.heap.size) (n + 1) (dgt t) ∧ Below w.heap.size w W1) := ⟨(F60.out.1).step hbW, (F60.out.2.1).step hbW, (F60.out.2.2.1).step hbW, (F60.out.2.2.2.1).step hbW, R0, (F60.out.2.2.2.2).trans (hbW.mono (F60.out.2.2.2.2).size)⟩
 clear l11_0 a11_0_0 f11_0_0 a11_0_1 f11_0_1 a11_0_2 f11_0_2 l11_1 a11_1_0 f11_1_0 a11_1_1 f11_1_1 a11_1_2 f11_1_2 l11_2 a11_2_0 f11_2_0 a11_2_1 f11_2_1 a11_2_2 f11_2_2 F60 R0 hbW hcv
 go_loopw [9] (fun iv wr => ∃ (j : Nat) (F : Nat → Nat), iv = .int .i64 (j : Int) ∧ k ≤ j ∧ j ≤ n ∧ Hid (Bk wr (w.heap.size) [.string u, .int .i64 o, .bool false] ∧ Bk wr (w.heap.size + 1) [.string ⟨#[]⟩, .int .i64 0, .bool false] ∧ Bk wr (w.heap.size + 1 + 1) [.string ⟨#[]⟩, .int .i64 0, .bool false] ∧ Bk wr (K) [.string d1, .int .i64 d2, .bool false] ∧ BR wr (wc.heap.size) (n + 1) F ∧ Below w.heap.size w wr) ∧ Hid ((∀ i, i ≤ j → F i = zeroT u i) ∧ (∀ i, j < i → i < n + 1 → F i = 48))) (fun iv _ => (intOf iv).toNat)
 case atStart => exact ⟨n, dgt t, rfl, HP.out.2.2.1, Nat.le_refl _, IB.out, fun i hi => HT.out i (by omega), fun i a b => absurd a (by omega)⟩
 case round =>
  obtain ⟨j, F, rfl, hkj, hjn, HB, HF⟩ := hrel
  clear IB
  have ix : ((j : Int)).toNat = j := by omega
  have hg := HB.out.2.2.2.2.1.lt
  by_cases c1 : k < j
  · have e9 : F j = 57 := by
     rw [HF.out.1 j (Nat.le_refl _)]
     unfold zeroT
     rw [if_neg (by omega)]
     exact HP.out.1 (j - 1) (by omega) (by omega)
    have hc := HB.out.2.2.2.2.1.row.cell j (by omega)
    have hf := HB.out.2.2.2.2.1.row.fr j (by omega)
    rw [e9] at hc
    clear e9
    go_wp2
    go_roundw
    case rel =>
     refine ⟨j - 1, putF F j 48, by go_num, by omega, by omega, ⟨(HB.out.1).setC (by omega) _ _, (HB.out.2.1).setC (by omega) _ _, (HB.out.2.2.1).setC (by omega) _ _, (HB.out.2.2.2.1).setC (by omega) _ _, (HB.out.2.2.2.2.1).set (by omega) 48, (HB.out.2.2.2.2.2).setCell (by show w.heap.size ≤ wc.heap.size; omega) _⟩, fun i hi => ?_, fun i a b => ?_⟩
     · unfold putF
       rw [if_neg (by omega)]
       exact HF.out.1 i (by omega)
     · unfold putF
       by_cases z : i = j
       · rw [if_pos z]
       · rw [if_neg z]; exact HF.out.2 i (by omega) b
    case measure => simp [intOf]; omega
  · obtain rfl : j = k := by omega
    obtain ⟨y, hy⟩ : ∃ y, y = zeroT u j := ⟨_, rfl⟩
    have ey : F j = y := (HF.out.1 j (Nat.le_refl _)).trans hy.symm
    have hc := HB.out.2.2.2.2.1.row.cell j (by omega)
    have hf := HB.out.2.2.2.2.1.row.fr j (by omega)
    rw [ey] at hc
    have y9 : y < 57 := by
     rw [hy]
     unfold zeroT
     by_cases z : j = 0
     · rw [if_pos z]; omega
     · rw [if_neg z]
       have := HP.out.2.1 (by omega)
       have := dgt_in HP.out.2.2.2.1 (j - 1)
       omega
    have HYY : Hid (y = zeroT u j) := hy
    have e9 : ((y : Int) == 57) = false := beq_eq_false_iff_ne.mpr (by omega)
    obtain ⟨y1, hy1⟩ : ∃ y1, y1 = y + 1 := ⟨_, rfl⟩
    have HY1 : Hid (y1 = y + 1) := hy1
    have wx : IntKind.u8.wrap ((y : Int) + 1) = (y1 : Int) := by
     rw [hy1]
     unfold IntKind.wrap
     simp [IntKind.bits, IntKind.signed]
     omega
    clear hy ey hy1
    have RB := (HB.out.2.2.2.2.1).set (i := j) (by omega) y1
    obtain ⟨v, vs, vd, vc⟩ := row_text (C := C) RB (fun i hi => by
     unfold putF
     split
     · have := HY1.out; omega
     · rcases Nat.lt_or_ge i j with q | q
       · rw [HF.out.1 i (by omega)]
         unfold zeroT
         split
         · omega
         · have := dgt_in HP.out.2.2.2.1 (i - 1); omega
       · rw [HF.out.2 i (by omega) hi]; omega)
    have vcv := vc _ (fun i _ => rfl)
    have HV : Hid (∀ i, i < n + 1 → dgt v i = incT u j i) := fun i hi => by
     rw [vd i hi]
     unfold putF incT
     by_cases z : i = j
     · rw [if_pos z, if_neg (by omega), if_pos z, HY1.out, HYY.out]
     · rw [if_neg z]
       by_cases q : i < j
       · rw [if_pos q]; exact HF.out.1 i (by omega)
       · rw [if_neg q, if_neg z]; exact HF.out.2 i (by omega) hi
    have MM := HM2.out v vs HV.out
    have wo : IntKind.i64.wrap (o + 1) = o + 1 := by
     unfold IntKind.wrap
     simp [IntKind.bits, IntKind.signed]
     omega
    have F70 : Hid (Bk (wr.setCell ⟨wc.heap.size, j, none⟩ (.int .u8 (y1 : Int))) (w.heap.size) [.string u, .int .i64 o, .bool false] ∧ Bk (wr.setCell ⟨wc.heap.size, j, none⟩ (.int .u8 (y1 : Int))) (w.heap.size + 1) [.string ⟨#[]⟩, .int .i64 0, .bool false] ∧ Bk (wr.setCell ⟨wc.heap.size, j, none⟩ (.int .u8 (y1 : Int))) (w.heap.size + 1 + 1) [.string ⟨#[]⟩, .int .i64 0, .bool false] ∧ Bk (wr.setCell ⟨wc.heap.size, j, none⟩ (.int .u8 (y1 : Int))) (K) [.string d1, .int .i64 d2, .bool false] ∧ Below w.heap.size w (wr.setCell ⟨wc.heap.size, j, none⟩ (.int .u8 (y1 : Int)))) := ⟨(HB.out.1).setC (by omega) _ _, (HB.out.2.1).setC (by omega) _ _, (HB.out.2.2.1).setC (by omega) _ _, (HB.out.2.2.2.1).setC (by omega) _ _, (HB.out.2.2.2.2.2).setCell (by show w.heap.size ≤ wc.heap.size; omega) _⟩
    clear RB vc vd
    go_upto_region 13 with fail
    generalize (wr.setCell ⟨wc.heap.size, j, none⟩ (.int .u8 (y1 : Int))) = w71 at *
    have hco := (F70.out.1).cell 1 _ rfl
    go_wp2_with fail
    all_goals first | (exfalso; omega) | skip
    refine (MM _).mono ?_
    rintro o72 w72 ⟨rfl, bb⟩
    have F71 : Hid (Bk w72 (w.heap.size) [.string u, .int .i64 o, .bool false] ∧ Bk w72 (w.heap.size + 1) [.string ⟨#[]⟩, .int .i64 0, .bool false] ∧ Bk w72 (w.heap.size + 1 + 1) [.string ⟨#[]⟩, .int .i64 0, .bool false] ∧ Bk w72 (K) [.string d1, .int .i64 d2, .bool false] ∧ Below w.heap.size w w72) := ⟨(F70.out.1).step bb, (F70.out.2.1).step bb, (F70.out.2.2.1).step bb, (F70.out.2.2.2.1).step bb, (F70.out.2.2.2.2).trans (bb.mono (F70.out.2.2.2.2).size)⟩
    clear F70
    clear bb
    clear hco vcv
    have lt0_4 := (F71.out.1).lt
    have lt1_4 := (F71.out.2.1).lt
    have lt2_4 := (F71.out.2.2.1).lt
    have lt3_4 := (F71.out.2.2.2.1).lt
    have le4 := (F71.out.2.2.2.2).size
    have F72 : Hid (Bk (w72.alloc (.cells #[.string e1, .int .i64 e2, .bool false] 24)) (w.heap.size) [.string u, .int .i64 o, .bool false] ∧ Bk (w72.alloc (.cells #[.string e1, .int .i64 e2, .bool false] 24)) (w.heap.size + 1) [.string ⟨#[]⟩, .int .i64 0, .bool false] ∧ Bk (w72.alloc (.cells #[.string e1, .int .i64 e2, .bool false] 24)) (w.heap.size + 1 + 1) [.string ⟨#[]⟩, .int .i64 0, .bool false] ∧ Bk (w72.alloc (.cells #[.string e1, .int .i64 e2, .bool false] 24)) (K) [.string d1, .int .i64 d2, .bool false] ∧ Bk (w72.alloc (.cells #[.string e1, .int .i64 e2, .bool false] 24)) (w72.heap.size) [.string e1, .int .i64 e2, .bool false] ∧ Below w.heap.size w (w72.alloc (.cells #[.string e1, .int .i64 e2, .bool false] 24))) := ⟨(F71.out.1).step ((Below.refl _ _).alloc (Nat.le_refl _) _), (F71.out.2.1).step ((Below.refl _ _).alloc (Nat.le_refl _) _), (F71.out.2.2.1).step ((Below.refl _ _).alloc (Nat.le_refl _) _), (F71.out.2.2.2.1).step ((Below.refl _ _).alloc (Nat.le_refl _) _), Bk.new3 w72 (.string e1) (.int .i64 e2) (.bool false) 24, (F71.out.2.2.2.2).alloc ((F71.out.2.2.2.2).size) _⟩
    clear F71
    go_upto_region 14 with fail
    generalize (w72.alloc (.cells #[.string e1, .int .i64 e2, .bool false] 24)) = w73 at *
    have l31_0 := F72.out.1.lt
    have a31_0_0 := F72.out.1.cell 0 _ rfl
    have f31_0_0 := F72.out.1.fz 0
    have a31_0_1 := F72.out.1.cell 1 _ rfl
    have f31_0_1 := F72.out.1.fz 1
    have a31_0_2 := F72.out.1.cell 2 _ rfl
    have f31_0_2 := F72.out.1.fz 2
    have l31_1 := F72.out.2.1.lt
    have a31_1_0 := F72.out.2.1.cell 0 _ rfl
    have f31_1_0 := F72.out.2.1.fz 0
    have a31_1_1 := F72.out.2.1.cell 1 _ rfl
    have f31_1_1 := F72.out.2.1.fz 1
    have a31_1_2 := F72.out.2.1.cell 2 _ rfl
    have f31_1_2 := F72.out.2.1.fz 2
    have l31_2 := F72.out.2.2.1.lt
    have a31_2_0 := F72.out.2.2.1.cell 0 _ rfl
    have f31_2_0 := F72.out.2.2.1.fz 0
    have a31_2_1 := F72.out.2.2.1.cell 1 _ rfl
    have f31_2_1 := F72.out.2.2.1.fz 1
    have a31_2_2 := F72.out.2.2.1.cell 2 _ rfl
    have f31_2_2 := F72.out.2.2.1.fz 2
    have l31_3 := F72.out.2.2.2.1.lt
    have a31_3_0 := F72.out.2.2.2.1.cell 0 _ rfl
    have f31_3_0 := F72.out.2.2.2.1.fz 0
    have a31_3_1 := F72.out.2.2.2.1.cell 1 _ rfl
    have f31_3_1 := F72.out.2.2.2.1.fz 1
    have a31_3_2 := F72.out.2.2.2.1.cell 2 _ rfl
    have f31_3_2 := F72.out.2.2.2.1.fz 2
    have l31_4 := F72.out.2.2.2.2.1.lt
    have a31_4_0 := F72.out.2.2.2.2.1.cell 0 _ rfl
    have f31_4_0 := F72.out.2.2.2.2.1.fz 0
    have a31_4_1 := F72.out.2.2.2.2.1.cell 1 _ rfl
    have f31_4_1 := F72.out.2.2.2.2.1.fz 1
    have a31_4_2 := F72.out.2.2.2.2.1.cell 2 _ rfl
    have f31_4_2 := F72.out.2.2.2.2.1.fz 2
    have ne31_0_1 : ¬ w.heap.size = w.heap.size + 1 := by omega
    have ne31_0_2 : ¬ w.heap.size = w.heap.size + 1 + 1 := by omega
    have ne31_0_3 : ¬ w.heap.size = K := by omega
    have ne31_0_4 : ¬ w.heap.size = w72.heap.size := by omega
    have ne31_1_0 : ¬ w.heap.size + 1 = w.heap.size := by omega
    have ne31_1_2 : ¬ w.heap.size + 1 = w.heap.size + 1 + 1 := by omega
    have ne31_1_3 : ¬ w.heap.size + 1 = K := by omega
    have ne31_1_4 : ¬ w.heap.size + 1 = w72.heap.size := by omega
    have ne31_2_0 : ¬ w.heap.size + 1 + 1 = w.heap.size := by omega
    have ne31_2_1 : ¬ w.heap.size + 1 + 1 = w.heap.size + 1 := by omega
    have ne31_2_3 : ¬ w.heap.size + 1 + 1 = K := by omega
    have ne31_2_4 : ¬ w.heap.size + 1 + 1 = w72.heap.size := by omega
    have ne31_3_0 : ¬ K = w.heap.size := by omega
    have ne31_3_1 : ¬ K = w.heap.size + 1 := by omega
    have ne31_3_2 : ¬ K = w.heap.size + 1 + 1 := by omega
    have ne31_3_4 : ¬ K = w72.heap.size := by omega
    have ne31_4_0 : ¬ w72.heap.size = w.heap.size := by omega
    have ne31_4_1 : ¬ w72.heap.size = w.heap.size + 1 := by omega
    have ne31_4_2 : ¬ w72.heap.size = w.heap.size + 1 + 1 := by omega
    have ne31_4_3 : ¬ w72.heap.size = K := by omega
    go_region_held3 (fun w' => w'.cell? ⟨K, 0, none⟩ = some (.string d1) ∧ w'.cell? ⟨K, 1, none⟩ = some (.int .i64 d2) ∧ w'.cell? ⟨K, 2, none⟩ = some (.bool false) ∧ w'.cell? ⟨w72.heap.size, 0, none⟩ = some (.string e1) ∧ w'.cell? ⟨w72.heap.size, 1, none⟩ = some (.int .i64 e2) ∧ w'.cell? ⟨w72.heap.size, 2, none⟩ = some (.bool false)) (simp [*, go_sem, World.cell?_setCell_other]) (fail)
    all_goals go_wp2
    all_goals
     refine bodyPost_ret (v := .tuple #[.agg #[.string d1, .int .i64 d2, .bool false], .agg #[.string e1, .int .i64 e2, .bool false]]) (by simp [results, Tryz.results34, go_sem, World.cell?_setCell_same, World.cell?_setCell_other, *]) rfl ⟨rfl, ?_⟩
     refine Below.drew ?_
     repeat (first | refine Below.setCell ?_ (by first | exact Nat.le_refl _ | (dsimp only; omega)) _ | refine Below.alloc ?_ (by first | exact Nat.le_refl _ | omega | (simp; omega)) _ | refine Below.drew ?_)
     exact F72.out.2.2.2.2.2
def nxD (s : ByteArray) (p : Int) (k : Nat) : Dp := if k = 0 then (if p = 1099511627776 then (⟨#[]⟩, 0) else (⟨#[49]⟩, p + 1)) else (upS s k, p)
def nxK (p : Int) (k : Nat) : Int := if k = 0 ∧ p = 1099511627776 then 4 else 0
theorem inc_make {s : ByteArray} {p : Int} (hd : DG s) (hf : dgt s 0 ≠ 48) (hp : -1099511627776 ≤ p) (hp2 : p ≤ 1099511627776) {n k : Nat} (n0 : 0 < n) (hn : n ≤ 800) (kn : k ≤ n) (ks : k ≤ s.size) (k9 : 0 < k → dgt s (k - 1) ≠ 57) {v : ByteArray} (vs : v.size = n + 1) (hv : ∀ i, i < n + 1 → dgt v i = incT s k i) (W : World) :
 Calls Tryz.prog 46 #[.string v, .int .i64 (p + 1), .bool false] W fun e w' => e = .returned (.tuple #[dcV (nxD s p k).1 (nxD s p k).2 false, .int .i64 (nxK p k)]) ∧ Below W.heap.size W w' := by
 have dz : ∀ i, 48 ≤ zeroT s i ∧ zeroT s i ≤ 57 := fun i => by
  unfold zeroT
  split
  · omega
  · exact dgt_in hd _
 have dk : zeroT s k + 1 ≤ 57 := by
  have a := dz k
  unfold zeroT at a ⊢
  split
  · omega
  · rename_i c
    rw [if_neg c] at a
    have := k9 (by omega)
    omega
 have dv : DG v := fun i hi => by
  rw [← dgt_lt hi, hv i (by omega)]
  have a := dz i
  have b := dz k
  unfold incT
  split
  · exact a
  · split <;> omega
 by_cases c : k = 0
 · subst c
   have v0 : dgt v 0 = 49 := by
    rw [hv 0 (by omega)]
    unfold incT zeroT
    rw [if_neg (by omega), if_pos rfl, if_pos rfl]
   have vi : ∀ i, 1 ≤ i → i < v.size → dgt v i = 48 := fun i a b => by
    rw [hv i (by omega)]
    unfold incT
    rw [if_neg (by omega), if_neg (by omega)]
   have e1 : v.extract 0 v.size = v := ext_zero v
   have e2 : v.extract 0 1 = ⟨#[49]⟩ := by
    refine ba_ext (by rw [pre_size (by omega)]; rfl) (fun i hi => ?_)
    rw [pre_size (by omega)] at hi
    obtain rfl : i = 0 := by omega
    rw [pre_dgt (by omega) (by omega), v0]
    decide
   unfold nxD nxK
   rw [if_pos rfl]
   have h2 : dgt v (1 - 1) ≠ 48 := by show dgt v 0 ≠ 48; rw [v0]; decide
   by_cases n8 : n = 800
   · subst n8
     obtain ⟨vv, hvv⟩ : ∃ vv, v.extract 0 800 = vv := ⟨_, rfl⟩
     have vz : vv.size = 800 := by rw [← hvv]; exact pre_size (by omega)
     have vvd : ∀ i, i < 800 → dgt vv i = dgt v i := fun i hi => by rw [← hvv]; exact pre_dgt (by omega) hi
     have e3 : vv.extract 0 1 = ⟨#[49]⟩ := by rw [← hvv, pre_pre (by omega)]; exact e2
     have f0 : dgt v 0 ≠ 48 := by rw [v0]; decide
     have f1 : ∀ i, 1 ≤ i → i < vv.size → dgt vv i = 48 := fun i a b => by rw [vvd i (by omega)]; exact vi i a (by omega)
     have f2 : dgt vv (1 - 1) ≠ 48 := by rw [vvd 0 (by omega)]; exact f0
     by_cases q : p = 1099511627776
     · rw [if_pos q, if_pos ⟨rfl, q⟩]
       exact rmake_last_out (by omega) dv f0 (vi 800 (by omega) (by omega)) hvv (m := 1) (by omega) (by omega) f1 f2 (by omega) (by omega) W
     · rw [if_neg q, if_neg (fun g => q g.2)]
       have r := rmake_last_in (p := p + 1) (by omega) dv f0 (vi 800 (by omega) (by omega)) hvv (m := 1) (by omega) (by omega) f1 f2 (by omega) (by omega) W
       rw [e3] at r
       exact r
   by_cases q : p = 1099511627776
   · rw [if_pos q, if_pos ⟨rfl, q⟩]
     exact rmake_out (by omega) dv (z := 0) (by omega) (fun i a => by omega) (by rw [v0]; decide) (u := v) (by rw [e1]) (by omega) (m := 1) (by omega) (by omega) vi h2 (by omega) (by omega) (fun g => by have := g.2; omega) W
   · rw [if_neg q, if_neg (fun g => q g.2)]
     have r := rmake_in (p := p + 1) (by omega) dv (z := 0) (by omega) (fun i a => by omega) (by rw [v0]; decide) (u := v) (by rw [e1]) (by omega) (m := 1) (by omega) (by omega) vi h2 (by omega) (by omega) ⟨by omega, by omega⟩ W
     rw [e2, show p + 1 - ((0 : Nat) : Int) = p + 1 by omega] at r
     exact r
 · have k0 : 0 < k := by omega
   have v0 : dgt v 0 = 48 := by
    rw [hv 0 (by omega)]
    unfold incT zeroT
    rw [if_pos k0, if_pos rfl]
   have v1 : dgt v 1 ≠ 48 := by
    rw [hv 1 (by omega)]
    unfold incT
    by_cases c1 : k = 1
    · subst c1
      rw [if_neg (by omega), if_pos rfl]
      have := dz 1
      omega
    · rw [if_pos (by omega)]
      unfold zeroT
      rw [if_neg (by decide)]
      exact hf
   obtain ⟨u, hu⟩ : ∃ u, v.extract 1 v.size = u := ⟨_, rfl⟩
   have us : u.size = n := by rw [← hu, ext_size (by omega)]; omega
   have ud : ∀ i, i < n → dgt u i = dgt v (1 + i) := fun i hi => by
    rw [← hu]
    exact dgt_sub (Nat.le_refl _) (by omega)
   have e2 : u.extract 0 k = upS s k := by
    obtain ⟨a1, a2⟩ := upS_dgt hd (m := k) k0 ks
    refine ba_ext (by rw [pre_size (by omega), upS_size k0 ks]) (fun i hi => ?_)
    rw [pre_size (by omega)] at hi
    rw [pre_dgt (by omega) hi, ud i (by omega), hv (1 + i) (by omega)]
    unfold incT
    by_cases c1 : i = k - 1
    · rw [if_neg (by omega), if_pos (by omega), c1, a2]
      unfold zeroT
      rw [if_neg (by omega)]
    · rw [if_pos (by omega), a1 i (by omega)]
      unfold zeroT
      rw [if_neg (by omega), show 1 + i - 1 = i by omega]
   unfold nxD nxK
   rw [if_neg c, if_neg (fun g => c g.1)]
   have r := rmake_in (p := p + 1) (by omega) dv (z := 1) (by omega) (fun i a => by rw [show i = 0 by omega]; exact v0) v1 hu (by omega) (m := k) (by omega) k0 (fun i a b => by
    rw [ud i (by omega), hv (1 + i) (by omega)]
    unfold incT
    rw [if_neg (by omega), if_neg (by omega)]) (by
    rw [ud (k - 1) (by omega), show 1 + (k - 1) = k by omega, hv k (by omega)]
    unfold incT
    rw [if_neg (by omega), if_pos rfl]
    have := dz k
    omega) (by omega) (by omega) ⟨by omega, by omega⟩ W
   rw [e2, show p + 1 - ((1 : Nat) : Int) = p by omega] at r
   exact r
theorem rrd_gen {s : ByteArray} {p : Int} (g : VN s p false) {n m k : Nat} (hn : n < s.size) (n0 : 0 < n) (m0 : 0 < m) (mn : m ≤ n) (h0 : ∀ i, m ≤ i → i < n → dgt s i = 48) (hm : dgt s (m - 1) ≠ 48) (kn : k ≤ n) (h9 : ∀ i, k ≤ i → i < n → dgt s i = 57) (hk : 0 < k → dgt s (k - 1) ≠ 57) (w : World) :
 Calls Tryz.prog 34 #[dcV s p false, .int .i64 (n : Int)] w fun x w' => x = .returned (.tuple #[dcV (s.extract 0 m) p false, dcV (nxD s p k).1 (nxD s p k).2 false]) ∧ Below w.heap.size w w' := by
 have nf := vn_nf g
 have hl := g.len
 refine rrd_cut hl g.dg g.lo g.hi hn kn h9 hk (k1 := 0) (k2 := nxK p k) (fun W => ?_) (fun v vs hv W => inc_make g.dg nf.first g.lo g.hi n0 (by omega) kn (by omega) hk vs hv W) w
 have e := pre_size (s := s) (k := n) (by omega)
 have r := rmake_ok (s := s.extract 0 n) (p := p) (by omega) (by omega) (pre_dg g.dg (by omega)) (by rw [pre_dgt (by omega) n0]; exact nf.first) (m := m) (by omega) m0 (fun i a b => by rw [pre_dgt (by omega) (by omega)]; exact h0 i a (by omega)) (by rw [pre_dgt (by omega) (by omega)]; exact hm) g.lo g.hi W
 rw [pre_pre mn] at r
 exact r
theorem rrd_none {s : ByteArray} {p : Int} (g : VN s p false) {n : Nat} (hn : s.size ≤ n) (w : World) :
 Calls Tryz.prog 34 #[dcV s p false, .int .i64 (n : Int)] w fun x w' => x = .returned (.tuple #[dcV s p false, dcV s p false]) ∧ Below w.heap.size w w' := by
 have nf := vn_nf g
 have hl := g.len
 have M := fun W => rmake_ok (s := s) (p := p) g.pos hl g.dg nf.first (m := s.size) (Nat.le_refl _) g.pos (fun i a b => by omega) nf.last g.lo g.hi W
 rw [ext_zero] at M
 rcases Nat.eq_or_lt_of_le hn with e | e
 · rw [← e]; exact rrd_eq g.pos hl M w
 · exact rrd_more g.pos hl (by omega) M w
end Go.Proofs.YtblkokjkmbpejaaGreatDoor
