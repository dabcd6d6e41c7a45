/-
  Holds: IvA IvB IvD IvJ SoE HaE.
-/
import Derived.Test.YtjagnfddmlkalaaGreatDoorRows
import Derived.Laws.Externs
import Derived.WalkKit
import Derived.WalkSpells
import Derived.WalkLawsBesides
import Derived.Lib.Mul64
import Derived.Stop.Asserts
import Derived.RowKitTokens
import Derived.Lib.Strings
import Derived.Lib.BufferWrite
import Derived.Deep.OwnRows
import Derived.Deep.RegionHeld3
import Derived.BigQuiet
import Derived.Lib.ConvBytes
import Derived.Laws.CopyOwn
import Derived.Lib.TrailingZeros
import Derived.Lib.ItoaNum
import Derived.Deep.LoopGhost
import Derived.Deep.AppendLies
import Derived.Deep.DeepCutAuto
import Derived.Test.YtjagnfddmlkalaaGreatDoorKj11
import Derived.Test.YtjagnfddmlkalaaGreatDoorKj21
import Derived.Test.YtjagnfddmlkalaaGreatDoorKj25
set_option maxRecDepth 100000
set_option maxHeartbeats 4000000
namespace Go.Proofs.YtjagnfddmlkalaaGreatDoor
open Go.RowKit
structure Bk (W : World) (K : Nat) (l : List Value) : Prop where
 lt : K < W.heap.size
 cell : ∀ i v, l[i]? = some v → W.cell? ⟨K, i, none⟩ = some v
 fz : ∀ i, W.frozen? ⟨K, i, none⟩ = false
theorem Bk.step {W W' : World} {K : Nat} {l : List Value} (h : Bk W K l) (hb : Below W.heap.size W W') : Bk W' K l :=
 ⟨Nat.lt_of_lt_of_le h.lt hb.size, fun i v q => (hb.cell (p := ⟨K, i, none⟩) h.lt).trans (h.cell i v q), fun i => (hb.frozen (p := ⟨K, i, none⟩) h.lt).trans (h.fz i)⟩
theorem Bk.new3 (W : World) (a b c : Value) (T : TypeId) : Bk (W.alloc (.cells #[a, b, c] T)) W.heap.size [a, b, c] :=
 ⟨by simp, fun i v q => by
  match i, q with
  | 0, q => cases q; simp
  | 1, q => cases q; simp
  | 2, q => cases q; simp
  | n + 3, q => simp at q, fun i => World.frozen?_alloc_new _ _ _ _⟩
theorem Bk.new4 (W : World) (a b c d : Value) (T : TypeId) : Bk (W.alloc (.cells #[a, b, c, d] T)) W.heap.size [a, b, c, d] :=
 ⟨by simp, fun i v q => by
  match i, q with
  | 0, q => cases q; simp
  | 1, q => cases q; simp
  | 2, q => cases q; simp
  | 3, q => cases q; simp
  | n + 4, q => simp at q, fun i => World.frozen?_alloc_new _ _ _ _⟩
theorem Bp2 (q : Nat) : B ^ q = pw2 (64 * q) := B_pow q
theorem Kj.nat {m k j : Nat} (h : Kj m k j) : 5 ^ k < B ^ 128 ∧ m * 5 ^ k < B ^ 128 ∧ m * 5 ^ k * 2 ^ j < B ^ 128 := by
 have e : B ^ 128 = pw2 8192 := by
  rw [Bp2]
 have p : 0 < pw2 54 := by decide +kernel
 have z : pw5 k < pw2 8192 := Nat.lt_of_le_of_lt (Nat.le_trans (pw5_mono h.hk) (Nat.le_mul_of_pos_left (pw5 1075) p)) five_word
 rw [e]
 exact ⟨z, h.five, Nat.lt_trans h.wh ten_word⟩
theorem pdec_ok {m k j : Nat} (h : Kj m k j) (m0 : 0 < m) {e : Int} (he : e = (j : Int) - (k : Int)) {s : ByteArray} {q : Int} (D : Dx s q (fv m e)) (w : World) :
 Calls Tryz.prog 23 #[.int .u64 (m : Int), .int .i64 e] w fun x w' => x = .returned (dcV s q false) ∧ Below w.heap.size w w' := by
 rw [he] at D
 obtain ⟨f1, f2, f3⟩ := h.nat
 have hk := h.hk
 have hj := h.hj
 have PW := fun W => power_ok 5 k (by unfold B; decide) (by omega) f1 W
 have OF := fun W => of_any m (by have := h.hm; unfold B; omega) W
 simp only [Int.cast_ofNat_Int] at PW
 have HM : Hid (m * 5 ^ k < B ^ 128 ∧ m * 5 ^ k * 2 ^ j < B ^ 128) := ⟨f2, f3⟩
 have HX : Hid (wh m k j ≠ 0 ∧ m * 5 ^ k * 2 ^ j = wh m k j ∧ ∀ K, 1 ≤ K → 10 ^ (K - 1) ≤ wh m k j → wh m k j < 10 ^ K → (rowText 10 (wh m k j) K).size = K ∧ K ≤ 800 ∧ ∀ W, Calls Tryz.prog 56 #[.string (rowText 10 (wh m k j) K), .int .i64 ((K : Int) - (k : Int)), .bool false] W fun e w' => e = .returned (.tuple #[dcV s q false, .nilIface]) ∧ Below W.heap.size W w') := by
  refine ⟨Nat.ne_of_gt (wh_pos m0 k j), rfl, fun K k1 k2 k3 => ?_⟩
  have T := tx_row k1 k2 k3
  have rs := rowText_size 10 (wh m k j) K
  obtain ⟨a, b⟩ := h.lens m0 T
  refine ⟨rs, by omega, fun W => ?_⟩
  have M := h.make m0 D T W
  rw [rs] at M
  exact M
 have HO : Hid (k = 0 ∨ j = 0) := h.o
 have HE : Hid (e = (j : Int) - (k : Int)) := he
 clear f1 f2 f3 D h m0 he
 unfold dcV at *
 generalize wh m k j = X at *
 generalize 5 ^ k = F at *
 have F0 : Hid (Bk (w.alloc (.cells #[.string ⟨#[]⟩, .int .i64 0, .bool false] 24)) w.heap.size [.string ⟨#[]⟩, .int .i64 0, .bool false] ∧ Below w.heap.size w (w.alloc (.cells #[.string ⟨#[]⟩, .int .i64 0, .bool false] 24))) := ⟨Bk.new3 w _ _ _ _, (Below.refl _ _).alloc (Nat.le_refl _) _⟩
 go_enter Tryz.func23, Tryz.ntmps23
 go_upto_region 1 with fail
 generalize (w.alloc (.cells #[.string ⟨#[]⟩, .int .i64 0, .bool false] 24)) = w0 at *
 go_cut [5] (fun pv wx => wx = w0 ∧ pv = .int .i64 (k : Int))
 case first =>
  go_wp2
  all_goals go_meet
  all_goals exact ⟨rfl, congrArg (Value.int .i64) (by have := HE.out; have := HO.out; have := IntWalk.wrap64_in (-e) ⟨by omega, by omega⟩; omega)⟩
 case rest =>
 obtain ⟨hcw, rfl⟩ := hcut
 have hcw2 := hcw.symm
 subst hcw2
 go_wp2_with fail
 refine (PW _).mono ?_
 rintro o w1 ⟨v1, rfl, n1, b1⟩
 have F1 : Hid (Bk w1 w.heap.size [.string ⟨#[]⟩, .int .i64 0, .bool false] ∧ Below w.heap.size w w1 ∧ NatV w1 v1 F) := ⟨F0.out.1.step b1, F0.out.2.trans (b1.mono F0.out.2.size), n1⟩
 clear b1 n1 PW F0
 go_wp2_with fail
 refine (OF _).mono ?_
 rintro o w2 ⟨v2, rfl, n2, b2⟩
 have F2 : Hid (Bk w2 w.heap.size [.string ⟨#[]⟩, .int .i64 0, .bool false] ∧ Below w.heap.size w w2 ∧ NatV w2 v1 F ∧ NatV w2 v2 m) := ⟨F1.out.1.step b2, F1.out.2.1.trans (b2.mono F1.out.2.1.size), F1.out.2.2.below b2, n2⟩
 clear b2 n2 OF F1
 have MU := mul_ok F2.out.2.2.2 F2.out.2.2.1 HM.out.1
 go_wp2_with fail
 refine MU.mono ?_
 rintro o w3 ⟨v3, rfl, n3, b3⟩
 have F3 : Hid (Bk w3 w.heap.size [.string ⟨#[]⟩, .int .i64 0, .bool false] ∧ Below w.heap.size w w3 ∧ NatV w3 v3 (m * F)) := ⟨F2.out.1.step b3, F2.out.2.1.trans (b3.mono F2.out.2.1.size), n3⟩
 clear b3 n3 MU F2
 have SH : ∀ x : Int, x = (j : Int) → Calls Tryz.prog 54 #[v3, .int .i64 x] w3 fun e w' => ∃ v, e = .returned (.tuple #[v, .nilIface]) ∧ NatV w' v X ∧ Below w3.heap.size w3 w' := fun x hx => by
  subst hx
  have q := shl_ok F3.out.2.2 j HM.out.2 (by omega)
  rw [HX.out.2.1] at q
  exact q
 go_wp2_with fail
 all_goals
  refine (SH _ ?_).mono ?_
  · have := HE.out; have := HO.out; omega
  rintro o w4 ⟨v4, rfl, n4, b4⟩
  have F4 : Hid (Bk w4 w.heap.size [.string ⟨#[]⟩, .int .i64 0, .bool false] ∧ Below w.heap.size w w4 ∧ NatV w4 v4 X) := ⟨F3.out.1.step b4, F3.out.2.1.trans (b4.mono F3.out.2.1.size), n4⟩
  clear b4 n4 SH F3
  have DG := digits_any F4.out.2.2 HX.out.1 10 (by decide) (by decide)
  simp only [Int.cast_ofNat_Int] at DG
  go_wp2_with fail
  refine DG.mono ?_
  rintro o w5 ⟨K, rfl, k1, k2, k3, b5⟩
  obtain ⟨rs, k8, MK⟩ := HX.out.2.2 K k1 k2 k3
  have F5 : Hid (Bk w5 w.heap.size [.string ⟨#[]⟩, .int .i64 0, .bool false] ∧ Below w.heap.size w w5) := ⟨F4.out.1.step b5, F4.out.2.1.trans (b5.mono F4.out.2.1.size)⟩
  clear b5 DG F4 k1 k2 k3 HX HM HE HO
  generalize rowText 10 X K = rt at *
  go_wp2_with fail
  refine (MK _).mono ?_
  rintro o w6 ⟨rfl, b6⟩
  have F6 : Hid (Bk w6 w.heap.size [.string ⟨#[]⟩, .int .i64 0, .bool false] ∧ Below w.heap.size w w6) := ⟨F5.out.1.step b6, F5.out.2.trans (b6.mono F5.out.2.size)⟩
  clear b6 MK F5
  have l6 := F6.out.1.lt
  have a0 := F6.out.1.cell 0 _ rfl
  have a1 := F6.out.1.cell 1 _ rfl
  have a2 := F6.out.1.cell 2 _ rfl
  have f0 := F6.out.1.fz 0
  have f1 := F6.out.1.fz 1
  have f2 := F6.out.1.fz 2
  go_wp2
  exact bodyPost_ret (v := .agg #[.string s, .int .i64 q, .bool false]) (by simp [results, Tryz.results23, go_sem, World.cell?_setCell_same, World.cell?_setCell_other, *]) rfl ⟨rfl, (((F6.out.2.setCell (Nat.le_refl _) _).setCell (Nat.le_refl _) _).setCell (Nat.le_refl _) _).alloc (by simpa using F6.out.2.size) _⟩
theorem dg_nought : DG ⟨#[48]⟩ := by
 intro k h
 obtain rfl : k = 0 := by have : k < 1 := h; omega
 exact (by decide : 48 ≤ (48 : UInt8).toNat ∧ (48 : UInt8).toNat ≤ 57)
theorem pdec_zero {k : Nat} (k0 : 0 < k) (hk : k ≤ 1075) (w : World) :
 Calls Tryz.prog 23 #[.int .u64 0, .int .i64 (-(k : Int))] w fun x w' => x = .returned (dcV ⟨#[]⟩ 0 false) ∧ Below w.heap.size w w' := by
 have KJ : Kj 0 k 0 := ⟨Nat.zero_le _, hk, Nat.zero_le _, Or.inr rfl⟩
 obtain ⟨f1, f2, f3⟩ := KJ.nat
 have PW := fun W => power_ok 5 k (by unfold B; decide) (by omega) f1 W
 have OF := fun W => of_any 0 (by unfold B; omega) W
 simp only [Int.cast_ofNat_Int] at PW OF
 rw [Nat.zero_mul] at f2
 have HM : Hid (0 < B ^ 128) := f2
 have MK : ∀ W, Calls Tryz.prog 56 #[.string ⟨#[48]⟩, .int .i64 (1 - (k : Int)), .bool false] W fun e w' => e = .returned (.tuple #[dcV ⟨#[]⟩ 0 false, .nilIface]) ∧ Below W.heap.size W w' := fun W =>
  dmake_zero (t := ⟨#[48]⟩) (by decide) (by decide) dg_nought (fun i hi => by
   have : i = 0 := by have : i < 1 := hi; omega
   subst this
   decide) W
 clear f1 f2 f3 KJ
 unfold dcV at *
 generalize 5 ^ k = F at *
 have F0 : Hid (Bk (w.alloc (.cells #[.string ⟨#[]⟩, .int .i64 0, .bool false] 24)) w.heap.size [.string ⟨#[]⟩, .int .i64 0, .bool false] ∧ Below w.heap.size w (w.alloc (.cells #[.string ⟨#[]⟩, .int .i64 0, .bool false] 24))) := ⟨Bk.new3 w _ _ _ _, (Below.refl _ _).alloc (Nat.le_refl _) _⟩
 go_enter Tryz.func23, Tryz.ntmps23
 go_upto_region 1 with fail
 generalize (w.alloc (.cells #[.string ⟨#[]⟩, .int .i64 0, .bool false] 24)) = w0 at *
 go_cut [5] (fun pv wx => wx = w0 ∧ pv = .int .i64 (k : Int))
 case first =>
  go_wp2
  all_goals go_meet
  all_goals exact ⟨rfl, congrArg (Value.int .i64) (by omega)⟩
 case rest =>
 obtain ⟨hcw, rfl⟩ := hcut
 have hcw2 := hcw.symm
 subst hcw2
 go_wp2_with fail
 refine (PW _).mono ?_
 rintro o w1 ⟨v1, rfl, n1, b1⟩
 have F1 : Hid (Bk w1 w.heap.size [.string ⟨#[]⟩, .int .i64 0, .bool false] ∧ Below w.heap.size w w1 ∧ NatV w1 v1 F) := ⟨F0.out.1.step b1, F0.out.2.trans (b1.mono F0.out.2.size), n1⟩
 clear b1 n1 PW F0
 go_wp2_with fail
 refine (OF _).mono ?_
 rintro o w2 ⟨v2, rfl, n2, b2⟩
 have F2 : Hid (Bk w2 w.heap.size [.string ⟨#[]⟩, .int .i64 0, .bool false] ∧ Below w.heap.size w w2 ∧ NatV w2 v1 F ∧ NatV w2 v2 0) := ⟨F1.out.1.step b2, F1.out.2.1.trans (b2.mono F1.out.2.1.size), F1.out.2.2.below b2, n2⟩
 clear b2 n2 OF F1
 have MU := mul_ok F2.out.2.2.2 F2.out.2.2.1 (by rw [Nat.zero_mul]; exact HM.out)
 rw [Nat.zero_mul] at MU
 go_wp2_with fail
 refine MU.mono ?_
 rintro o w3 ⟨v3, rfl, n3, b3⟩
 have F3 : Hid (Bk w3 w.heap.size [.string ⟨#[]⟩, .int .i64 0, .bool false] ∧ Below w.heap.size w w3 ∧ NatV w3 v3 0) := ⟨F2.out.1.step b3, F2.out.2.1.trans (b3.mono F2.out.2.1.size), n3⟩
 clear b3 n3 MU F2
 have SH := shl_ok F3.out.2.2 0 (by rw [Nat.zero_mul]; exact HM.out) (by omega)
 rw [Nat.zero_mul] at SH
 simp only [Int.cast_ofNat_Int] at SH
 go_wp2_with fail
 all_goals first | (exfalso; omega) | skip
 refine SH.mono ?_
 rintro o w4 ⟨v4, rfl, n4, b4⟩
 obtain ⟨ao, n, c, b, o, f, rfl, S, tp, hv, _⟩ := n4
 obtain rfl : n = 0 := by
  apply Nat.eq_zero_of_not_pos
  intro z
  have q := Top_ge tp z
  have := Nat.pow_pos (n := n - 1) B_pos
  omega
 have F4 : Hid (Bk w4 w.heap.size [.string ⟨#[]⟩, .int .i64 0, .bool false] ∧ Below w.heap.size w w4) := ⟨F3.out.1.step b4, F3.out.2.1.trans (b4.mono F3.out.2.1.size)⟩
 have DG := digits_zero S 10 (by decide) (by decide)
 simp only [Int.cast_ofNat_Int] at DG
 clear b4 S tp hv SH F3
 go_wp2_with fail
 refine DG.mono ?_
 rintro o w5 ⟨rfl, b5⟩
 have F5 : Hid (Bk w5 w.heap.size [.string ⟨#[]⟩, .int .i64 0, .bool false] ∧ Below w.heap.size w w5) := ⟨F4.out.1.step b5, F4.out.2.trans (b5.mono F4.out.2.size)⟩
 clear b5 DG F4 HM
 go_wp2_with fail
 refine (MK _).mono ?_
 rintro o w6 ⟨rfl, b6⟩
 have F6 : Hid (Bk w6 w.heap.size [.string ⟨#[]⟩, .int .i64 0, .bool false] ∧ Below w.heap.size w w6) := ⟨F5.out.1.step b6, F5.out.2.trans (b6.mono F5.out.2.size)⟩
 clear b6 MK F5
 have l6 := F6.out.1.lt
 have a0 := F6.out.1.cell 0 _ rfl
 have a1 := F6.out.1.cell 1 _ rfl
 have a2 := F6.out.1.cell 2 _ rfl
 have f0 := F6.out.1.fz 0
 have f1 := F6.out.1.fz 1
 have f2 := F6.out.1.fz 2
 go_wp2
 exact bodyPost_ret (v := .agg #[.string ⟨#[]⟩, .int .i64 0, .bool false]) (by simp [results, Tryz.results23, go_sem, World.cell?_setCell_same, World.cell?_setCell_other, *]) rfl ⟨rfl, (((F6.out.2.setCell (Nat.le_refl _) _).setCell (Nat.le_refl _) _).setCell (Nat.le_refl _) _).alloc (by simpa using F6.out.2.size) _⟩
theorem pdec_any {m : Nat} {e : Int} (hm : m ≤ 18014398509481984) (h1 : -1075 ≤ e) (h2 : e ≤ 971) (h0 : 0 < m ∨ e < 0) {s : ByteArray} {q : Int} (D : Dx s q (fv m e)) (w : World) :
 Calls Tryz.prog 23 #[.int .u64 (m : Int), .int .i64 e] w fun x w' => x = .returned (dcV s q false) ∧ Below w.heap.size w w' := by
 by_cases m0 : 0 < m
 · rcases Int.lt_or_le e 0 with c | c
   · exact pdec_ok (k := (-e).toNat) (j := 0) ⟨hm, by omega, by omega, Or.inr rfl⟩ m0 (by omega) D w
   · exact pdec_ok (k := 0) (j := e.toNat) ⟨hm, by omega, by omega, Or.inl rfl⟩ m0 (by omega) D w
 · obtain rfl : m = 0 := by omega
   obtain ⟨k, rfl⟩ : ∃ k : Nat, e = -(k : Int) := ⟨(-e).toNat, by omega⟩
   rw [fv_zero] at D
   obtain ⟨rfl, rfl⟩ := D.uniq dx_nought
   exact pdec_zero (by omega) (by omega) w
theorem fin_fine {b z : Int} {c : Bool} {M E : Int} (HU : ∀ W, Calls Tryz.prog 14 #[.int .u64 b, .int .i64 z] W fun e w' => e = .returned (.tuple #[.agg #[.bool c, .int .i64 2, .int .u64 M, .int .i64 E], .nilIface]) ∧ Below W.heap.size W w') (w : World) :
 Calls Tryz.prog 22 #[.int .u64 b, .int .i64 z] w fun x w' => x = .returned (.tuple #[.agg #[.bool c, .int .i64 2, .int .u64 M, .int .i64 E], .nilIface]) ∧ Below w.heap.size w w' := by
 have F0 : Hid (Bk (w.alloc (.cells #[.bool false, .int .i64 0, .int .u64 0, .int .i64 0] 39)) (w.heap.size) [.bool false, .int .i64 0, .int .u64 0, .int .i64 0] ∧ Below w.heap.size w (w.alloc (.cells #[.bool false, .int .i64 0, .int .u64 0, .int .i64 0] 39))) := ⟨Bk.new4 w (.bool false) (.int .i64 0) (.int .u64 0) (.int .i64 0) 39, ((Below.refl w.heap.size w)).alloc (Nat.le_refl _) _⟩
 go_enter Tryz.func22, Tryz.ntmps22
 go_upto_region 1 with fail
 generalize (w.alloc (.cells #[.bool false, .int .i64 0, .int .u64 0, .int .i64 0] 39)) = w1 at *
 go_wp2_with fail
 all_goals first | (exfalso; omega) | skip
 refine (HU _).mono ?_
 rintro o2 w2 ⟨rfl, bb⟩
 have F1 : Hid (Bk w2 (w.heap.size) [.bool false, .int .i64 0, .int .u64 0, .int .i64 0] ∧ Below w.heap.size w w2) := ⟨(F0.out.1).step bb, (F0.out.2).trans (bb.mono (F0.out.2).size)⟩
 clear F0
 clear bb
 have lt0_1 := (F1.out.1).lt
 have le1 := (F1.out.2).size
 have F2 : Hid (Bk (w2.alloc (.cells #[.bool c, .int .i64 2, .int .u64 M, .int .i64 E] 39)) (w.heap.size) [.bool false, .int .i64 0, .int .u64 0, .int .i64 0] ∧ Bk (w2.alloc (.cells #[.bool c, .int .i64 2, .int .u64 M, .int .i64 E] 39)) (w2.heap.size) [.bool c, .int .i64 2, .int .u64 M, .int .i64 E] ∧ Below w.heap.size w (w2.alloc (.cells #[.bool c, .int .i64 2, .int .u64 M, .int .i64 E] 39))) := ⟨(F1.out.1).step ((Below.refl _ _).alloc (Nat.le_refl _) _), Bk.new4 w2 (.bool c) (.int .i64 2) (.int .u64 M) (.int .i64 E) 39, (F1.out.2).alloc ((F1.out.2).size) _⟩
 clear F1
 go_upto_region 2 with fail
 generalize (w2.alloc (.cells #[.bool c, .int .i64 2, .int .u64 M, .int .i64 E] 39)) = w3 at *
 have l1_0 := F2.out.1.lt
 have a1_0_0 := F2.out.1.cell 0 _ rfl
 have f1_0_0 := F2.out.1.fz 0
 have a1_0_1 := F2.out.1.cell 1 _ rfl
 have f1_0_1 := F2.out.1.fz 1
 have a1_0_2 := F2.out.1.cell 2 _ rfl
 have f1_0_2 := F2.out.1.fz 2
 have a1_0_3 := F2.out.1.cell 3 _ rfl
 have f1_0_3 := F2.out.1.fz 3
 have l1_1 := F2.out.2.1.lt
 have a1_1_0 := F2.out.2.1.cell 0 _ rfl
 have f1_1_0 := F2.out.2.1.fz 0
 have a1_1_1 := F2.out.2.1.cell 1 _ rfl
 have f1_1_1 := F2.out.2.1.fz 1
 have a1_1_2 := F2.out.2.1.cell 2 _ rfl
 have f1_1_2 := F2.out.2.1.fz 2
 have a1_1_3 := F2.out.2.1.cell 3 _ rfl
 have f1_1_3 := F2.out.2.1.fz 3
 have ne1_0_1 : ¬ w.heap.size = w2.heap.size := by omega
 have ne1_1_0 : ¬ w2.heap.size = w.heap.size := by omega
 go_wp2
 refine bodyPost_ret (v := .tuple #[.agg #[.bool c, .int .i64 2, .int .u64 M, .int .i64 E], .nilIface]) (by simp [results, Tryz.results22, go_sem, World.cell?_setCell_same, World.cell?_setCell_other, *]) rfl ⟨rfl, ?_⟩
 repeat (first | refine Below.setCell ?_ (by first | exact Nat.le_refl _ | (dsimp only; omega)) _ | refine Below.alloc ?_ (by first | exact Nat.le_refl _ | omega | (simp; omega)) _ | refine Below.drew ?_)
 exact F2.out.2.2
theorem fin_zero {b z : Int} {c d : Bool} {k M E : Int} (HU : ∀ W, Calls Tryz.prog 14 #[.int .u64 b, .int .i64 z] W fun e w' => e = .returned (.tuple #[.agg #[.bool c, .int .i64 1, .int .u64 0, .int .i64 0], .nilIface]) ∧ Below W.heap.size W w') (HL : ∀ W, Calls Tryz.prog 50 #[.int .i64 z] W fun e w' => e = .returned (.tuple #[.int .u64 1, .nilIface]) ∧ Below W.heap.size W w') (H1 : ∀ W, Calls Tryz.prog 14 #[.int .u64 1, .int .i64 z] W fun e w' => e = .returned (.tuple #[.agg #[.bool d, .int .i64 k, .int .u64 M, .int .i64 E], .nilIface]) ∧ Below W.heap.size W w') (w : World) :
 Calls Tryz.prog 22 #[.int .u64 b, .int .i64 z] w fun x w' => x = .returned (.tuple #[.agg #[.bool c, .int .i64 1, .int .u64 0, .int .i64 E], .nilIface]) ∧ Below w.heap.size w w' := by
 have F0 : Hid (Bk (w.alloc (.cells #[.bool false, .int .i64 0, .int .u64 0, .int .i64 0] 39)) (w.heap.size) [.bool false, .int .i64 0, .int .u64 0, .int .i64 0] ∧ Below w.heap.size w (w.alloc (.cells #[.bool false, .int .i64 0, .int .u64 0, .int .i64 0] 39))) := ⟨Bk.new4 w (.bool false) (.int .i64 0) (.int .u64 0) (.int .i64 0) 39, ((Below.refl w.heap.size w)).alloc (Nat.le_refl _) _⟩
 go_enter Tryz.func22, Tryz.ntmps22
 go_upto_region 1 with fail
 generalize (w.alloc (.cells #[.bool false, .int .i64 0, .int .u64 0, .int .i64 0] 39)) = w1 at *
 go_wp2_with fail
 all_goals first | (exfalso; omega) | skip
 refine (HU _).mono ?_
 rintro o2 w2 ⟨rfl, bb⟩
 have F1 : Hid (Bk w2 (w.heap.size) [.bool false, .int .i64 0, .int .u64 0, .int .i64 0] ∧ Below w.heap.size w w2) := ⟨(F0.out.1).step bb, (F0.out.2).trans (bb.mono (F0.out.2).size)⟩
 clear F0
 clear bb
 have lt0_1 := (F1.out.1).lt
 have le1 := (F1.out.2).size
 have F2 : Hid (Bk (w2.alloc (.cells #[.bool c, .int .i64 1, .int .u64 0, .int .i64 0] 39)) (w.heap.size) [.bool false, .int .i64 0, .int .u64 0, .int .i64 0] ∧ Bk (w2.alloc (.cells #[.bool c, .int .i64 1, .int .u64 0, .int .i64 0] 39)) (w2.heap.size) [.bool c, .int .i64 1, .int .u64 0, .int .i64 0] ∧ Below w.heap.size w (w2.alloc (.cells #[.bool c, .int .i64 1, .int .u64 0, .int .i64 0] 39))) := ⟨(F1.out.1).step ((Below.refl _ _).alloc (Nat.le_refl _) _), Bk.new4 w2 (.bool c) (.int .i64 1) (.int .u64 0) (.int .i64 0) 39, (F1.out.2).alloc ((F1.out.2).size) _⟩
 clear F1
 go_upto_region 2 with fail
 generalize (w2.alloc (.cells #[.bool c, .int .i64 1, .int .u64 0, .int .i64 0] 39)) = w3 at *
 have l1_0 := F2.out.1.lt
 have a1_0_0 := F2.out.1.cell 0 _ rfl
 have f1_0_0 := F2.out.1.fz 0
 have a1_0_1 := F2.out.1.cell 1 _ rfl
 have f1_0_1 := F2.out.1.fz 1
 have a1_0_2 := F2.out.1.cell 2 _ rfl
 have f1_0_2 := F2.out.1.fz 2
 have a1_0_3 := F2.out.1.cell 3 _ rfl
 have f1_0_3 := F2.out.1.fz 3
 have l1_1 := F2.out.2.1.lt
 have a1_1_0 := F2.out.2.1.cell 0 _ rfl
 have f1_1_0 := F2.out.2.1.fz 0
 have a1_1_1 := F2.out.2.1.cell 1 _ rfl
 have f1_1_1 := F2.out.2.1.fz 1
 have a1_1_2 := F2.out.2.1.cell 2 _ rfl
 have f1_1_2 := F2.out.2.1.fz 2
 have a1_1_3 := F2.out.2.1.cell 3 _ rfl
 have f1_1_3 := F2.out.2.1.fz 3
 have ne1_0_1 : ¬ w.heap.size = w2.heap.size := by omega
 have ne1_1_0 : ¬ w2.heap.size = w.heap.size := by omega
 go_wp2_with fail
 all_goals first | (exfalso; omega) | skip
 refine (HL _).mono ?_
 rintro o4 w4 ⟨rfl, bb⟩
 have F3 : Hid (Bk w4 (w.heap.size) [.bool false, .int .i64 0, .int .u64 0, .int .i64 0] ∧ Bk w4 (w2.heap.size) [.bool c, .int .i64 1, .int .u64 0, .int .i64 0] ∧ Below w.heap.size w w4) := ⟨(F2.out.1).step bb, (F2.out.2.1).step bb, (F2.out.2.2).trans (bb.mono (F2.out.2.2).size)⟩
 clear F2
 clear bb
 clear l1_0 a1_0_0 f1_0_0 a1_0_1 f1_0_1 a1_0_2 f1_0_2 a1_0_3 f1_0_3 l1_1 a1_1_0 f1_1_0 a1_1_1 f1_1_1 a1_1_2 f1_1_2 a1_1_3 f1_1_3
 go_wp2_with fail
 all_goals first | (exfalso; omega) | skip
 refine (H1 _).mono ?_
 rintro o5 w5 ⟨rfl, bb⟩
 have F4 : Hid (Bk w5 (w.heap.size) [.bool false, .int .i64 0, .int .u64 0, .int .i64 0] ∧ Bk w5 (w2.heap.size) [.bool c, .int .i64 1, .int .u64 0, .int .i64 0] ∧ Below w.heap.size w w5) := ⟨(F3.out.1).step bb, (F3.out.2.1).step bb, (F3.out.2.2).trans (bb.mono (F3.out.2.2).size)⟩
 clear F3
 clear bb
 have lt0_2 := (F4.out.1).lt
 have lt1_2 := (F4.out.2.1).lt
 have le2 := (F4.out.2.2).size
 have F5 : Hid (Bk (w5.alloc (.cells #[.bool d, .int .i64 k, .int .u64 M, .int .i64 E] 39)) (w.heap.size) [.bool false, .int .i64 0, .int .u64 0, .int .i64 0] ∧ Bk (w5.alloc (.cells #[.bool d, .int .i64 k, .int .u64 M, .int .i64 E] 39)) (w2.heap.size) [.bool c, .int .i64 1, .int .u64 0, .int .i64 0] ∧ Bk (w5.alloc (.cells #[.bool d, .int .i64 k, .int .u64 M, .int .i64 E] 39)) (w5.heap.size) [.bool d, .int .i64 k, .int .u64 M, .int .i64 E] ∧ Below w.heap.size w (w5.alloc (.cells #[.bool d, .int .i64 k, .int .u64 M, .int .i64 E] 39))) := ⟨(F4.out.1).step ((Below.refl _ _).alloc (Nat.le_refl _) _), (F4.out.2.1).step ((Below.refl _ _).alloc (Nat.le_refl _) _), Bk.new4 w5 (.bool d) (.int .i64 k) (.int .u64 M) (.int .i64 E) 39, (F4.out.2.2).alloc ((F4.out.2.2).size) _⟩
 clear F4
 go_upto_region 10 with fail
 generalize (w5.alloc (.cells #[.bool d, .int .i64 k, .int .u64 M, .int .i64 E] 39)) = w6 at *
 have l2_0 := F5.out.1.lt
 have a2_0_0 := F5.out.1.cell 0 _ rfl
 have f2_0_0 := F5.out.1.fz 0
 have a2_0_1 := F5.out.1.cell 1 _ rfl
 have f2_0_1 := F5.out.1.fz 1
 have a2_0_2 := F5.out.1.cell 2 _ rfl
 have f2_0_2 := F5.out.1.fz 2
 have a2_0_3 := F5.out.1.cell 3 _ rfl
 have f2_0_3 := F5.out.1.fz 3
 have l2_1 := F5.out.2.1.lt
 have a2_1_0 := F5.out.2.1.cell 0 _ rfl
 have f2_1_0 := F5.out.2.1.fz 0
 have a2_1_1 := F5.out.2.1.cell 1 _ rfl
 have f2_1_1 := F5.out.2.1.fz 1
 have a2_1_2 := F5.out.2.1.cell 2 _ rfl
 have f2_1_2 := F5.out.2.1.fz 2
 have a2_1_3 := F5.out.2.1.cell 3 _ rfl
 have f2_1_3 := F5.out.2.1.fz 3
 have l2_2 := F5.out.2.2.1.lt
 have a2_2_0 := F5.out.2.2.1.cell 0 _ rfl
 have f2_2_0 := F5.out.2.2.1.fz 0
 have a2_2_1 := F5.out.2.2.1.cell 1 _ rfl
 have f2_2_1 := F5.out.2.2.1.fz 1
 have a2_2_2 := F5.out.2.2.1.cell 2 _ rfl
 have f2_2_2 := F5.out.2.2.1.fz 2
 have a2_2_3 := F5.out.2.2.1.cell 3 _ rfl
 have f2_2_3 := F5.out.2.2.1.fz 3
 have ne2_0_1 : ¬ w.heap.size = w2.heap.size := by omega
 have ne2_0_2 : ¬ w.heap.size = w5.heap.size := by omega
 have ne2_1_0 : ¬ w2.heap.size = w.heap.size := by omega
 have ne2_1_2 : ¬ w2.heap.size = w5.heap.size := by omega
 have ne2_2_0 : ¬ w5.heap.size = w.heap.size := by omega
 have ne2_2_1 : ¬ w5.heap.size = w2.heap.size := by omega
 go_wp2
 refine bodyPost_ret (v := .tuple #[.agg #[.bool c, .int .i64 1, .int .u64 0, .int .i64 E], .nilIface]) (by simp [results, Tryz.results22, go_sem, World.cell?_setCell_same, World.cell?_setCell_other, *]) rfl ⟨rfl, ?_⟩
 repeat (first | refine Below.setCell ?_ (by first | exact Nat.le_refl _ | (dsimp only; omega)) _ | refine Below.alloc ?_ (by first | exact Nat.le_refl _ | omega | (simp; omega)) _ | refine Below.drew ?_)
 exact F5.out.2.2.2
theorem ex_ok {b z : Int} {c : Bool} {k M E : Int} {s : ByteArray} {p : Int} (HF : ∀ W, Calls Tryz.prog 22 #[.int .u64 b, .int .i64 z] W fun e w' => e = .returned (.tuple #[.agg #[.bool c, .int .i64 k, .int .u64 M, .int .i64 E], .nilIface]) ∧ Below W.heap.size W w') (HD : ∀ W, Calls Tryz.prog 23 #[.int .u64 M, .int .i64 E] W fun e w' => e = .returned (.agg #[.string s, .int .i64 p, .bool false]) ∧ Below W.heap.size W w') (w : World) :
 Calls Tryz.prog 10 #[.int .u64 b, .int .i64 z] w fun x w' => x = .returned (.tuple #[.agg #[.string s, .int .i64 p, .bool false], .nilIface]) ∧ Below w.heap.size w w' := by
 have F0 : Hid (Bk (w.alloc (.cells #[.string ⟨#[]⟩, .int .i64 0, .bool false] 24)) (w.heap.size) [.string ⟨#[]⟩, .int .i64 0, .bool false] ∧ Below w.heap.size w (w.alloc (.cells #[.string ⟨#[]⟩, .int .i64 0, .bool false] 24))) := ⟨Bk.new3 w (.string ⟨#[]⟩) (.int .i64 0) (.bool false) 24, ((Below.refl w.heap.size w)).alloc (Nat.le_refl _) _⟩
 go_enter Tryz.func10, Tryz.ntmps10
 go_upto_region 1 with fail
 generalize (w.alloc (.cells #[.string ⟨#[]⟩, .int .i64 0, .bool false] 24)) = w1 at *
 go_wp2_with fail
 all_goals first | (exfalso; omega) | skip
 refine (HF _).mono ?_
 rintro o2 w2 ⟨rfl, bb⟩
 have F1 : Hid (Bk w2 (w.heap.size) [.string ⟨#[]⟩, .int .i64 0, .bool false] ∧ Below w.heap.size w w2) := ⟨(F0.out.1).step bb, (F0.out.2).trans (bb.mono (F0.out.2).size)⟩
 clear F0
 clear bb
 have lt0_1 := (F1.out.1).lt
 have le1 := (F1.out.2).size
 have F2 : Hid (Bk (w2.alloc (.cells #[.bool c, .int .i64 k, .int .u64 M, .int .i64 E] 39)) (w.heap.size) [.string ⟨#[]⟩, .int .i64 0, .bool false] ∧ Bk (w2.alloc (.cells #[.bool c, .int .i64 k, .int .u64 M, .int .i64 E] 39)) (w2.heap.size) [.bool c, .int .i64 k, .int .u64 M, .int .i64 E] ∧ Below w.heap.size w (w2.alloc (.cells #[.bool c, .int .i64 k, .int .u64 M, .int .i64 E] 39))) := ⟨(F1.out.1).step ((Below.refl _ _).alloc (Nat.le_refl _) _), Bk.new4 w2 (.bool c) (.int .i64 k) (.int .u64 M) (.int .i64 E) 39, (F1.out.2).alloc ((F1.out.2).size) _⟩
 clear F1
 go_upto_region 2 with fail
 generalize (w2.alloc (.cells #[.bool c, .int .i64 k, .int .u64 M, .int .i64 E] 39)) = w3 at *
 have l1_0 := F2.out.1.lt
 have a1_0_0 := F2.out.1.cell 0 _ rfl
 have f1_0_0 := F2.out.1.fz 0
 have a1_0_1 := F2.out.1.cell 1 _ rfl
 have f1_0_1 := F2.out.1.fz 1
 have a1_0_2 := F2.out.1.cell 2 _ rfl
 have f1_0_2 := F2.out.1.fz 2
 have l1_1 := F2.out.2.1.lt
 have a1_1_0 := F2.out.2.1.cell 0 _ rfl
 have f1_1_0 := F2.out.2.1.fz 0
 have a1_1_1 := F2.out.2.1.cell 1 _ rfl
 have f1_1_1 := F2.out.2.1.fz 1
 have a1_1_2 := F2.out.2.1.cell 2 _ rfl
 have f1_1_2 := F2.out.2.1.fz 2
 have a1_1_3 := F2.out.2.1.cell 3 _ rfl
 have f1_1_3 := F2.out.2.1.fz 3
 have ne1_0_1 : ¬ w.heap.size = w2.heap.size := by omega
 have ne1_1_0 : ¬ w2.heap.size = w.heap.size := by omega
 go_wp2_with fail
 all_goals first | (exfalso; omega) | skip
 refine (HD _).mono ?_
 rintro o4 w4 ⟨rfl, bb⟩
 have F3 : Hid (Bk w4 (w.heap.size) [.string ⟨#[]⟩, .int .i64 0, .bool false] ∧ Bk w4 (w2.heap.size) [.bool c, .int .i64 k, .int .u64 M, .int .i64 E] ∧ Below w.heap.size w w4) := ⟨(F2.out.1).step bb, (F2.out.2.1).step bb, (F2.out.2.2).trans (bb.mono (F2.out.2.2).size)⟩
 clear F2
 clear bb
 clear l1_0 a1_0_0 f1_0_0 a1_0_1 f1_0_1 a1_0_2 f1_0_2 l1_1 a1_1_0 f1_1_0 a1_1_1 f1_1_1 a1_1_2 f1_1_2 a1_1_3 f1_1_3
 have l2_0 := F3.out.1.lt
 have a2_0_0 := F3.out.1.cell 0 _ rfl
 have f2_0_0 := F3.out.1.fz 0
 have a2_0_1 := F3.out.1.cell 1 _ rfl
 have f2_0_1 := F3.out.1.fz 1
 have a2_0_2 := F3.out.1.cell 2 _ rfl
 have f2_0_2 := F3.out.1.fz 2
 have l2_1 := F3.out.2.1.lt
 have a2_1_0 := F3.out.2.1.cell 0 _ rfl
 have f2_1_0 := F3.out.2.1.fz 0
 have a2_1_1 := F3.out.2.1.cell 1 _ rfl
 have f2_1_1 := F3.out.2.1.fz 1
 have a2_1_2 := F3.out.2.1.cell 2 _ rfl
 have f2_1_2 := F3.out.2.1.fz 2
 have a2_1_3 := F3.out.2.1.cell 3 _ rfl
 have f2_1_3 := F3.out.2.1.fz 3
 have ne2_0_1 : ¬ w.heap.size = w2.heap.size := by omega
 have ne2_1_0 : ¬ w2.heap.size = w.heap.size := by omega
 go_wp2
 refine bodyPost_ret (v := .tuple #[.agg #[.string s, .int .i64 p, .bool false], .nilIface]) (by simp [results, Tryz.results10, go_sem, World.cell?_setCell_same, World.cell?_setCell_other, *]) rfl ⟨rfl, ?_⟩
 repeat (first | refine Below.setCell ?_ (by first | exact Nat.le_refl _ | (dsimp only; omega)) _ | refine Below.alloc ?_ (by first | exact Nat.le_refl _ | omega | (simp; omega)) _ | refine Below.drew ?_)
 exact F3.out.2.2
def Sf (z : Int) (f T : Nat) (L : Int) (S I : Nat) : Prop :=
 (z = 32 ∧ f = 23 ∧ T = 255 ∧ L = -149 ∧ S = 2147483648 ∧ I = 2139095040) ∨ (z = 64 ∧ f = 52 ∧ T = 2047 ∧ L = -1074 ∧ S = 9223372036854775808 ∧ I = 9218868437227405312)
structure Fn (z : Int) (f T : Nat) (L : Int) (S I b : Nat) : Prop where
 sf : Sf z f T L S I
 lt : b < 2 * S
 fin : mg S b < I
def Bad (b : Nat) (z n : Int) : Prop := (Sn z ∧ n = 5) ∨ (z = 32 ∧ 4294967296 ≤ b ∧ n = 1) ∨ ∃ f T L S I, Sf z f T L S I ∧ b < 2 * S ∧ I ≤ mg S b ∧ n = 1
theorem kinds (b : Nat) (z : Int) (hb : b < 18446744073709551616) : (∃ n, Bad b z n) ∨ ∃ f T L S I, Fn z f T L S I b := by
 by_cases h1 : z = 32
 · by_cases h2 : b < 4294967296
   · by_cases h3 : mg 2147483648 b < 2139095040
     · exact Or.inr ⟨23, 255, -149, 2147483648, 2139095040, Or.inl ⟨h1, rfl, rfl, rfl, rfl, rfl⟩, by omega, h3⟩
     · exact Or.inl ⟨1, Or.inr (Or.inr ⟨23, 255, -149, 2147483648, 2139095040, Or.inl ⟨h1, rfl, rfl, rfl, rfl, rfl⟩, by omega, by omega, rfl⟩)⟩
   · exact Or.inl ⟨1, Or.inr (Or.inl ⟨h1, by omega, rfl⟩)⟩
 · by_cases h2 : z = 64
   · by_cases h3 : mg 9223372036854775808 b < 9218868437227405312
     · exact Or.inr ⟨52, 2047, -1074, 9223372036854775808, 9218868437227405312, Or.inr ⟨h2, rfl, rfl, rfl, rfl, rfl⟩, by omega, h3⟩
     · exact Or.inl ⟨1, Or.inr (Or.inr ⟨52, 2047, -1074, 9223372036854775808, 9218868437227405312, Or.inr ⟨h2, rfl, rfl, rfl, rfl, rfl⟩, by omega, by omega, rfl⟩)⟩
   · exact Or.inl ⟨5, Or.inl ⟨⟨h1, h2⟩, rfl⟩⟩
theorem Bad.not0 {b : Nat} {z n : Int} (h : Bad b z n) : (n == 0) = false := by
 rcases h with ⟨_, rfl⟩ | ⟨_, _, rfl⟩ | ⟨_, _, _, _, _, _, _, _, rfl⟩ <;> rfl
theorem Sf.fs {z : Int} {f T : Nat} {L : Int} {S I : Nat} (h : Sf z f T L S I) : Fs f T L ∧ I = T * 2 ^ f ∧ 2 * S ≤ 18446744073709551616 ∧ 2 ≤ S ∧ S % 2 = 0 ∧ 1 < I ∧ I < S := by
 rcases h with ⟨_, rfl, rfl, rfl, rfl, rfl⟩ | ⟨_, rfl, rfl, rfl, rfl, rfl⟩
 · exact ⟨Or.inl ⟨rfl, rfl, rfl⟩, by decide, by omega, by omega, by omega, by omega, by omega⟩
 · exact ⟨Or.inr ⟨rfl, rfl, rfl⟩, by decide, by omega, by omega, by omega, by omega, by omega⟩
theorem unp_any {z : Int} {f T : Nat} {L : Int} {S I b : Nat} (h : Sf z f T L S I) (hb : b < 2 * S) (w : World) :
 Calls Tryz.prog 14 #[.int .u64 (b : Int), .int .i64 z] w fun e w' => e = .returned (.tuple #[.agg #[.bool (uN S I b), .int .i64 (cl I (mg S b)), .int .u64 ((uM I f (mg S b) : Nat) : Int), .int .i64 (uE I f L (mg S b))], .nilIface]) ∧ Below w.heap.size w w' := by
 rcases h with ⟨rfl, rfl, rfl, rfl, rfl, rfl⟩ | ⟨rfl, rfl, rfl, rfl, rfl, rfl⟩
 · exact unp_32 (by omega) w
 · exact unp_64 (by omega) w
theorem least_any {z : Int} {f T : Nat} {L : Int} {S I : Nat} (h : Sf z f T L S I) (w : World) :
 Calls Tryz.prog 50 #[.int .i64 z] w fun e w' => e = .returned (.tuple #[.int .u64 1, .nilIface]) ∧ Below w.heap.size w w' := by
 rcases h with ⟨rfl, _⟩ | ⟨rfl, _⟩
 · exact bleast_32 w
 · exact bleast_64 w
theorem xp_one {f : Nat} (hf : 1 ≤ f) (L : Int) : xp f L 1 = L ∧ xp f L 0 = L ∧ mt f 0 = 0 := by
 have p : 2 ≤ 2 ^ f := by
  have := Nat.pow_le_pow_right (n := 2) (by omega) hf
  omega
 have e : 1 / 2 ^ f = 0 := Nat.div_eq_of_lt (by omega)
 refine ⟨?_, ?_, ?_⟩
 · unfold xp; rw [e, if_pos rfl]
 · unfold xp; rw [Nat.zero_div, if_pos rfl]
 · unfold mt; rw [Nat.zero_div, if_pos rfl]
theorem Fs.one {f T : Nat} {L : Int} (h : Fs f T L) : 1 ≤ f := by rcases h with ⟨rfl, _⟩ | ⟨rfl, _⟩ <;> omega
theorem Fn.m {z : Int} {f T : Nat} {L : Int} {S I b : Nat} (h : Fn z f T L S I b) : mg S b < T * 2 ^ f := by rw [← h.sf.fs.2.1]; exact h.fin
theorem fin_ok {z : Int} {f T : Nat} {L : Int} {S I b : Nat} (h : Fn z f T L S I b) (w : World) :
 Calls Tryz.prog 22 #[.int .u64 (b : Int), .int .i64 z] w fun e w' => e = .returned (.tuple #[.agg #[.bool (uN S I b), .int .i64 (cl I (mg S b)), .int .u64 ((mt f (mg S b) : Nat) : Int), .int .i64 (xp f L (mg S b))], .nilIface]) ∧ Below w.heap.size w w' := by
 have U := fun W => unp_any h.sf h.lt W
 obtain ⟨fs, hI, _, hS, _, hI1, hIS⟩ := h.sf.fs
 have hx := xp_one fs.one L
 by_cases m0 : mg S b = 0
 · have c1 : cl I (mg S b) = 1 := by rw [m0]; exact cl_zero I
   have e1 : uM I f (mg S b) = 0 := if_neg (by rw [c1]; decide)
   have e2 : uE I f L (mg S b) = 0 := if_neg (by rw [c1]; decide)
   have U1 := fun W => unp_any (b := 1) h.sf (by omega) W
   have g1 : mg S 1 = 1 := Nat.mod_eq_of_lt (by omega)
   have e4 : uE I f L (mg S 1) = xp f L (mg S b) := by
    rw [g1, m0, hx.2.1]
    show (if cl I 1 = 2 then xp f L 1 else 0) = L
    rw [if_pos (cl_fine (by decide) hI1), hx.1]
   rw [e1, e2, c1] at U
   rw [e4] at U1
   rw [c1, show ((mt f (mg S b) : Nat) : Int) = 0 by rw [m0, hx.2.2]; rfl]
   exact fin_zero U (fun W => least_any h.sf W) U1 w
 · have c2 : cl I (mg S b) = 2 := cl_fine m0 h.fin
   have e1 : uM I f (mg S b) = mt f (mg S b) := if_pos c2
   have e2 : uE I f L (mg S b) = xp f L (mg S b) := if_pos c2
   rw [e1, e2, c2] at U
   rw [c2]
   exact fin_fine U w
theorem ex_is {z : Int} {f T : Nat} {L : Int} {S I b : Nat} (h : Fn z f T L S I b) {s : ByteArray} {p : Int} (D : Dx s p (vlF f L (mg S b))) (w : World) :
 Calls Tryz.prog 10 #[.int .u64 (b : Int), .int .i64 z] w fun e w' => e = .returned (.tuple #[dcV s p false, .nilIface]) ∧ Below w.heap.size w w' := by
 have fs := h.sf.fs.1
 have x := xp_in fs h.m
 have m := mt_lt fs (mg S b)
 refine ex_ok (fun W => fin_ok h W) (fun W => pdec_any (by omega) (by omega) (by omega) ?_ D W) w
 by_cases m0 : mg S b = 0
 · right
   rw [m0, (xp_one fs.one L).2.1]
   rcases fs with ⟨_, _, rfl⟩ | ⟨_, _, rfl⟩ <;> omega
 · exact Or.inl (mt_some m0)
theorem Fn.has {z : Int} {f T : Nat} {L : Int} {S I b : Nat} (h : Fn z f T L S I b) : (∃ s p, Dx s p (loF f L (mg S b))) ∧ (∃ t q, Dx t q (hiF f L (mg S b))) ∧ ∃ u o, Dx u o (vlF f L (mg S b)) := by
 have fs := h.sf.fs.1
 have hi : ∀ k, k < T * 2 ^ f → ∃ t q, Dx t q (hiF f L k) := fun k hk => by
  have x := xp_in fs hk
  have m := mt_lt fs k
  exact dx_has (by omega) (by omega) (by omega)
 have x := xp_in fs h.m
 have m := mt_lt fs (mg S b)
 refine ⟨?_, hi _ h.m, dx_has (by omega) (by omega) (by omega)⟩
 by_cases m0 : mg S b = 0
 · rw [m0]; exact ⟨_, _, dx_nought⟩
 · obtain ⟨k, e⟩ : ∃ k, mg S b = k + 1 := ⟨mg S b - 1, by omega⟩
   have := h.m
   rw [e] at this ⊢
   exact hi k (by omega)
theorem Bk.newL (W : World) (l : List Value) (T : TypeId) : Bk (W.alloc (.cells l.toArray T)) W.heap.size l :=
 ⟨by simp, fun i v q => by
  have e := World.cell?_alloc_new (w := W) l.toArray T i
  rw [e]
  simpa using q, fun i => World.frozen?_alloc_new _ _ _ _⟩
theorem rc21_err {b z n : Int} (q1 : (n == 0) = false) (HC : ∀ W, Calls Tryz.prog 36 #[.int .u64 b, .int .i64 z] W fun e w' => e = .returned (.int .i64 n) ∧ Below W.heap.size W w') (w : World) :
 Calls Tryz.prog 17 #[.int .u64 b, .int .i64 z] w fun x w' => x = .returned (.int .i64 n) ∧ Below w.heap.size w w' := by
 have F0 : Hid (Below w.heap.size w w) := Below.refl _ _
 go_enter Tryz.func17, Tryz.ntmps17
 go_wp2_with fail
 all_goals first | (exfalso; omega) | skip
 refine (HC _).mono ?_
 rintro o1 w1 ⟨rfl, bb⟩
 have F1 : Hid (Below w.heap.size w w1) := (F0.out).trans (bb.mono (F0.out).size)
 clear F0
 clear bb
 go_wp2
 go_ret
 exact ⟨rfl, F1.out⟩
theorem rc21_not {b z k : Int} (q1 : (k != 2) = true) (HC : ∀ W, Calls Tryz.prog 36 #[.int .u64 b, .int .i64 z] W fun e w' => e = .returned (.int .i64 0) ∧ Below W.heap.size W w') (HO : ∀ W, Calls Tryz.prog 37 #[.int .u64 b, .int .i64 z] W fun e w' => e = .returned (.int .i64 k) ∧ Below W.heap.size W w') (w : World) :
 Calls Tryz.prog 17 #[.int .u64 b, .int .i64 z] w fun x w' => x = .returned (.int .i64 1) ∧ Below w.heap.size w w' := by
 have F0 : Hid (Below w.heap.size w w) := Below.refl _ _
 go_enter Tryz.func17, Tryz.ntmps17
 go_wp2_with fail
 all_goals first | (exfalso; omega) | skip
 refine (HC _).mono ?_
 rintro o1 w1 ⟨rfl, bb⟩
 have F1 : Hid (Below w.heap.size w w1) := (F0.out).trans (bb.mono (F0.out).size)
 clear F0
 clear bb
 go_wp2_with fail
 all_goals first | (exfalso; omega) | skip
 refine (HO _).mono ?_
 rintro o2 w2 ⟨rfl, bb⟩
 have F2 : Hid (Below w.heap.size w w2) := (F1.out).trans (bb.mono (F1.out).size)
 clear F1
 clear bb
 go_wp2
 go_ret
 exact ⟨rfl, F2.out⟩
theorem rc21_ok {b z k : Int} (q1 : (k != 2) = false) (HC : ∀ W, Calls Tryz.prog 36 #[.int .u64 b, .int .i64 z] W fun e w' => e = .returned (.int .i64 0) ∧ Below W.heap.size W w') (HO : ∀ W, Calls Tryz.prog 37 #[.int .u64 b, .int .i64 z] W fun e w' => e = .returned (.int .i64 k) ∧ Below W.heap.size W w') (w : World) :
 Calls Tryz.prog 17 #[.int .u64 b, .int .i64 z] w fun x w' => x = .returned (.int .i64 0) ∧ Below w.heap.size w w' := by
 have F0 : Hid (Below w.heap.size w w) := Below.refl _ _
 go_enter Tryz.func17, Tryz.ntmps17
 go_wp2_with fail
 all_goals first | (exfalso; omega) | skip
 refine (HC _).mono ?_
 rintro o1 w1 ⟨rfl, bb⟩
 have F1 : Hid (Below w.heap.size w w1) := (F0.out).trans (bb.mono (F0.out).size)
 clear F0
 clear bb
 go_wp2_with fail
 all_goals first | (exfalso; omega) | skip
 refine (HO _).mono ?_
 rintro o2 w2 ⟨rfl, bb⟩
 have F2 : Hid (Below w.heap.size w w2) := (F1.out).trans (bb.mono (F1.out).size)
 clear F1
 clear bb
 go_wp2
 go_ret
 exact ⟨rfl, F2.out⟩
theorem and_oneH {a : Nat} (h : a < 18446744073709551616) : bits BinOp.and IntKind.u64 (a : Int) 1 = ((a % 2 : Nat) : Int) := by
 have e := u64_and_nat a 1 h (by decide)
 rw [show ((1 : Nat) : Int) = 1 from rfl] at e
 rw [e, nat_mask1]
theorem wh_far {b z e0 : Int} {m : Nat} (q1 : 64 ≤ e0) (HP : ∀ W, Calls Tryz.prog 21 #[.int .u64 b, .int .i64 z] W fun e w' => e = .returned (.tuple #[.int .u64 (m : Int), .int .i64 e0]) ∧ Below W.heap.size W w') (w : World) :
 Calls Tryz.prog 9 #[.int .u64 b, .int .i64 z, .int .u64 9007199254740992] w fun x w' => x = .returned (.bool false) ∧ Below w.heap.size w w' := by
 have F0 : Hid (Below w.heap.size w w) := Below.refl _ _
 go_enter Tryz.func9, Tryz.ntmps9
 go_wp2_with fail
 all_goals first | (exfalso; omega) | skip
 refine (HP _).mono ?_
 rintro o1 w1 ⟨rfl, bb⟩
 have F1 : Hid (Below w.heap.size w w1) := (F0.out).trans (bb.mono (F0.out).size)
 clear F0
 clear bb
 go_wp2
 go_loopw [7, 8] (fun mv ev wr => mv = .int .u64 (m : Int) ∧ ev = .int .i64 e0 ∧ Hid (Below w.heap.size w wr)) (fun _ _ _ => 0)
 case atStart => exact ⟨rfl, rfl, F1.out⟩
 case round =>
  obtain ⟨rfl, rfl, HB⟩ := hrel
  have n0 : ¬ e0 < 0 := by omega
  have n1 : 0 ≤ e0 := by omega
  go_wp2
  go_ret
  exact ⟨rfl, HB.out⟩
theorem wh_big {b z e0 : Int} {m : Nat} (q1 : 0 ≤ e0) (q2 : e0 < 64) (q3 : ¬ (m : Int) ≤ 9007199254740991 / 2 ^ e0.toNat) (HP : ∀ W, Calls Tryz.prog 21 #[.int .u64 b, .int .i64 z] W fun e w' => e = .returned (.tuple #[.int .u64 (m : Int), .int .i64 e0]) ∧ Below W.heap.size W w') (w : World) :
 Calls Tryz.prog 9 #[.int .u64 b, .int .i64 z, .int .u64 9007199254740992] w fun x w' => x = .returned (.bool false) ∧ Below w.heap.size w w' := by
 have F0 : Hid (Below w.heap.size w w) := Below.refl _ _
 go_enter Tryz.func9, Tryz.ntmps9
 go_wp2_with fail
 all_goals first | (exfalso; omega) | skip
 refine (HP _).mono ?_
 rintro o1 w1 ⟨rfl, bb⟩
 have F1 : Hid (Below w.heap.size w w1) := (F0.out).trans (bb.mono (F0.out).size)
 clear F0
 clear bb
 go_wp2
 go_loopw [7, 8] (fun mv ev wr => mv = .int .u64 (m : Int) ∧ ev = .int .i64 e0 ∧ Hid (Below w.heap.size w wr)) (fun _ _ _ => 0)
 case atStart => exact ⟨rfl, rfl, F1.out⟩
 case round =>
  obtain ⟨rfl, rfl, HB⟩ := hrel
  have n0 : ¬ e0 < 0 := by omega
  have n1 : 0 ≤ e0 := by omega
  go_wp2
  go_ret
  exact ⟨by first | rfl | (show Ending.returned (Value.bool (decide _)) = _; rw [decide_eq_false (by omega)]), HB.out⟩
theorem wh_small {b z e0 : Int} {m : Nat} (q1 : e0 < 0) (q2 : -5000 ≤ e0) (m0 : 0 < m) (m53 : m < 9007199254740992) (nw : Hid (m % 2 ^ (-e0).toNat ≠ 0)) (HP : ∀ W, Calls Tryz.prog 21 #[.int .u64 b, .int .i64 z] W fun e w' => e = .returned (.tuple #[.int .u64 (m : Int), .int .i64 e0]) ∧ Below W.heap.size W w') (w : World) :
 Calls Tryz.prog 9 #[.int .u64 b, .int .i64 z, .int .u64 9007199254740992] w fun x w' => x = .returned (.bool false) ∧ Below w.heap.size w w' := by
 have F0 : Hid (Below w.heap.size w w) := Below.refl _ _
 go_enter Tryz.func9, Tryz.ntmps9
 go_wp2_with fail
 all_goals first | (exfalso; omega) | skip
 refine (HP _).mono ?_
 rintro o1 w1 ⟨rfl, bb⟩
 have F1 : Hid (Below w.heap.size w w1) := (F0.out).trans (bb.mono (F0.out).size)
 clear F0
 clear bb
 go_wp2
 go_loopw [7, 8] (fun mv ev wr => ∃ j y : Nat, mv = .int .u64 (y : Int) ∧ ev = .int .i64 (e0 + (j : Int)) ∧ 0 < y ∧ y < 9007199254740992 ∧ e0 + (j : Int) < 0 ∧ Hid (y * 2 ^ j = m) ∧ Hid (Below w.heap.size w wr)) (fun mv _ _ => (intOf mv).toNat)
 case atStart => exact ⟨0, m, rfl, by go_num, m0, m53, by omega, Nat.mul_one m, F1.out⟩
 case round =>
  obtain ⟨j, y, rfl, rfl, y0, y53, n0, HY, HB⟩ := hrel
  have n1 : ¬ 0 ≤ e0 + (j : Int) := by omega
  have yp : (0 : Int) < (y : Int) := by omega
  have ye : bits BinOp.and IntKind.u64 (y : Int) 1 = ((y % 2 : Nat) : Int) := and_oneH (by omega)
  by_cases c : y % 2 = 0
  · have yz : (((y % 2 : Nat) : Int) == 0) = true := by rw [c]; rfl
    have HJ : Hid (e0 + ((j + 1 : Nat) : Int) < 0 ∧ y / 2 * 2 ^ (j + 1) = m) := by
     have e1 : y / 2 * 2 ^ (j + 1) = m := by rw [← HY.out, Nat.pow_succ, Nat.mul_comm (2 ^ j) 2, ← Nat.mul_assoc]; congr 1; omega
     refine ⟨?_, e1⟩
     apply Int.not_le.1
     intro g
     apply nw.out
     rw [← e1, show (-e0).toNat = j + 1 by omega]
     exact Nat.mul_mod_left _ _
    have hj := HJ.out.1
    go_wp2
    go_roundw
    case rel => exact ⟨j + 1, y / 2, by first | rfl | go_num, by first | rfl | go_num, by omega, by omega, HJ.out.1, HJ.out.2, HB⟩
    case measure => simp [intOf]; omega
  · have yz : (((y % 2 : Nat) : Int) == 0) = false := beq_eq_false_iff_ne.mpr (by omega)
    go_wp2
    go_ret
    exact ⟨rfl, HB.out⟩
theorem rd23_err {b z n er : Int} (q1 : (er != 0) = true) (HC : ∀ W, Calls Tryz.prog 17 #[.int .u64 b, .int .i64 z] W fun e w' => e = .returned (.int .i64 er) ∧ Below W.heap.size W w') (w : World) :
 Calls Tryz.prog 6 #[.int .u64 b, .int .i64 z, .int .i64 n] w fun x w' => x = .returned (.tuple #[.agg #[.string ⟨#[]⟩, .int .i64 0, .bool false], .int .i64 er]) ∧ Below w.heap.size w w' := by
 have F0 : Hid (Bk (w.alloc (.cells #[.string ⟨#[]⟩, .int .i64 0, .bool false] 24)) (w.heap.size) [.string ⟨#[]⟩, .int .i64 0, .bool false] ∧ Below w.heap.size w (w.alloc (.cells #[.string ⟨#[]⟩, .int .i64 0, .bool false] 24))) := ⟨Bk.newL w [.string ⟨#[]⟩, .int .i64 0, .bool false] 24, ((Below.refl w.heap.size w)).alloc (Nat.le_refl _) _⟩
 go_enter Tryz.func6, Tryz.ntmps6
 go_upto_region 1 with fail
 generalize (w.alloc (.cells #[.string ⟨#[]⟩, .int .i64 0, .bool false] 24)) = w1 at *
 have l1_0 := F0.out.1.lt
 have a1_0_0 := F0.out.1.cell 0 _ rfl
 have f1_0_0 := F0.out.1.fz 0
 have a1_0_1 := F0.out.1.cell 1 _ rfl
 have f1_0_1 := F0.out.1.fz 1
 have a1_0_2 := F0.out.1.cell 2 _ rfl
 have f1_0_2 := F0.out.1.fz 2
 go_wp2_with fail
 all_goals first | (exfalso; omega) | skip
 refine (HC _).mono ?_
 rintro o2 w2 ⟨rfl, bb⟩
 have F1 : Hid (Bk w2 (w.heap.size) [.string ⟨#[]⟩, .int .i64 0, .bool false] ∧ Below w.heap.size w w2) := ⟨(F0.out.1).step bb, (F0.out.2).trans (bb.mono (F0.out.2).size)⟩
 clear F0
 clear bb
 clear l1_0 a1_0_0 f1_0_0 a1_0_1 f1_0_1 a1_0_2 f1_0_2
 have l2_0 := F1.out.1.lt
 have a2_0_0 := F1.out.1.cell 0 _ rfl
 have f2_0_0 := F1.out.1.fz 0
 have a2_0_1 := F1.out.1.cell 1 _ rfl
 have f2_0_1 := F1.out.1.fz 1
 have a2_0_2 := F1.out.1.cell 2 _ rfl
 have f2_0_2 := F1.out.1.fz 2
 go_wp2
 refine bodyPost_ret (v := .tuple #[.agg #[.string ⟨#[]⟩, .int .i64 0, .bool false], .int .i64 er]) (by simp [results, Tryz.results6, go_sem, World.cell?_setCell_same, World.cell?_setCell_other, *]) rfl ⟨rfl, ?_⟩
 repeat (first | refine Below.setCell ?_ (by first | exact Nat.le_refl _ | (dsimp only; omega)) _ | refine Below.alloc ?_ (by first | exact Nat.le_refl _ | omega | (simp; omega)) _ | refine Below.drew ?_)
 exact F1.out.2
theorem rd23_lo {b z n : Int} (n1 : n < 1) (HC : ∀ W, Calls Tryz.prog 17 #[.int .u64 b, .int .i64 z] W fun e w' => e = .returned (.int .i64 0) ∧ Below W.heap.size W w') (w : World) :
 Calls Tryz.prog 6 #[.int .u64 b, .int .i64 z, .int .i64 n] w fun x w' => x = .returned (.tuple #[.agg #[.string ⟨#[]⟩, .int .i64 0, .bool false], .int .i64 1]) ∧ Below w.heap.size w w' := by
 have F0 : Hid (Bk (w.alloc (.cells #[.string ⟨#[]⟩, .int .i64 0, .bool false] 24)) (w.heap.size) [.string ⟨#[]⟩, .int .i64 0, .bool false] ∧ Below w.heap.size w (w.alloc (.cells #[.string ⟨#[]⟩, .int .i64 0, .bool false] 24))) := ⟨Bk.newL w [.string ⟨#[]⟩, .int .i64 0, .bool false] 24, ((Below.refl w.heap.size w)).alloc (Nat.le_refl _) _⟩
 go_enter Tryz.func6, Tryz.ntmps6
 go_upto_region 1 with fail
 generalize (w.alloc (.cells #[.string ⟨#[]⟩, .int .i64 0, .bool false] 24)) = w1 at *
 have l1_0 := F0.out.1.lt
 have a1_0_0 := F0.out.1.cell 0 _ rfl
 have f1_0_0 := F0.out.1.fz 0
 have a1_0_1 := F0.out.1.cell 1 _ rfl
 have f1_0_1 := F0.out.1.fz 1
 have a1_0_2 := F0.out.1.cell 2 _ rfl
 have f1_0_2 := F0.out.1.fz 2
 go_wp2_with fail
 all_goals first | (exfalso; omega) | skip
 refine (HC _).mono ?_
 rintro o2 w2 ⟨rfl, bb⟩
 have F1 : Hid (Bk w2 (w.heap.size) [.string ⟨#[]⟩, .int .i64 0, .bool false] ∧ Below w.heap.size w w2) := ⟨(F0.out.1).step bb, (F0.out.2).trans (bb.mono (F0.out.2).size)⟩
 clear F0
 clear bb
 clear l1_0 a1_0_0 f1_0_0 a1_0_1 f1_0_1 a1_0_2 f1_0_2
 have l2_0 := F1.out.1.lt
 have a2_0_0 := F1.out.1.cell 0 _ rfl
 have f2_0_0 := F1.out.1.fz 0
 have a2_0_1 := F1.out.1.cell 1 _ rfl
 have f2_0_1 := F1.out.1.fz 1
 have a2_0_2 := F1.out.1.cell 2 _ rfl
 have f2_0_2 := F1.out.1.fz 2
 skip
 go_wp2
 refine bodyPost_ret (v := .tuple #[.agg #[.string ⟨#[]⟩, .int .i64 0, .bool false], .int .i64 1]) (by simp [results, Tryz.results6, go_sem, World.cell?_setCell_same, World.cell?_setCell_other, *]) rfl ⟨rfl, ?_⟩
 repeat (first | refine Below.setCell ?_ (by first | exact Nat.le_refl _ | (dsimp only; omega)) _ | refine Below.alloc ?_ (by first | exact Nat.le_refl _ | omega | (simp; omega)) _ | refine Below.drew ?_)
 exact F1.out.2
theorem rd23_hi {b z n : Int} (n1 : 18 < n) (HC : ∀ W, Calls Tryz.prog 17 #[.int .u64 b, .int .i64 z] W fun e w' => e = .returned (.int .i64 0) ∧ Below W.heap.size W w') (w : World) :
 Calls Tryz.prog 6 #[.int .u64 b, .int .i64 z, .int .i64 n] w fun x w' => x = .returned (.tuple #[.agg #[.string ⟨#[]⟩, .int .i64 0, .bool false], .int .i64 1]) ∧ Below w.heap.size w w' := by
 have F0 : Hid (Bk (w.alloc (.cells #[.string ⟨#[]⟩, .int .i64 0, .bool false] 24)) (w.heap.size) [.string ⟨#[]⟩, .int .i64 0, .bool false] ∧ Below w.heap.size w (w.alloc (.cells #[.string ⟨#[]⟩, .int .i64 0, .bool false] 24))) := ⟨Bk.newL w [.string ⟨#[]⟩, .int .i64 0, .bool false] 24, ((Below.refl w.heap.size w)).alloc (Nat.le_refl _) _⟩
 go_enter Tryz.func6, Tryz.ntmps6
 go_upto_region 1 with fail
 generalize (w.alloc (.cells #[.string ⟨#[]⟩, .int .i64 0, .bool false] 24)) = w1 at *
 have l1_0 := F0.out.1.lt
 have a1_0_0 := F0.out.1.cell 0 _ rfl
 have f1_0_0 := F0.out.1.fz 0
 have a1_0_1 := F0.out.1.cell 1 _ rfl
 have f1_0_1 := F0.out.1.fz 1
 have a1_0_2 := F0.out.1.cell 2 _ rfl
 have f1_0_2 := F0.out.1.fz 2
 go_wp2_with fail
 all_goals first | (exfalso; omega) | skip
 refine (HC _).mono ?_
 rintro o2 w2 ⟨rfl, bb⟩
 have F1 : Hid (Bk w2 (w.heap.size) [.string ⟨#[]⟩, .int .i64 0, .bool false] ∧ Below w.heap.size w w2) := ⟨(F0.out.1).step bb, (F0.out.2).trans (bb.mono (F0.out.2).size)⟩
 clear F0
 clear bb
 clear l1_0 a1_0_0 f1_0_0 a1_0_1 f1_0_1 a1_0_2 f1_0_2
 have l2_0 := F1.out.1.lt
 have a2_0_0 := F1.out.1.cell 0 _ rfl
 have f2_0_0 := F1.out.1.fz 0
 have a2_0_1 := F1.out.1.cell 1 _ rfl
 have f2_0_1 := F1.out.1.fz 1
 have a2_0_2 := F1.out.1.cell 2 _ rfl
 have f2_0_2 := F1.out.1.fz 2
 have n2 : ¬ n < 1 := by omega
 go_wp2
 refine bodyPost_ret (v := .tuple #[.agg #[.string ⟨#[]⟩, .int .i64 0, .bool false], .int .i64 1]) (by simp [results, Tryz.results6, go_sem, World.cell?_setCell_same, World.cell?_setCell_other, *]) rfl ⟨rfl, ?_⟩
 repeat (first | refine Below.setCell ?_ (by first | exact Nat.le_refl _ | (dsimp only; omega)) _ | refine Below.alloc ?_ (by first | exact Nat.le_refl _ | omega | (simp; omega)) _ | refine Below.drew ?_)
 exact F1.out.2
theorem rd23_ok {b z n o q e1 e2 : Int} {u v : ByteArray} (n1 : 1 ≤ n) (n2 : n ≤ 18) (HC : ∀ W, Calls Tryz.prog 17 #[.int .u64 b, .int .i64 z] W fun e w' => e = .returned (.int .i64 0) ∧ Below W.heap.size W w') (HE : ∀ W, Calls Tryz.prog 18 #[.int .u64 b, .int .i64 z] W fun e w' => e = .returned (.tuple #[.agg #[.string u, .int .i64 o, .bool false], .int .i64 e1]) ∧ Below W.heap.size W w') (HR : ∀ W, Calls Tryz.prog 19 #[.agg #[.string u, .int .i64 o, .bool false], .int .i64 n] W fun e w' => e = .returned (.tuple #[.agg #[.string v, .int .i64 q, .bool false], .int .i64 e2]) ∧ Below W.heap.size W w') (w : World) :
 Calls Tryz.prog 6 #[.int .u64 b, .int .i64 z, .int .i64 n] w fun x w' => x = .returned (.tuple #[.agg #[.string v, .int .i64 q, .bool false], .int .i64 0]) ∧ Below w.heap.size w w' := by
 have F0 : Hid (Bk (w.alloc (.cells #[.string ⟨#[]⟩, .int .i64 0, .bool false] 24)) (w.heap.size) [.string ⟨#[]⟩, .int .i64 0, .bool false] ∧ Below w.heap.size w (w.alloc (.cells #[.string ⟨#[]⟩, .int .i64 0, .bool false] 24))) := ⟨Bk.newL w [.string ⟨#[]⟩, .int .i64 0, .bool false] 24, ((Below.refl w.heap.size w)).alloc (Nat.le_refl _) _⟩
 go_enter Tryz.func6, Tryz.ntmps6
 go_upto_region 1 with fail
 generalize (w.alloc (.cells #[.string ⟨#[]⟩, .int .i64 0, .bool false] 24)) = w1 at *
 have l1_0 := F0.out.1.lt
 have a1_0_0 := F0.out.1.cell 0 _ rfl
 have f1_0_0 := F0.out.1.fz 0
 have a1_0_1 := F0.out.1.cell 1 _ rfl
 have f1_0_1 := F0.out.1.fz 1
 have a1_0_2 := F0.out.1.cell 2 _ rfl
 have f1_0_2 := F0.out.1.fz 2
 go_wp2_with fail
 all_goals first | (exfalso; omega) | skip
 refine (HC _).mono ?_
 rintro o2 w2 ⟨rfl, bb⟩
 have F1 : Hid (Bk w2 (w.heap.size) [.string ⟨#[]⟩, .int .i64 0, .bool false] ∧ Below w.heap.size w w2) := ⟨(F0.out.1).step bb, (F0.out.2).trans (bb.mono (F0.out.2).size)⟩
 clear F0
 clear bb
 clear l1_0 a1_0_0 f1_0_0 a1_0_1 f1_0_1 a1_0_2 f1_0_2
 have l2_0 := F1.out.1.lt
 have a2_0_0 := F1.out.1.cell 0 _ rfl
 have f2_0_0 := F1.out.1.fz 0
 have a2_0_1 := F1.out.1.cell 1 _ rfl
 have f2_0_1 := F1.out.1.fz 1
 have a2_0_2 := F1.out.1.cell 2 _ rfl
 have f2_0_2 := F1.out.1.fz 2
 have n3 : ¬ n < 1 := by omega
 have n4 : ¬ 18 < n := by omega
 go_wp2_with fail
 all_goals first | (exfalso; omega) | skip
 refine (HE _).mono ?_
 rintro o3 w3 ⟨rfl, bb⟩
 have F2 : Hid (Bk w3 (w.heap.size) [.string ⟨#[]⟩, .int .i64 0, .bool false] ∧ Below w.heap.size w w3) := ⟨(F1.out.1).step bb, (F1.out.2).trans (bb.mono (F1.out.2).size)⟩
 clear F1
 clear bb
 clear l2_0 a2_0_0 f2_0_0 a2_0_1 f2_0_1 a2_0_2 f2_0_2
 have lt0_1 := (F2.out.1).lt
 have le1 := (F2.out.2).size
 have F3 : Hid (Bk (w3.alloc (.cells #[.string u, .int .i64 o, .bool false] 24)) (w.heap.size) [.string ⟨#[]⟩, .int .i64 0, .bool false] ∧ Bk (w3.alloc (.cells #[.string u, .int .i64 o, .bool false] 24)) (w3.heap.size) [.string u, .int .i64 o, .bool false] ∧ Below w.heap.size w (w3.alloc (.cells #[.string u, .int .i64 o, .bool false] 24))) := ⟨(F2.out.1).step ((Below.refl _ _).alloc (Nat.le_refl _) _), Bk.newL w3 [.string u, .int .i64 o, .bool false] 24, (F2.out.2).alloc ((F2.out.2).size) _⟩
 clear F2
 go_upto_region 7 with fail
 generalize (w3.alloc (.cells #[.string u, .int .i64 o, .bool false] 24)) = w4 at *
 have l3_0 := F3.out.1.lt
 have a3_0_0 := F3.out.1.cell 0 _ rfl
 have f3_0_0 := F3.out.1.fz 0
 have a3_0_1 := F3.out.1.cell 1 _ rfl
 have f3_0_1 := F3.out.1.fz 1
 have a3_0_2 := F3.out.1.cell 2 _ rfl
 have f3_0_2 := F3.out.1.fz 2
 have l3_1 := F3.out.2.1.lt
 have a3_1_0 := F3.out.2.1.cell 0 _ rfl
 have f3_1_0 := F3.out.2.1.fz 0
 have a3_1_1 := F3.out.2.1.cell 1 _ rfl
 have f3_1_1 := F3.out.2.1.fz 1
 have a3_1_2 := F3.out.2.1.cell 2 _ rfl
 have f3_1_2 := F3.out.2.1.fz 2
 have ne3_0_1 : ¬ w.heap.size = w3.heap.size := by omega
 have ne3_1_0 : ¬ w3.heap.size = w.heap.size := by omega
 go_wp2_with fail
 all_goals first | (exfalso; omega) | skip
 refine (HR _).mono ?_
 rintro o5 w5 ⟨rfl, bb⟩
 have F4 : Hid (Bk w5 (w.heap.size) [.string ⟨#[]⟩, .int .i64 0, .bool false] ∧ Bk w5 (w3.heap.size) [.string u, .int .i64 o, .bool false] ∧ Below w.heap.size w w5) := ⟨(F3.out.1).step bb, (F3.out.2.1).step bb, (F3.out.2.2).trans (bb.mono (F3.out.2.2).size)⟩
 clear F3
 clear bb
 clear l3_0 a3_0_0 f3_0_0 a3_0_1 f3_0_1 a3_0_2 f3_0_2 l3_1 a3_1_0 f3_1_0 a3_1_1 f3_1_1 a3_1_2 f3_1_2
 have lt0_2 := (F4.out.1).lt
 have lt1_2 := (F4.out.2.1).lt
 have le2 := (F4.out.2.2).size
 have F5 : Hid (Bk (w5.alloc (.cells #[.string v, .int .i64 q, .bool false] 24)) (w.heap.size) [.string ⟨#[]⟩, .int .i64 0, .bool false] ∧ Bk (w5.alloc (.cells #[.string v, .int .i64 q, .bool false] 24)) (w3.heap.size) [.string u, .int .i64 o, .bool false] ∧ Bk (w5.alloc (.cells #[.string v, .int .i64 q, .bool false] 24)) (w5.heap.size) [.string v, .int .i64 q, .bool false] ∧ Below w.heap.size w (w5.alloc (.cells #[.string v, .int .i64 q, .bool false] 24))) := ⟨(F4.out.1).step ((Below.refl _ _).alloc (Nat.le_refl _) _), (F4.out.2.1).step ((Below.refl _ _).alloc (Nat.le_refl _) _), Bk.newL w5 [.string v, .int .i64 q, .bool false] 24, (F4.out.2.2).alloc ((F4.out.2.2).size) _⟩
 clear F4
 go_upto_region 8 with fail
 generalize (w5.alloc (.cells #[.string v, .int .i64 q, .bool false] 24)) = w6 at *
 have l4_0 := F5.out.1.lt
 have a4_0_0 := F5.out.1.cell 0 _ rfl
 have f4_0_0 := F5.out.1.fz 0
 have a4_0_1 := F5.out.1.cell 1 _ rfl
 have f4_0_1 := F5.out.1.fz 1
 have a4_0_2 := F5.out.1.cell 2 _ rfl
 have f4_0_2 := F5.out.1.fz 2
 have l4_1 := F5.out.2.1.lt
 have a4_1_0 := F5.out.2.1.cell 0 _ rfl
 have f4_1_0 := F5.out.2.1.fz 0
 have a4_1_1 := F5.out.2.1.cell 1 _ rfl
 have f4_1_1 := F5.out.2.1.fz 1
 have a4_1_2 := F5.out.2.1.cell 2 _ rfl
 have f4_1_2 := F5.out.2.1.fz 2
 have l4_2 := F5.out.2.2.1.lt
 have a4_2_0 := F5.out.2.2.1.cell 0 _ rfl
 have f4_2_0 := F5.out.2.2.1.fz 0
 have a4_2_1 := F5.out.2.2.1.cell 1 _ rfl
 have f4_2_1 := F5.out.2.2.1.fz 1
 have a4_2_2 := F5.out.2.2.1.cell 2 _ rfl
 have f4_2_2 := F5.out.2.2.1.fz 2
 have ne4_0_1 : ¬ w.heap.size = w3.heap.size := by omega
 have ne4_0_2 : ¬ w.heap.size = w5.heap.size := by omega
 have ne4_1_0 : ¬ w3.heap.size = w.heap.size := by omega
 have ne4_1_2 : ¬ w3.heap.size = w5.heap.size := by omega
 have ne4_2_0 : ¬ w5.heap.size = w.heap.size := by omega
 have ne4_2_1 : ¬ w5.heap.size = w3.heap.size := by omega
 go_wp2
 refine bodyPost_ret (v := .tuple #[.agg #[.string v, .int .i64 q, .bool false], .int .i64 0]) (by simp [results, Tryz.results6, go_sem, World.cell?_setCell_same, World.cell?_setCell_other, *]) rfl ⟨rfl, ?_⟩
 repeat (first | refine Below.setCell ?_ (by first | exact Nat.le_refl _ | (dsimp only; omega)) _ | refine Below.alloc ?_ (by first | exact Nat.le_refl _ | omega | (simp; omega)) _ | refine Below.drew ?_)
 exact F5.out.2.2.2
end Go.Proofs.YtjagnfddmlkalaaGreatDoor
