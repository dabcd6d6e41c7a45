/-
  Holds: VPpO IvR IvQ IvS IvV IvW IvX.
-/
import Derived.Test.YtdfefjcobeopbaaGreatDoorRows
import Derived.Laws.Externs
import Derived.WalkKit
import Derived.WalkSpells
import Derived.WalkLawsBesides
import Derived.Lib.Mul64
import Derived.Stop.Asserts
import Derived.RowKitTokens
import Derived.Lib.Strings
import Derived.Lib.BufferWrite
import Derived.Deep.OwnRows
import Derived.Deep.RegionHeld3
import Derived.BigQuiet
import Derived.Lib.ConvBytes
import Derived.Laws.CopyOwn
import Derived.Lib.TrailingZeros
import Derived.Lib.ItoaNum
import Derived.Deep.LoopGhost
import Derived.Deep.AppendLies
import Derived.Deep.DeepCutAuto
import Derived.Test.YtdfefjcobeopbaaGreatDoorKb20
import Derived.Test.YtdfefjcobeopbaaGreatDoorKb28
set_option maxRecDepth 100000
set_option maxHeartbeats 4000000
namespace Go.Proofs.YtdfefjcobeopbaaGreatDoor
open Go.RowKit
theorem dsmall_word (x : Nat) (hx : x < 18446744073709551616) (w : World) :
 Calls Tryz.prog 20 #[.int .u64 (x : Int)] w fun e w' => ∃ v, e = .returned v ∧ Big.D.NatV w' v x ∧ Below w.heap.size w w' := by
 obtain ⟨a, ha⟩ : ∃ a, a = x % 4294967296 := ⟨_, rfl⟩
 obtain ⟨b, hb⟩ : ∃ b, b = x / 4294967296 := ⟨_, rfl⟩
 have e1 : (x : Int) % 4294967296 = (a : Int) := by omega
 have e2 : (x : Int) / 4294967296 = (b : Int) := by omega
 have l1 : a < 4294967296 := by omega
 have l2 : b < 4294967296 := by omega
 have hx2 : x = a + b * 4294967296 := by omega
 clear ha hb
 have S : Big.D.Sl (w.alloc (.cells #[.int .u64 (a : Int), .int .u64 (b : Int)] 22)) (some ⟨w.heap.size, 0, none⟩) 2 2 w.heap.size 0 (fun i => if i = 0 then a else if i = 1 then b else 0) := by
  refine ⟨Nat.le_refl _, by unfold maxLen; omega, fun _ => rfl, fun _ => by simp, fun i hi => ?_, fun i => ?_⟩
  · rcases (by omega : i = 0 ∨ i = 1) with rfl | rfl <;> simp
  · show (if i = 0 then a else if i = 1 then b else 0) < 4294967296
    split
    · exact l1
    · split
      · exact l2
      · decide
 have T := Big.D.trim_any S
 have hV : Big.V (fun i => if i = 0 then a else if i = 1 then b else 0) 2 = x := by
  rw [Big.V_succ, Big.V_succ, Big.V_zero, show Big.B ^ 0 = 1 from rfl, show Big.B ^ 1 = 4294967296 from rfl]
  simp
  omega
 have N := S.trimmed
 rw [hV] at N
 have HN : Hid _ := N
 clear N S hV hx2
 go_enter Tryz.func20, Tryz.ntmps20
 go_wp2_with fail
 refine T.mono ?_
 rintro e wa ⟨rfl, rfl⟩
 go_wp2
 go_ret
 exact ⟨_, rfl, HN.out, (Below.refl _ _).alloc (Nat.le_refl _) _⟩
theorem word_fits {m : Nat} (hm : m ≤ 18014398509481984) : Fits 2 m := Fits.word (n := 1) (by unfold B; omega)
theorem five_fit {k : Nat} (h : k ≤ 1075) : Fits 200 (5 ^ k) := by
 have a : 5 ^ k ≤ 8 ^ k := Nat.pow_le_pow_left (by omega) k
 rw [show 8 = 2 ^ 3 from rfl, ← Nat.pow_mul] at a
 exact (two_fits (s := 3 * k) (k := 200) (by omega)).le a
theorem rdec_up {m j : Nat} (h : Kj m 0 j) (m0 : 0 < m) {s : ByteArray} {q : Int} (D : Dx s q (fv m (j : Int))) {w : World} {va : Value} (ha : Big.D.NatV w va m) :
 Calls Tryz.prog 19 #[va, .int .i64 (j : Int)] w fun x w' => x = .returned (dcV s q false) ∧ Below w.heap.size w w' := by
 have hj := h.hj
 have ej : m * 2 ^ j = wh m 0 j := by unfold wh; rw [Nat.pow_zero, Nat.mul_one]
 have fW : Fits 400 (wh m 0 j) := by rw [← ej]; exact ((word_fits h.hm).mul (two_fits (s := j) (k := 100) (by omega))).up (by omega)
 have D' : Dx s q (fv m ((j : Int) - ((0 : Nat) : Int))) := by rw [show (j : Int) - ((0 : Nat) : Int) = (j : Int) by omega]; exact D
 have HX : Hid (wh m 0 j ≠ 0 ∧ Fits 400 (wh m 0 j) ∧ ∀ t, Tx (wh m 0 j) t → t.size ≤ 800 ∧ ∀ W, Calls Tryz.prog 46 #[.string t, .int .i64 (t.size : Int), .bool false] W fun e w' => e = .returned (.tuple #[dcV s q false, .int .i64 0]) ∧ Below W.heap.size W w') := by
  refine ⟨Nat.ne_of_gt (wh_pos m0 0 j), fW, fun t T => ?_⟩
  obtain ⟨a, b⟩ := h.lens m0 T
  refine ⟨b, fun W => ?_⟩
  have M := h.rmake m0 D' T W
  rw [show (t.size : Int) - ((0 : Nat) : Int) = (t.size : Int) by omega] at M
  exact M
 have F0 : Hid (Bk (w.alloc (.cells #[.string ⟨#[]⟩, .int .i64 0, .bool false] 24)) w.heap.size [.string ⟨#[]⟩, .int .i64 0, .bool false] ∧ Below w.heap.size w (w.alloc (.cells #[.string ⟨#[]⟩, .int .i64 0, .bool false] 24)) ∧ Big.D.NatV (w.alloc (.cells #[.string ⟨#[]⟩, .int .i64 0, .bool false] 24)) va m) := ⟨Bk.new3 w _ _ _ _, (Below.refl _ _).alloc (Nat.le_refl _) _, ha.below ((Below.refl _ _).alloc (Nat.le_refl _) _)⟩
 have SH : ∀ W v, Big.D.NatV W v m → Calls Tryz.prog 23 #[v, .int .i64 (j : Int)] W fun e w' => ∃ v, e = .returned v ∧ Big.D.NatV w' v (wh m 0 j) ∧ Below W.heap.size W w' := fun W v hv => by
  rw [← ej]
  exact (dshl_new hv ((word_fits h.hm).up (by omega)) j (by omega)).mono fun e w' ⟨x, a, b, c⟩ => ⟨x, a, b.nat, c⟩
 generalize wh m 0 j = X at *
 clear D D' fW ej h m0 ha
 unfold dcV at *
 go_enter Tryz.func19, Tryz.ntmps19
 go_wp2_with fail
 all_goals first | (exfalso; omega) | skip
 refine (SH _ _ F0.out.2.2).mono ?_
 rintro o w1 ⟨v1, rfl, n1, b1⟩
 have F1 : Hid (Bk w1 w.heap.size [.string ⟨#[]⟩, .int .i64 0, .bool false] ∧ Below w.heap.size w w1 ∧ Big.D.NatV w1 v1 X) := ⟨F0.out.1.step b1, F0.out.2.1.trans (b1.mono F0.out.2.1.size), n1⟩
 clear b1 n1 SH F0
 have DD := decimal_ok F1.out.2.2 HX.out.1 HX.out.2.1
 go_wp2_with fail
 all_goals first | (exfalso; omega) | skip
 refine DD.mono ?_
 rintro o w2 ⟨t, rfl, T, b2⟩
 obtain ⟨ts, MK⟩ := HX.out.2.2 t T
 have F2 : Hid (Bk w2 w.heap.size [.string ⟨#[]⟩, .int .i64 0, .bool false] ∧ Below w.heap.size w w2) := ⟨F1.out.1.step b2, F1.out.2.1.trans (b2.mono F1.out.2.1.size)⟩
 clear b2 T DD F1 HX
 go_wp2_with fail
 refine (MK _).mono ?_
 rintro o w6 ⟨rfl, b6⟩
 have F6 : Hid (Bk w6 w.heap.size [.string ⟨#[]⟩, .int .i64 0, .bool false] ∧ Below w.heap.size w w6) := ⟨F2.out.1.step b6, F2.out.2.trans (b6.mono F2.out.2.size)⟩
 clear b6 MK F2
 have l6 := F6.out.1.lt
 have a0 := F6.out.1.cell 0 _ rfl
 have a1 := F6.out.1.cell 1 _ rfl
 have a2 := F6.out.1.cell 2 _ rfl
 have f0 := F6.out.1.fz 0
 have f1 := F6.out.1.fz 1
 have f2 := F6.out.1.fz 2
 go_wp2
 exact bodyPost_ret (v := .agg #[.string s, .int .i64 q, .bool false]) (by simp [results, Tryz.results19, go_sem, World.cell?_setCell_same, World.cell?_setCell_other, *]) rfl ⟨rfl, (((F6.out.2.setCell (Nat.le_refl _) _).setCell (Nat.le_refl _) _).setCell (Nat.le_refl _) _).alloc (by simpa using F6.out.2.size) _⟩
theorem rdec_dn {m k : Nat} (h : Kj m k 0) (k0 : 0 < k) (m0 : 0 < m) {s : ByteArray} {q : Int} (D : Dx s q (fv m (-(k : Int)))) {w : World} {va : Value} (ha : Big.D.NatV w va m) :
 Calls Tryz.prog 19 #[va, .int .i64 (-(k : Int))] w fun x w' => x = .returned (dcV s q false) ∧ Below w.heap.size w w' := by
 have hk := h.hk
 have ej : m * 5 ^ k = wh m k 0 := by unfold wh; rw [Nat.pow_zero, Nat.mul_one]
 have fW : Fits 400 (wh m k 0) := by rw [← ej]; exact ((word_fits h.hm).mul (five_fit h.hk)).up (by omega)
 have D' : Dx s q (fv m (((0 : Nat) : Int) - (k : Int))) := by rw [show ((0 : Nat) : Int) - (k : Int) = -(k : Int) by omega]; exact D
 have HX : Hid (wh m k 0 ≠ 0 ∧ Fits 400 (wh m k 0) ∧ ∀ t, Tx (wh m k 0) t → t.size ≤ 800 ∧ ∀ W, Calls Tryz.prog 46 #[.string t, .int .i64 ((t.size : Int) - (k : Int)), .bool false] W fun e w' => e = .returned (.tuple #[dcV s q false, .int .i64 0]) ∧ Below W.heap.size W w') := by
  refine ⟨Nat.ne_of_gt (wh_pos m0 k 0), fW, fun t T => ?_⟩
  obtain ⟨a, b⟩ := h.lens m0 T
  exact ⟨b, fun W => h.rmake m0 D' T W⟩
 have F0 : Hid (Bk (w.alloc (.cells #[.string ⟨#[]⟩, .int .i64 0, .bool false] 24)) w.heap.size [.string ⟨#[]⟩, .int .i64 0, .bool false] ∧ Below w.heap.size w (w.alloc (.cells #[.string ⟨#[]⟩, .int .i64 0, .bool false] 24)) ∧ Big.D.NatV (w.alloc (.cells #[.string ⟨#[]⟩, .int .i64 0, .bool false] 24)) va m) := ⟨Bk.new3 w _ _ _ _, (Below.refl _ _).alloc (Nat.le_refl _) _, ha.below ((Below.refl _ _).alloc (Nat.le_refl _) _)⟩
 have PW := fun W => dpow_any 5 k (by decide) (by decide) (by omega) W
 simp only [Int.cast_ofNat_Int] at PW
 have MU : ∀ W v u, Big.D.NatV W v m → Big.D.NatV W u (5 ^ k) → Calls Tryz.prog 47 #[v, u] W fun e w' => ∃ v, e = .returned v ∧ Big.D.NatV w' v (wh m k 0) ∧ Below W.heap.size W w' := fun W v u hv hu => by
  rw [← ej]
  exact dmul_nat hv hu ((word_fits h.hm).up (by omega)) ((five_fit h.hk).up (by omega))
 generalize wh m k 0 = X at *
 clear D D' fW ej h m0 ha
 generalize 5 ^ k = F at *
 unfold dcV at *
 have kn : ¬ 0 ≤ -(k : Int) := by omega
 go_enter Tryz.func19, Tryz.ntmps19
 go_wp2_with fail
 all_goals first | (exfalso; omega) | skip
 try rw [Int.neg_neg]
 refine (PW _).mono ?_
 rintro o w0 ⟨v0, rfl, n0, b0⟩
 have F00 : Hid (Bk w0 w.heap.size [.string ⟨#[]⟩, .int .i64 0, .bool false] ∧ Below w.heap.size w w0 ∧ Big.D.NatV w0 va m ∧ Big.D.NatV w0 v0 F) := ⟨F0.out.1.step b0, F0.out.2.1.trans (b0.mono F0.out.2.1.size), F0.out.2.2.below b0, n0⟩
 clear b0 n0 PW F0
 go_wp2_with fail
 all_goals first | (exfalso; omega) | skip
 refine (MU _ _ _ F00.out.2.2.1 F00.out.2.2.2).mono ?_
 rintro o w1 ⟨v1, rfl, n1, b1⟩
 have F1 : Hid (Bk w1 w.heap.size [.string ⟨#[]⟩, .int .i64 0, .bool false] ∧ Below w.heap.size w w1 ∧ Big.D.NatV w1 v1 X) := ⟨F00.out.1.step b1, F00.out.2.1.trans (b1.mono F00.out.2.1.size), n1⟩
 clear b1 n1 MU F00
 have DD := decimal_ok F1.out.2.2 HX.out.1 HX.out.2.1
 go_wp2_with fail
 all_goals first | (exfalso; omega) | skip
 refine DD.mono ?_
 rintro o w2 ⟨t, rfl, T, b2⟩
 obtain ⟨ts, MK⟩ := HX.out.2.2 t T
 have F2 : Hid (Bk w2 w.heap.size [.string ⟨#[]⟩, .int .i64 0, .bool false] ∧ Below w.heap.size w w2) := ⟨F1.out.1.step b2, F1.out.2.1.trans (b2.mono F1.out.2.1.size)⟩
 clear b2 T DD F1 HX
 have e1 : (t.size : Int) + -(k : Int) = (t.size : Int) - (k : Int) := by omega
 go_wp2_with fail
 all_goals first | (exfalso; omega) | skip
 refine (MK _).mono ?_
 rintro o w6 ⟨rfl, b6⟩
 have F6 : Hid (Bk w6 w.heap.size [.string ⟨#[]⟩, .int .i64 0, .bool false] ∧ Below w.heap.size w w6) := ⟨F2.out.1.step b6, F2.out.2.trans (b6.mono F2.out.2.size)⟩
 clear b6 MK F2
 have l6 := F6.out.1.lt
 have a0 := F6.out.1.cell 0 _ rfl
 have a1 := F6.out.1.cell 1 _ rfl
 have a2 := F6.out.1.cell 2 _ rfl
 have f0 := F6.out.1.fz 0
 have f1 := F6.out.1.fz 1
 have f2 := F6.out.1.fz 2
 go_wp2
 exact bodyPost_ret (v := .agg #[.string s, .int .i64 q, .bool false]) (by simp [results, Tryz.results19, go_sem, World.cell?_setCell_same, World.cell?_setCell_other, *]) rfl ⟨rfl, (((F6.out.2.setCell (Nat.le_refl _) _).setCell (Nat.le_refl _) _).setCell (Nat.le_refl _) _).alloc (by simpa using F6.out.2.size) _⟩
theorem decimal_zero {w : World} {va : Value} (ha : Big.D.NatV w va 0) :
 Calls Tryz.prog 45 #[va] w fun e w' => e = .returned (.string ⟨#[48]⟩) ∧ Below w.heap.size w w' := by
 obtain ⟨ao, n, c, b, o, f, rfl, S, tp, hv⟩ := ha
 obtain rfl : n = 0 := by
  apply Nat.eq_zero_of_not_pos
  intro z
  have q := Big.Top_ge tp z
  have := Nat.pow_pos (n := n - 1) Big.B_pos
  omega
 obtain ⟨i0, hi, hz0, hz1, hz2⟩ := info_parts Big.D.info_u64
 have HS : Hid (c ≤ maxLen) := S.cap
 clear tp hv S
 cases ao
 all_goals
  go_enter Tryz.func45, Tryz.ntmps45
  go_wp2_with fail
  go_loop [3, 4, 5, 6, 7, 8] (fun sv bv _ _ _ _ => sv = .string ⟨#[]⟩ ∧ bv = .slice none 0 0) (fun _ _ _ _ _ _ => 0)
  case atStart => exact ⟨rfl, rfl⟩
  case round =>
   obtain ⟨rfl, rfl⟩ := hrel
   go_wp2
   go_ret
   exact ⟨rfl, Below.refl _ _⟩
theorem rdec_zero {k : Nat} (k0 : 0 < k) (hk : k ≤ 1075) {w : World} {va : Value} (ha : Big.D.NatV w va 0) :
 Calls Tryz.prog 19 #[va, .int .i64 (-(k : Int))] w fun x w' => x = .returned (dcV ⟨#[]⟩ 0 false) ∧ Below w.heap.size w w' := by
 have F0 : Hid (Bk (w.alloc (.cells #[.string ⟨#[]⟩, .int .i64 0, .bool false] 24)) w.heap.size [.string ⟨#[]⟩, .int .i64 0, .bool false] ∧ Below w.heap.size w (w.alloc (.cells #[.string ⟨#[]⟩, .int .i64 0, .bool false] 24)) ∧ Big.D.NatV (w.alloc (.cells #[.string ⟨#[]⟩, .int .i64 0, .bool false] 24)) va 0) := ⟨Bk.new3 w _ _ _ _, (Below.refl _ _).alloc (Nat.le_refl _) _, ha.below ((Below.refl _ _).alloc (Nat.le_refl _) _)⟩
 have PW := fun W => dpow_any 5 k (by decide) (by decide) (by omega) W
 simp only [Int.cast_ofNat_Int] at PW
 have MU : ∀ W v u, Big.D.NatV W v 0 → Big.D.NatV W u (5 ^ k) → Calls Tryz.prog 47 #[v, u] W fun e w' => ∃ v, e = .returned v ∧ Big.D.NatV w' v 0 ∧ Below W.heap.size W w' := fun W v u hv hu => by
  have q := dmul_nat hv hu ((word_fits (Nat.zero_le _)).up (by omega)) ((five_fit hk).up (by omega))
  rw [Nat.zero_mul] at q
  exact q
 have MK : ∀ W, Calls Tryz.prog 46 #[.string ⟨#[48]⟩, .int .i64 (1 - (k : Int)), .bool false] W fun e w' => e = .returned (.tuple #[dcV ⟨#[]⟩ 0 false, .int .i64 0]) ∧ Below W.heap.size W w' := fun W =>
  rmake_zero (t := ⟨#[48]⟩) (by decide) dg_nought (z := 1) rfl (fun i hi => by
   have : i = 0 := by omega
   subst this
   decide) W
 clear ha
 generalize 5 ^ k = F at *
 unfold dcV at *
 have kn : ¬ 0 ≤ -(k : Int) := by omega
 go_enter Tryz.func19, Tryz.ntmps19
 go_wp2_with fail
 all_goals first | (exfalso; omega) | skip
 try rw [Int.neg_neg]
 refine (PW _).mono ?_
 rintro o w0 ⟨v0, rfl, n0, b0⟩
 have F00 : Hid (Bk w0 w.heap.size [.string ⟨#[]⟩, .int .i64 0, .bool false] ∧ Below w.heap.size w w0 ∧ Big.D.NatV w0 va 0 ∧ Big.D.NatV w0 v0 F) := ⟨F0.out.1.step b0, F0.out.2.1.trans (b0.mono F0.out.2.1.size), F0.out.2.2.below b0, n0⟩
 clear b0 n0 PW F0
 go_wp2_with fail
 all_goals first | (exfalso; omega) | skip
 refine (MU _ _ _ F00.out.2.2.1 F00.out.2.2.2).mono ?_
 rintro o w1 ⟨v1, rfl, n1, b1⟩
 have F1 : Hid (Bk w1 w.heap.size [.string ⟨#[]⟩, .int .i64 0, .bool false] ∧ Below w.heap.size w w1 ∧ Big.D.NatV w1 v1 0) := ⟨F00.out.1.step b1, F00.out.2.1.trans (b1.mono F00.out.2.1.size), n1⟩
 clear b1 n1 MU F00
 have DD := decimal_zero F1.out.2.2
 go_wp2_with fail
 all_goals first | (exfalso; omega) | skip
 refine DD.mono ?_
 rintro o w2 ⟨rfl, b2⟩
 have F2 : Hid (Bk w2 w.heap.size [.string ⟨#[]⟩, .int .i64 0, .bool false] ∧ Below w.heap.size w w2) := ⟨F1.out.1.step b2, F1.out.2.1.trans (b2.mono F1.out.2.1.size)⟩
 clear b2 DD F1
 have e1 : (1 : Int) + -(k : Int) = 1 - (k : Int) := by omega
 go_wp2_with fail
 all_goals first | (exfalso; omega) | skip
 refine (MK _).mono ?_
 rintro o w6 ⟨rfl, b6⟩
 have F6 : Hid (Bk w6 w.heap.size [.string ⟨#[]⟩, .int .i64 0, .bool false] ∧ Below w.heap.size w w6) := ⟨F2.out.1.step b6, F2.out.2.trans (b6.mono F2.out.2.size)⟩
 clear b6 MK F2
 have l6 := F6.out.1.lt
 have a0 := F6.out.1.cell 0 _ rfl
 have a1 := F6.out.1.cell 1 _ rfl
 have a2 := F6.out.1.cell 2 _ rfl
 have f0 := F6.out.1.fz 0
 have f1 := F6.out.1.fz 1
 have f2 := F6.out.1.fz 2
 go_wp2
 exact bodyPost_ret (v := .agg #[.string ⟨#[]⟩, .int .i64 0, .bool false]) (by simp [results, Tryz.results19, go_sem, World.cell?_setCell_same, World.cell?_setCell_other, *]) rfl ⟨rfl, (((F6.out.2.setCell (Nat.le_refl _) _).setCell (Nat.le_refl _) _).setCell (Nat.le_refl _) _).alloc (by simpa using F6.out.2.size) _⟩
theorem rdec_any {m : Nat} {e : Int} (hm : m ≤ 18014398509481984) (h1 : -1075 ≤ e) (h2 : e ≤ 971) (h0 : 0 < m ∨ e < 0) {s : ByteArray} {q : Int} (D : Dx s q (fv m e)) {w : World} {va : Value} (ha : Big.D.NatV w va m) :
 Calls Tryz.prog 19 #[va, .int .i64 e] w fun x w' => x = .returned (dcV s q false) ∧ Below w.heap.size w w' := by
 rcases Int.lt_or_le e 0 with c | c
 · obtain ⟨k, rfl⟩ : ∃ k : Nat, e = -(k : Int) := ⟨(-e).toNat, by omega⟩
   by_cases m0 : 0 < m
   · exact rdec_dn ⟨hm, by omega, by omega, Or.inr rfl⟩ (by omega) m0 D ha
   · obtain rfl : m = 0 := by omega
     rw [fv_zero] at D
     obtain ⟨rfl, rfl⟩ := D.uniq dx_nought
     exact rdec_zero (by omega) (by omega) ha
 · obtain ⟨j, rfl⟩ : ∃ j : Nat, e = (j : Int) := ⟨e.toNat, by omega⟩
   exact rdec_up ⟨hm, by omega, by omega, Or.inl rfl⟩ (by omega) D ha
theorem chk_err {b z : Int} {n : Int} (q1 : (n == 0) = false) (HC : ∀ W, Calls Tryz.prog 41 #[.int .u64 b, .int .i64 z] W fun e w' => e = .returned (.int .i64 n) ∧ Below W.heap.size W w') (w : World) :
 Calls Tryz.prog 17 #[.int .u64 b, .int .i64 z] w fun x w' => x = .returned (.int .i64 n) ∧ Below w.heap.size w w' := by
 have F0 : Hid (Below w.heap.size w w) := Below.refl _ _
 go_enter Tryz.func17, Tryz.ntmps17
 go_wp2_with fail
 all_goals first | (exfalso; omega) | skip
 refine (HC _).mono ?_
 rintro o1 w1 ⟨rfl, bb⟩
 have F1 : Hid (Below w.heap.size w w1) := (F0.out).trans (bb.mono (F0.out).size)
 clear F0
 clear bb
 go_wp2
 go_ret
 exact ⟨rfl, F1.out⟩
theorem chk_not {b z : Int} {k : Int} (q1 : 3 ≤ k) (HC : ∀ W, Calls Tryz.prog 41 #[.int .u64 b, .int .i64 z] W fun e w' => e = .returned (.int .i64 0) ∧ Below W.heap.size W w') (HO : ∀ W, Calls Tryz.prog 42 #[.int .u64 b, .int .i64 z] W fun e w' => e = .returned (.int .i64 k) ∧ Below W.heap.size W w') (w : World) :
 Calls Tryz.prog 17 #[.int .u64 b, .int .i64 z] w fun x w' => x = .returned (.int .i64 1) ∧ Below w.heap.size w w' := by
 have F0 : Hid (Below w.heap.size w w) := Below.refl _ _
 go_enter Tryz.func17, Tryz.ntmps17
 go_wp2_with fail
 all_goals first | (exfalso; omega) | skip
 refine (HC _).mono ?_
 rintro o1 w1 ⟨rfl, bb⟩
 have F1 : Hid (Below w.heap.size w w1) := (F0.out).trans (bb.mono (F0.out).size)
 clear F0
 clear bb
 go_wp2_with fail
 all_goals first | (exfalso; omega) | skip
 refine (HO _).mono ?_
 rintro o2 w2 ⟨rfl, bb⟩
 have F2 : Hid (Below w.heap.size w w2) := (F1.out).trans (bb.mono (F1.out).size)
 clear F1
 clear bb
 go_wp2
 go_ret
 exact ⟨rfl, F2.out⟩
theorem chk_ok {b z : Int} {k : Int} (q1 : k < 3) (HC : ∀ W, Calls Tryz.prog 41 #[.int .u64 b, .int .i64 z] W fun e w' => e = .returned (.int .i64 0) ∧ Below W.heap.size W w') (HO : ∀ W, Calls Tryz.prog 42 #[.int .u64 b, .int .i64 z] W fun e w' => e = .returned (.int .i64 k) ∧ Below W.heap.size W w') (w : World) :
 Calls Tryz.prog 17 #[.int .u64 b, .int .i64 z] w fun x w' => x = .returned (.int .i64 0) ∧ Below w.heap.size w w' := by
 have F0 : Hid (Below w.heap.size w w) := Below.refl _ _
 go_enter Tryz.func17, Tryz.ntmps17
 go_wp2_with fail
 all_goals first | (exfalso; omega) | skip
 refine (HC _).mono ?_
 rintro o1 w1 ⟨rfl, bb⟩
 have F1 : Hid (Below w.heap.size w w1) := (F0.out).trans (bb.mono (F0.out).size)
 clear F0
 clear bb
 go_wp2_with fail
 all_goals first | (exfalso; omega) | skip
 refine (HO _).mono ?_
 rintro o2 w2 ⟨rfl, bb⟩
 have F2 : Hid (Below w.heap.size w w2) := (F1.out).trans (bb.mono (F1.out).size)
 clear F1
 clear bb
 go_wp2
 go_ret
 exact ⟨rfl, F2.out⟩
theorem rex_ok {b z : Int} {m : Nat} {E : Int} {s : ByteArray} {p : Int} (hm : m < 18446744073709551616) (HC : ∀ W, Calls Tryz.prog 17 #[.int .u64 b, .int .i64 z] W fun e w' => e = .returned (.int .i64 0) ∧ Below W.heap.size W w') (HP : ∀ W, Calls Tryz.prog 18 #[.int .u64 b, .int .i64 z] W fun e w' => e = .returned (.tuple #[.int .u64 (m : Int), .int .i64 E]) ∧ Below W.heap.size W w') (HD : ∀ W v, Big.D.NatV W v (m) → Calls Tryz.prog 19 #[v, .int .i64 E] W fun e w' => e = .returned (.agg #[.string s, .int .i64 p, .bool false]) ∧ Below W.heap.size W w') (w : World) :
 Calls Tryz.prog 6 #[.int .u64 b, .int .i64 z] w fun x w' => x = .returned (.tuple #[.agg #[.string s, .int .i64 p, .bool false], .int .i64 0]) ∧ Below w.heap.size w w' := by
 have F0 : Hid (Bk (w.alloc (.cells #[.string ⟨#[]⟩, .int .i64 0, .bool false] 24)) (w.heap.size) [.string ⟨#[]⟩, .int .i64 0, .bool false] ∧ Below w.heap.size w (w.alloc (.cells #[.string ⟨#[]⟩, .int .i64 0, .bool false] 24))) := ⟨Bk.new3 w (.string ⟨#[]⟩) (.int .i64 0) (.bool false) 24, ((Below.refl w.heap.size w)).alloc (Nat.le_refl _) _⟩
 go_enter Tryz.func6, Tryz.ntmps6
 go_upto_region 1 with fail
 generalize (w.alloc (.cells #[.string ⟨#[]⟩, .int .i64 0, .bool false] 24)) = w1 at *
 have SM := fun W => dsmall_word m hm W
 go_wp2_with fail
 all_goals first | (exfalso; omega) | skip
 refine (HC _).mono ?_
 rintro o2 w2 ⟨rfl, bb⟩
 have F1 : Hid (Bk w2 (w.heap.size) [.string ⟨#[]⟩, .int .i64 0, .bool false] ∧ Below w.heap.size w w2) := ⟨(F0.out.1).step bb, (F0.out.2).trans (bb.mono (F0.out.2).size)⟩
 clear F0
 clear bb
 go_wp2_with fail
 all_goals first | (exfalso; omega) | skip
 refine (HP _).mono ?_
 rintro o3 w3 ⟨rfl, bb⟩
 have F2 : Hid (Bk w3 (w.heap.size) [.string ⟨#[]⟩, .int .i64 0, .bool false] ∧ Below w.heap.size w w3) := ⟨(F1.out.1).step bb, (F1.out.2).trans (bb.mono (F1.out.2).size)⟩
 clear F1
 clear bb
 go_wp2_with fail
 all_goals first | (exfalso; omega) | skip
 refine (SM _).mono ?_
 rintro o4 w4 ⟨v1, rfl, nn, bb⟩
 have F3 : Hid (Bk w4 (w.heap.size) [.string ⟨#[]⟩, .int .i64 0, .bool false] ∧ Big.D.NatV w4 v1 (m) ∧ Below w.heap.size w w4) := ⟨(F2.out.1).step bb, nn, (F2.out.2).trans (bb.mono (F2.out.2).size)⟩
 clear F2
 clear bb nn
 go_wp2_with fail
 all_goals first | (exfalso; omega) | skip
 refine (HD _ _ (F3.out.2.1)).mono ?_
 rintro o5 w5 ⟨rfl, bb⟩
 have F4 : Hid (Bk w5 (w.heap.size) [.string ⟨#[]⟩, .int .i64 0, .bool false] ∧ Big.D.NatV w5 v1 (m) ∧ Below w.heap.size w w5) := ⟨(F3.out.1).step bb, (F3.out.2.1).below bb, (F3.out.2.2).trans (bb.mono (F3.out.2.2).size)⟩
 clear F3
 clear bb
 have l1_0 := F4.out.1.lt
 have a1_0_0 := F4.out.1.cell 0 _ rfl
 have f1_0_0 := F4.out.1.fz 0
 have a1_0_1 := F4.out.1.cell 1 _ rfl
 have f1_0_1 := F4.out.1.fz 1
 have a1_0_2 := F4.out.1.cell 2 _ rfl
 have f1_0_2 := F4.out.1.fz 2
 go_wp2
 refine bodyPost_ret (v := .tuple #[.agg #[.string s, .int .i64 p, .bool false], .int .i64 0]) (by simp [results, Tryz.results6, go_sem, World.cell?_setCell_same, World.cell?_setCell_other, *]) rfl ⟨rfl, ?_⟩
 repeat (first | refine Below.setCell ?_ (by first | exact Nat.le_refl _ | (dsimp only; omega)) _ | refine Below.alloc ?_ (by first | exact Nat.le_refl _ | omega | (simp; omega)) _ | refine Below.drew ?_)
 exact F4.out.2.2
theorem wi_0a {s t u : ByteArray} {p q o l h : Int} (q1 : ¬ l ≤ 0)  (HC : ∀ W, Calls Tryz.prog 60 #[.agg #[.string s, .int .i64 p, .bool false], .agg #[.string u, .int .i64 o, .bool false]] W fun e w' => e = .returned (.tuple #[.int .i64 l, .int .i64 0]) ∧ Below W.heap.size W w') (HD : ∀ W, Calls Tryz.prog 60 #[.agg #[.string u, .int .i64 o, .bool false], .agg #[.string t, .int .i64 q, .bool false]] W fun e w' => e = .returned (.tuple #[.int .i64 h, .int .i64 0]) ∧ Below W.heap.size W w') (w : World) :
 Calls Tryz.prog 29 #[.agg #[.string u, .int .i64 o, .bool false], .agg #[.string s, .int .i64 p, .bool false], .agg #[.string t, .int .i64 q, .bool false], .bool true] w fun x w' => x = .returned (.bool false) ∧ Below w.heap.size w w' := by
 have F0 : Hid (Bk (((w.alloc (.cells #[.string u, .int .i64 o, .bool false] 24)).alloc (.cells #[.string s, .int .i64 p, .bool false] 24)).alloc (.cells #[.string t, .int .i64 q, .bool false] 24)) (w.heap.size) [.string u, .int .i64 o, .bool false] ∧ Bk (((w.alloc (.cells #[.string u, .int .i64 o, .bool false] 24)).alloc (.cells #[.string s, .int .i64 p, .bool false] 24)).alloc (.cells #[.string t, .int .i64 q, .bool false] 24)) (w.heap.size + 1) [.string s, .int .i64 p, .bool false] ∧ Bk (((w.alloc (.cells #[.string u, .int .i64 o, .bool false] 24)).alloc (.cells #[.string s, .int .i64 p, .bool false] 24)).alloc (.cells #[.string t, .int .i64 q, .bool false] 24)) (w.heap.size + 1 + 1) [.string t, .int .i64 q, .bool false] ∧ Below w.heap.size w (((w.alloc (.cells #[.string u, .int .i64 o, .bool false] 24)).alloc (.cells #[.string s, .int .i64 p, .bool false] 24)).alloc (.cells #[.string t, .int .i64 q, .bool false] 24))) := ⟨((Bk.new3 w (.string u) (.int .i64 o) (.bool false) 24).step ((Below.refl _ _).alloc (Nat.le_refl _) _)).step ((Below.refl _ _).alloc (Nat.le_refl _) _), (((by have q := Bk.new3 (w.alloc (.cells #[.string u, .int .i64 o, .bool false] 24)) (.string s) (.int .i64 p) (.bool false) 24; simpa using q) : Bk ((w.alloc (.cells #[.string u, .int .i64 o, .bool false] 24)).alloc (.cells #[.string s, .int .i64 p, .bool false] 24)) (w.heap.size + 1) [.string s, .int .i64 p, .bool false])).step ((Below.refl _ _).alloc (Nat.le_refl _) _), ((by have q := Bk.new3 ((w.alloc (.cells #[.string u, .int .i64 o, .bool false] 24)).alloc (.cells #[.string s, .int .i64 p, .bool false] 24)) (.string t) (.int .i64 q) (.bool false) 24; simpa using q) : Bk (((w.alloc (.cells #[.string u, .int .i64 o, .bool false] 24)).alloc (.cells #[.string s, .int .i64 p, .bool false] 24)).alloc (.cells #[.string t, .int .i64 q, .bool false] 24)) (w.heap.size + 1 + 1) [.string t, .int .i64 q, .bool false]), ((((Below.refl w.heap.size w)).alloc (Nat.le_refl _) _).alloc ((((Below.refl w.heap.size w)).alloc (Nat.le_refl _) _).size) _).alloc (((((Below.refl w.heap.size w)).alloc (Nat.le_refl _) _).alloc ((((Below.refl w.heap.size w)).alloc (Nat.le_refl _) _).size) _).size) _⟩
 go_enter Tryz.func29, Tryz.ntmps29
 go_upto_region 1 with fail
 generalize (((w.alloc (.cells #[.string u, .int .i64 o, .bool false] 24)).alloc (.cells #[.string s, .int .i64 p, .bool false] 24)).alloc (.cells #[.string t, .int .i64 q, .bool false] 24)) = w1 at *
 have q0 : ¬ l < 0 := by omega
 have l1_0 := F0.out.1.lt
 have a1_0_0 := F0.out.1.cell 0 _ rfl
 have f1_0_0 := F0.out.1.fz 0
 have a1_0_1 := F0.out.1.cell 1 _ rfl
 have f1_0_1 := F0.out.1.fz 1
 have a1_0_2 := F0.out.1.cell 2 _ rfl
 have f1_0_2 := F0.out.1.fz 2
 have l1_1 := F0.out.2.1.lt
 have a1_1_0 := F0.out.2.1.cell 0 _ rfl
 have f1_1_0 := F0.out.2.1.fz 0
 have a1_1_1 := F0.out.2.1.cell 1 _ rfl
 have f1_1_1 := F0.out.2.1.fz 1
 have a1_1_2 := F0.out.2.1.cell 2 _ rfl
 have f1_1_2 := F0.out.2.1.fz 2
 have l1_2 := F0.out.2.2.1.lt
 have a1_2_0 := F0.out.2.2.1.cell 0 _ rfl
 have f1_2_0 := F0.out.2.2.1.fz 0
 have a1_2_1 := F0.out.2.2.1.cell 1 _ rfl
 have f1_2_1 := F0.out.2.2.1.fz 1
 have a1_2_2 := F0.out.2.2.1.cell 2 _ rfl
 have f1_2_2 := F0.out.2.2.1.fz 2
 have ne1_0_1 : ¬ w.heap.size = w.heap.size + 1 := by omega
 have ne1_0_2 : ¬ w.heap.size = w.heap.size + 1 + 1 := by omega
 have ne1_1_0 : ¬ w.heap.size + 1 = w.heap.size := by omega
 have ne1_1_2 : ¬ w.heap.size + 1 = w.heap.size + 1 + 1 := by omega
 have ne1_2_0 : ¬ w.heap.size + 1 + 1 = w.heap.size := by omega
 have ne1_2_1 : ¬ w.heap.size + 1 + 1 = w.heap.size + 1 := by omega
 go_wp2_with fail
 all_goals first | (exfalso; omega) | skip
 refine (HC _).mono ?_
 rintro o2 w2 ⟨rfl, bb⟩
 have F1 : Hid (Bk w2 (w.heap.size) [.string u, .int .i64 o, .bool false] ∧ Bk w2 (w.heap.size + 1) [.string s, .int .i64 p, .bool false] ∧ Bk w2 (w.heap.size + 1 + 1) [.string t, .int .i64 q, .bool false] ∧ Below w.heap.size w w2) := ⟨(F0.out.1).step bb, (F0.out.2.1).step bb, (F0.out.2.2.1).step bb, (F0.out.2.2.2).trans (bb.mono (F0.out.2.2.2).size)⟩
 clear F0
 clear bb
 clear l1_0 a1_0_0 f1_0_0 a1_0_1 f1_0_1 a1_0_2 f1_0_2 l1_1 a1_1_0 f1_1_0 a1_1_1 f1_1_1 a1_1_2 f1_1_2 l1_2 a1_2_0 f1_2_0 a1_2_1 f1_2_1 a1_2_2 f1_2_2
 have l2_0 := F1.out.1.lt
 have a2_0_0 := F1.out.1.cell 0 _ rfl
 have f2_0_0 := F1.out.1.fz 0
 have a2_0_1 := F1.out.1.cell 1 _ rfl
 have f2_0_1 := F1.out.1.fz 1
 have a2_0_2 := F1.out.1.cell 2 _ rfl
 have f2_0_2 := F1.out.1.fz 2
 have l2_1 := F1.out.2.1.lt
 have a2_1_0 := F1.out.2.1.cell 0 _ rfl
 have f2_1_0 := F1.out.2.1.fz 0
 have a2_1_1 := F1.out.2.1.cell 1 _ rfl
 have f2_1_1 := F1.out.2.1.fz 1
 have a2_1_2 := F1.out.2.1.cell 2 _ rfl
 have f2_1_2 := F1.out.2.1.fz 2
 have l2_2 := F1.out.2.2.1.lt
 have a2_2_0 := F1.out.2.2.1.cell 0 _ rfl
 have f2_2_0 := F1.out.2.2.1.fz 0
 have a2_2_1 := F1.out.2.2.1.cell 1 _ rfl
 have f2_2_1 := F1.out.2.2.1.fz 1
 have a2_2_2 := F1.out.2.2.1.cell 2 _ rfl
 have f2_2_2 := F1.out.2.2.1.fz 2
 have ne2_0_1 : ¬ w.heap.size = w.heap.size + 1 := by omega
 have ne2_0_2 : ¬ w.heap.size = w.heap.size + 1 + 1 := by omega
 have ne2_1_0 : ¬ w.heap.size + 1 = w.heap.size := by omega
 have ne2_1_2 : ¬ w.heap.size + 1 = w.heap.size + 1 + 1 := by omega
 have ne2_2_0 : ¬ w.heap.size + 1 + 1 = w.heap.size := by omega
 have ne2_2_1 : ¬ w.heap.size + 1 + 1 = w.heap.size + 1 := by omega
 go_wp2_with fail
 all_goals first | (exfalso; omega) | skip
 refine (HD _).mono ?_
 rintro o3 w3 ⟨rfl, bb⟩
 have F2 : Hid (Bk w3 (w.heap.size) [.string u, .int .i64 o, .bool false] ∧ Bk w3 (w.heap.size + 1) [.string s, .int .i64 p, .bool false] ∧ Bk w3 (w.heap.size + 1 + 1) [.string t, .int .i64 q, .bool false] ∧ Below w.heap.size w w3) := ⟨(F1.out.1).step bb, (F1.out.2.1).step bb, (F1.out.2.2.1).step bb, (F1.out.2.2.2).trans (bb.mono (F1.out.2.2.2).size)⟩
 clear F1
 clear bb
 clear l2_0 a2_0_0 f2_0_0 a2_0_1 f2_0_1 a2_0_2 f2_0_2 l2_1 a2_1_0 f2_1_0 a2_1_1 f2_1_1 a2_1_2 f2_1_2 l2_2 a2_2_0 f2_2_0 a2_2_1 f2_2_1 a2_2_2 f2_2_2
 have l3_0 := F2.out.1.lt
 have a3_0_0 := F2.out.1.cell 0 _ rfl
 have f3_0_0 := F2.out.1.fz 0
 have a3_0_1 := F2.out.1.cell 1 _ rfl
 have f3_0_1 := F2.out.1.fz 1
 have a3_0_2 := F2.out.1.cell 2 _ rfl
 have f3_0_2 := F2.out.1.fz 2
 have l3_1 := F2.out.2.1.lt
 have a3_1_0 := F2.out.2.1.cell 0 _ rfl
 have f3_1_0 := F2.out.2.1.fz 0
 have a3_1_1 := F2.out.2.1.cell 1 _ rfl
 have f3_1_1 := F2.out.2.1.fz 1
 have a3_1_2 := F2.out.2.1.cell 2 _ rfl
 have f3_1_2 := F2.out.2.1.fz 2
 have l3_2 := F2.out.2.2.1.lt
 have a3_2_0 := F2.out.2.2.1.cell 0 _ rfl
 have f3_2_0 := F2.out.2.2.1.fz 0
 have a3_2_1 := F2.out.2.2.1.cell 1 _ rfl
 have f3_2_1 := F2.out.2.2.1.fz 1
 have a3_2_2 := F2.out.2.2.1.cell 2 _ rfl
 have f3_2_2 := F2.out.2.2.1.fz 2
 have ne3_0_1 : ¬ w.heap.size = w.heap.size + 1 := by omega
 have ne3_0_2 : ¬ w.heap.size = w.heap.size + 1 + 1 := by omega
 have ne3_1_0 : ¬ w.heap.size + 1 = w.heap.size := by omega
 have ne3_1_2 : ¬ w.heap.size + 1 = w.heap.size + 1 + 1 := by omega
 have ne3_2_0 : ¬ w.heap.size + 1 + 1 = w.heap.size := by omega
 have ne3_2_1 : ¬ w.heap.size + 1 + 1 = w.heap.size + 1 := by omega
 go_wp2
 go_ret
 exact ⟨rfl, F2.out.2.2.2⟩
theorem wi_1a {s t u : ByteArray} {p q o l h : Int}  (q2 : l < 0) (q3 : h < 0) (HC : ∀ W, Calls Tryz.prog 60 #[.agg #[.string s, .int .i64 p, .bool false], .agg #[.string u, .int .i64 o, .bool false]] W fun e w' => e = .returned (.tuple #[.int .i64 l, .int .i64 0]) ∧ Below W.heap.size W w') (HD : ∀ W, Calls Tryz.prog 60 #[.agg #[.string u, .int .i64 o, .bool false], .agg #[.string t, .int .i64 q, .bool false]] W fun e w' => e = .returned (.tuple #[.int .i64 h, .int .i64 0]) ∧ Below W.heap.size W w') (w : World) :
 Calls Tryz.prog 29 #[.agg #[.string u, .int .i64 o, .bool false], .agg #[.string s, .int .i64 p, .bool false], .agg #[.string t, .int .i64 q, .bool false], .bool true] w fun x w' => x = .returned (.bool true) ∧ Below w.heap.size w w' := by
 have F0 : Hid (Bk (((w.alloc (.cells #[.string u, .int .i64 o, .bool false] 24)).alloc (.cells #[.string s, .int .i64 p, .bool false] 24)).alloc (.cells #[.string t, .int .i64 q, .bool false] 24)) (w.heap.size) [.string u, .int .i64 o, .bool false] ∧ Bk (((w.alloc (.cells #[.string u, .int .i64 o, .bool false] 24)).alloc (.cells #[.string s, .int .i64 p, .bool false] 24)).alloc (.cells #[.string t, .int .i64 q, .bool false] 24)) (w.heap.size + 1) [.string s, .int .i64 p, .bool false] ∧ Bk (((w.alloc (.cells #[.string u, .int .i64 o, .bool false] 24)).alloc (.cells #[.string s, .int .i64 p, .bool false] 24)).alloc (.cells #[.string t, .int .i64 q, .bool false] 24)) (w.heap.size + 1 + 1) [.string t, .int .i64 q, .bool false] ∧ Below w.heap.size w (((w.alloc (.cells #[.string u, .int .i64 o, .bool false] 24)).alloc (.cells #[.string s, .int .i64 p, .bool false] 24)).alloc (.cells #[.string t, .int .i64 q, .bool false] 24))) := ⟨((Bk.new3 w (.string u) (.int .i64 o) (.bool false) 24).step ((Below.refl _ _).alloc (Nat.le_refl _) _)).step ((Below.refl _ _).alloc (Nat.le_refl _) _), (((by have q := Bk.new3 (w.alloc (.cells #[.string u, .int .i64 o, .bool false] 24)) (.string s) (.int .i64 p) (.bool false) 24; simpa using q) : Bk ((w.alloc (.cells #[.string u, .int .i64 o, .bool false] 24)).alloc (.cells #[.string s, .int .i64 p, .bool false] 24)) (w.heap.size + 1) [.string s, .int .i64 p, .bool false])).step ((Below.refl _ _).alloc (Nat.le_refl _) _), ((by have q := Bk.new3 ((w.alloc (.cells #[.string u, .int .i64 o, .bool false] 24)).alloc (.cells #[.string s, .int .i64 p, .bool false] 24)) (.string t) (.int .i64 q) (.bool false) 24; simpa using q) : Bk (((w.alloc (.cells #[.string u, .int .i64 o, .bool false] 24)).alloc (.cells #[.string s, .int .i64 p, .bool false] 24)).alloc (.cells #[.string t, .int .i64 q, .bool false] 24)) (w.heap.size + 1 + 1) [.string t, .int .i64 q, .bool false]), ((((Below.refl w.heap.size w)).alloc (Nat.le_refl _) _).alloc ((((Below.refl w.heap.size w)).alloc (Nat.le_refl _) _).size) _).alloc (((((Below.refl w.heap.size w)).alloc (Nat.le_refl _) _).alloc ((((Below.refl w.heap.size w)).alloc (Nat.le_refl _) _).size) _).size) _⟩
 go_enter Tryz.func29, Tryz.ntmps29
 go_upto_region 1 with fail
 generalize (((w.alloc (.cells #[.string u, .int .i64 o, .bool false] 24)).alloc (.cells #[.string s, .int .i64 p, .bool false] 24)).alloc (.cells #[.string t, .int .i64 q, .bool false] 24)) = w1 at *
 have l1_0 := F0.out.1.lt
 have a1_0_0 := F0.out.1.cell 0 _ rfl
 have f1_0_0 := F0.out.1.fz 0
 have a1_0_1 := F0.out.1.cell 1 _ rfl
 have f1_0_1 := F0.out.1.fz 1
 have a1_0_2 := F0.out.1.cell 2 _ rfl
 have f1_0_2 := F0.out.1.fz 2
 have l1_1 := F0.out.2.1.lt
 have a1_1_0 := F0.out.2.1.cell 0 _ rfl
 have f1_1_0 := F0.out.2.1.fz 0
 have a1_1_1 := F0.out.2.1.cell 1 _ rfl
 have f1_1_1 := F0.out.2.1.fz 1
 have a1_1_2 := F0.out.2.1.cell 2 _ rfl
 have f1_1_2 := F0.out.2.1.fz 2
 have l1_2 := F0.out.2.2.1.lt
 have a1_2_0 := F0.out.2.2.1.cell 0 _ rfl
 have f1_2_0 := F0.out.2.2.1.fz 0
 have a1_2_1 := F0.out.2.2.1.cell 1 _ rfl
 have f1_2_1 := F0.out.2.2.1.fz 1
 have a1_2_2 := F0.out.2.2.1.cell 2 _ rfl
 have f1_2_2 := F0.out.2.2.1.fz 2
 have ne1_0_1 : ¬ w.heap.size = w.heap.size + 1 := by omega
 have ne1_0_2 : ¬ w.heap.size = w.heap.size + 1 + 1 := by omega
 have ne1_1_0 : ¬ w.heap.size + 1 = w.heap.size := by omega
 have ne1_1_2 : ¬ w.heap.size + 1 = w.heap.size + 1 + 1 := by omega
 have ne1_2_0 : ¬ w.heap.size + 1 + 1 = w.heap.size := by omega
 have ne1_2_1 : ¬ w.heap.size + 1 + 1 = w.heap.size + 1 := by omega
 go_wp2_with fail
 all_goals first | (exfalso; omega) | skip
 refine (HC _).mono ?_
 rintro o2 w2 ⟨rfl, bb⟩
 have F1 : Hid (Bk w2 (w.heap.size) [.string u, .int .i64 o, .bool false] ∧ Bk w2 (w.heap.size + 1) [.string s, .int .i64 p, .bool false] ∧ Bk w2 (w.heap.size + 1 + 1) [.string t, .int .i64 q, .bool false] ∧ Below w.heap.size w w2) := ⟨(F0.out.1).step bb, (F0.out.2.1).step bb, (F0.out.2.2.1).step bb, (F0.out.2.2.2).trans (bb.mono (F0.out.2.2.2).size)⟩
 clear F0
 clear bb
 clear l1_0 a1_0_0 f1_0_0 a1_0_1 f1_0_1 a1_0_2 f1_0_2 l1_1 a1_1_0 f1_1_0 a1_1_1 f1_1_1 a1_1_2 f1_1_2 l1_2 a1_2_0 f1_2_0 a1_2_1 f1_2_1 a1_2_2 f1_2_2
 have l2_0 := F1.out.1.lt
 have a2_0_0 := F1.out.1.cell 0 _ rfl
 have f2_0_0 := F1.out.1.fz 0
 have a2_0_1 := F1.out.1.cell 1 _ rfl
 have f2_0_1 := F1.out.1.fz 1
 have a2_0_2 := F1.out.1.cell 2 _ rfl
 have f2_0_2 := F1.out.1.fz 2
 have l2_1 := F1.out.2.1.lt
 have a2_1_0 := F1.out.2.1.cell 0 _ rfl
 have f2_1_0 := F1.out.2.1.fz 0
 have a2_1_1 := F1.out.2.1.cell 1 _ rfl
 have f2_1_1 := F1.out.2.1.fz 1
 have a2_1_2 := F1.out.2.1.cell 2 _ rfl
 have f2_1_2 := F1.out.2.1.fz 2
 have l2_2 := F1.out.2.2.1.lt
 have a2_2_0 := F1.out.2.2.1.cell 0 _ rfl
 have f2_2_0 := F1.out.2.2.1.fz 0
 have a2_2_1 := F1.out.2.2.1.cell 1 _ rfl
 have f2_2_1 := F1.out.2.2.1.fz 1
 have a2_2_2 := F1.out.2.2.1.cell 2 _ rfl
 have f2_2_2 := F1.out.2.2.1.fz 2
 have ne2_0_1 : ¬ w.heap.size = w.heap.size + 1 := by omega
 have ne2_0_2 : ¬ w.heap.size = w.heap.size + 1 + 1 := by omega
 have ne2_1_0 : ¬ w.heap.size + 1 = w.heap.size := by omega
 have ne2_1_2 : ¬ w.heap.size + 1 = w.heap.size + 1 + 1 := by omega
 have ne2_2_0 : ¬ w.heap.size + 1 + 1 = w.heap.size := by omega
 have ne2_2_1 : ¬ w.heap.size + 1 + 1 = w.heap.size + 1 := by omega
 go_wp2_with fail
 all_goals first | (exfalso; omega) | skip
 refine (HD _).mono ?_
 rintro o3 w3 ⟨rfl, bb⟩
 have F2 : Hid (Bk w3 (w.heap.size) [.string u, .int .i64 o, .bool false] ∧ Bk w3 (w.heap.size + 1) [.string s, .int .i64 p, .bool false] ∧ Bk w3 (w.heap.size + 1 + 1) [.string t, .int .i64 q, .bool false] ∧ Below w.heap.size w w3) := ⟨(F1.out.1).step bb, (F1.out.2.1).step bb, (F1.out.2.2.1).step bb, (F1.out.2.2.2).trans (bb.mono (F1.out.2.2.2).size)⟩
 clear F1
 clear bb
 clear l2_0 a2_0_0 f2_0_0 a2_0_1 f2_0_1 a2_0_2 f2_0_2 l2_1 a2_1_0 f2_1_0 a2_1_1 f2_1_1 a2_1_2 f2_1_2 l2_2 a2_2_0 f2_2_0 a2_2_1 f2_2_1 a2_2_2 f2_2_2
 have l3_0 := F2.out.1.lt
 have a3_0_0 := F2.out.1.cell 0 _ rfl
 have f3_0_0 := F2.out.1.fz 0
 have a3_0_1 := F2.out.1.cell 1 _ rfl
 have f3_0_1 := F2.out.1.fz 1
 have a3_0_2 := F2.out.1.cell 2 _ rfl
 have f3_0_2 := F2.out.1.fz 2
 have l3_1 := F2.out.2.1.lt
 have a3_1_0 := F2.out.2.1.cell 0 _ rfl
 have f3_1_0 := F2.out.2.1.fz 0
 have a3_1_1 := F2.out.2.1.cell 1 _ rfl
 have f3_1_1 := F2.out.2.1.fz 1
 have a3_1_2 := F2.out.2.1.cell 2 _ rfl
 have f3_1_2 := F2.out.2.1.fz 2
 have l3_2 := F2.out.2.2.1.lt
 have a3_2_0 := F2.out.2.2.1.cell 0 _ rfl
 have f3_2_0 := F2.out.2.2.1.fz 0
 have a3_2_1 := F2.out.2.2.1.cell 1 _ rfl
 have f3_2_1 := F2.out.2.2.1.fz 1
 have a3_2_2 := F2.out.2.2.1.cell 2 _ rfl
 have f3_2_2 := F2.out.2.2.1.fz 2
 have ne3_0_1 : ¬ w.heap.size = w.heap.size + 1 := by omega
 have ne3_0_2 : ¬ w.heap.size = w.heap.size + 1 + 1 := by omega
 have ne3_1_0 : ¬ w.heap.size + 1 = w.heap.size := by omega
 have ne3_1_2 : ¬ w.heap.size + 1 = w.heap.size + 1 + 1 := by omega
 have ne3_2_0 : ¬ w.heap.size + 1 + 1 = w.heap.size := by omega
 have ne3_2_1 : ¬ w.heap.size + 1 + 1 = w.heap.size + 1 := by omega
 go_wp2
 go_ret
 exact ⟨rfl, F2.out.2.2.2⟩
theorem wi_1b {s t u : ByteArray} {p q o l h : Int} (q1 : l ≤ 0) (q2 : l < 0) (q3 : ¬ h < 0) (HC : ∀ W, Calls Tryz.prog 60 #[.agg #[.string s, .int .i64 p, .bool false], .agg #[.string u, .int .i64 o, .bool false]] W fun e w' => e = .returned (.tuple #[.int .i64 l, .int .i64 0]) ∧ Below W.heap.size W w') (HD : ∀ W, Calls Tryz.prog 60 #[.agg #[.string u, .int .i64 o, .bool false], .agg #[.string t, .int .i64 q, .bool false]] W fun e w' => e = .returned (.tuple #[.int .i64 h, .int .i64 0]) ∧ Below W.heap.size W w') (w : World) :
 Calls Tryz.prog 29 #[.agg #[.string u, .int .i64 o, .bool false], .agg #[.string s, .int .i64 p, .bool false], .agg #[.string t, .int .i64 q, .bool false], .bool true] w fun x w' => x = .returned (.bool (decide (h < 0) || decide (h ≤ 0))) ∧ Below w.heap.size w w' := by
 have F0 : Hid (Bk (((w.alloc (.cells #[.string u, .int .i64 o, .bool false] 24)).alloc (.cells #[.string s, .int .i64 p, .bool false] 24)).alloc (.cells #[.string t, .int .i64 q, .bool false] 24)) (w.heap.size) [.string u, .int .i64 o, .bool false] ∧ Bk (((w.alloc (.cells #[.string u, .int .i64 o, .bool false] 24)).alloc (.cells #[.string s, .int .i64 p, .bool false] 24)).alloc (.cells #[.string t, .int .i64 q, .bool false] 24)) (w.heap.size + 1) [.string s, .int .i64 p, .bool false] ∧ Bk (((w.alloc (.cells #[.string u, .int .i64 o, .bool false] 24)).alloc (.cells #[.string s, .int .i64 p, .bool false] 24)).alloc (.cells #[.string t, .int .i64 q, .bool false] 24)) (w.heap.size + 1 + 1) [.string t, .int .i64 q, .bool false] ∧ Below w.heap.size w (((w.alloc (.cells #[.string u, .int .i64 o, .bool false] 24)).alloc (.cells #[.string s, .int .i64 p, .bool false] 24)).alloc (.cells #[.string t, .int .i64 q, .bool false] 24))) := ⟨((Bk.new3 w (.string u) (.int .i64 o) (.bool false) 24).step ((Below.refl _ _).alloc (Nat.le_refl _) _)).step ((Below.refl _ _).alloc (Nat.le_refl _) _), (((by have q := Bk.new3 (w.alloc (.cells #[.string u, .int .i64 o, .bool false] 24)) (.string s) (.int .i64 p) (.bool false) 24; simpa using q) : Bk ((w.alloc (.cells #[.string u, .int .i64 o, .bool false] 24)).alloc (.cells #[.string s, .int .i64 p, .bool false] 24)) (w.heap.size + 1) [.string s, .int .i64 p, .bool false])).step ((Below.refl _ _).alloc (Nat.le_refl _) _), ((by have q := Bk.new3 ((w.alloc (.cells #[.string u, .int .i64 o, .bool false] 24)).alloc (.cells #[.string s, .int .i64 p, .bool false] 24)) (.string t) (.int .i64 q) (.bool false) 24; simpa using q) : Bk (((w.alloc (.cells #[.string u, .int .i64 o, .bool false] 24)).alloc (.cells #[.string s, .int .i64 p, .bool false] 24)).alloc (.cells #[.string t, .int .i64 q, .bool false] 24)) (w.heap.size + 1 + 1) [.string t, .int .i64 q, .bool false]), ((((Below.refl w.heap.size w)).alloc (Nat.le_refl _) _).alloc ((((Below.refl w.heap.size w)).alloc (Nat.le_refl _) _).size) _).alloc (((((Below.refl w.heap.size w)).alloc (Nat.le_refl _) _).alloc ((((Below.refl w.heap.size w)).alloc (Nat.le_refl _) _).size) _).size) _⟩
 go_enter Tryz.func29, Tryz.ntmps29
 go_upto_region 1 with fail
 generalize (((w.alloc (.cells #[.string u, .int .i64 o, .bool false] 24)).alloc (.cells #[.string s, .int .i64 p, .bool false] 24)).alloc (.cells #[.string t, .int .i64 q, .bool false] 24)) = w1 at *
 have l1_0 := F0.out.1.lt
 have a1_0_0 := F0.out.1.cell 0 _ rfl
 have f1_0_0 := F0.out.1.fz 0
 have a1_0_1 := F0.out.1.cell 1 _ rfl
 have f1_0_1 := F0.out.1.fz 1
 have a1_0_2 := F0.out.1.cell 2 _ rfl
 have f1_0_2 := F0.out.1.fz 2
 have l1_1 := F0.out.2.1.lt
 have a1_1_0 := F0.out.2.1.cell 0 _ rfl
 have f1_1_0 := F0.out.2.1.fz 0
 have a1_1_1 := F0.out.2.1.cell 1 _ rfl
 have f1_1_1 := F0.out.2.1.fz 1
 have a1_1_2 := F0.out.2.1.cell 2 _ rfl
 have f1_1_2 := F0.out.2.1.fz 2
 have l1_2 := F0.out.2.2.1.lt
 have a1_2_0 := F0.out.2.2.1.cell 0 _ rfl
 have f1_2_0 := F0.out.2.2.1.fz 0
 have a1_2_1 := F0.out.2.2.1.cell 1 _ rfl
 have f1_2_1 := F0.out.2.2.1.fz 1
 have a1_2_2 := F0.out.2.2.1.cell 2 _ rfl
 have f1_2_2 := F0.out.2.2.1.fz 2
 have ne1_0_1 : ¬ w.heap.size = w.heap.size + 1 := by omega
 have ne1_0_2 : ¬ w.heap.size = w.heap.size + 1 + 1 := by omega
 have ne1_1_0 : ¬ w.heap.size + 1 = w.heap.size := by omega
 have ne1_1_2 : ¬ w.heap.size + 1 = w.heap.size + 1 + 1 := by omega
 have ne1_2_0 : ¬ w.heap.size + 1 + 1 = w.heap.size := by omega
 have ne1_2_1 : ¬ w.heap.size + 1 + 1 = w.heap.size + 1 := by omega
 go_wp2_with fail
 all_goals first | (exfalso; omega) | skip
 refine (HC _).mono ?_
 rintro o2 w2 ⟨rfl, bb⟩
 have F1 : Hid (Bk w2 (w.heap.size) [.string u, .int .i64 o, .bool false] ∧ Bk w2 (w.heap.size + 1) [.string s, .int .i64 p, .bool false] ∧ Bk w2 (w.heap.size + 1 + 1) [.string t, .int .i64 q, .bool false] ∧ Below w.heap.size w w2) := ⟨(F0.out.1).step bb, (F0.out.2.1).step bb, (F0.out.2.2.1).step bb, (F0.out.2.2.2).trans (bb.mono (F0.out.2.2.2).size)⟩
 clear F0
 clear bb
 clear l1_0 a1_0_0 f1_0_0 a1_0_1 f1_0_1 a1_0_2 f1_0_2 l1_1 a1_1_0 f1_1_0 a1_1_1 f1_1_1 a1_1_2 f1_1_2 l1_2 a1_2_0 f1_2_0 a1_2_1 f1_2_1 a1_2_2 f1_2_2
 have l2_0 := F1.out.1.lt
 have a2_0_0 := F1.out.1.cell 0 _ rfl
 have f2_0_0 := F1.out.1.fz 0
 have a2_0_1 := F1.out.1.cell 1 _ rfl
 have f2_0_1 := F1.out.1.fz 1
 have a2_0_2 := F1.out.1.cell 2 _ rfl
 have f2_0_2 := F1.out.1.fz 2
 have l2_1 := F1.out.2.1.lt
 have a2_1_0 := F1.out.2.1.cell 0 _ rfl
 have f2_1_0 := F1.out.2.1.fz 0
 have a2_1_1 := F1.out.2.1.cell 1 _ rfl
 have f2_1_1 := F1.out.2.1.fz 1
 have a2_1_2 := F1.out.2.1.cell 2 _ rfl
 have f2_1_2 := F1.out.2.1.fz 2
 have l2_2 := F1.out.2.2.1.lt
 have a2_2_0 := F1.out.2.2.1.cell 0 _ rfl
 have f2_2_0 := F1.out.2.2.1.fz 0
 have a2_2_1 := F1.out.2.2.1.cell 1 _ rfl
 have f2_2_1 := F1.out.2.2.1.fz 1
 have a2_2_2 := F1.out.2.2.1.cell 2 _ rfl
 have f2_2_2 := F1.out.2.2.1.fz 2
 have ne2_0_1 : ¬ w.heap.size = w.heap.size + 1 := by omega
 have ne2_0_2 : ¬ w.heap.size = w.heap.size + 1 + 1 := by omega
 have ne2_1_0 : ¬ w.heap.size + 1 = w.heap.size := by omega
 have ne2_1_2 : ¬ w.heap.size + 1 = w.heap.size + 1 + 1 := by omega
 have ne2_2_0 : ¬ w.heap.size + 1 + 1 = w.heap.size := by omega
 have ne2_2_1 : ¬ w.heap.size + 1 + 1 = w.heap.size + 1 := by omega
 go_wp2_with fail
 all_goals first | (exfalso; omega) | skip
 refine (HD _).mono ?_
 rintro o3 w3 ⟨rfl, bb⟩
 have F2 : Hid (Bk w3 (w.heap.size) [.string u, .int .i64 o, .bool false] ∧ Bk w3 (w.heap.size + 1) [.string s, .int .i64 p, .bool false] ∧ Bk w3 (w.heap.size + 1 + 1) [.string t, .int .i64 q, .bool false] ∧ Below w.heap.size w w3) := ⟨(F1.out.1).step bb, (F1.out.2.1).step bb, (F1.out.2.2.1).step bb, (F1.out.2.2.2).trans (bb.mono (F1.out.2.2.2).size)⟩
 clear F1
 clear bb
 clear l2_0 a2_0_0 f2_0_0 a2_0_1 f2_0_1 a2_0_2 f2_0_2 l2_1 a2_1_0 f2_1_0 a2_1_1 f2_1_1 a2_1_2 f2_1_2 l2_2 a2_2_0 f2_2_0 a2_2_1 f2_2_1 a2_2_2 f2_2_2
 have l3_0 := F2.out.1.lt
 have a3_0_0 := F2.out.1.cell 0 _ rfl
 have f3_0_0 := F2.out.1.fz 0
 have a3_0_1 := F2.out.1.cell 1 _ rfl
 have f3_0_1 := F2.out.1.fz 1
 have a3_0_2 := F2.out.1.cell 2 _ rfl
 have f3_0_2 := F2.out.1.fz 2
 have l3_1 := F2.out.2.1.lt
 have a3_1_0 := F2.out.2.1.cell 0 _ rfl
 have f3_1_0 := F2.out.2.1.fz 0
 have a3_1_1 := F2.out.2.1.cell 1 _ rfl
 have f3_1_1 := F2.out.2.1.fz 1
 have a3_1_2 := F2.out.2.1.cell 2 _ rfl
 have f3_1_2 := F2.out.2.1.fz 2
 have l3_2 := F2.out.2.2.1.lt
 have a3_2_0 := F2.out.2.2.1.cell 0 _ rfl
 have f3_2_0 := F2.out.2.2.1.fz 0
 have a3_2_1 := F2.out.2.2.1.cell 1 _ rfl
 have f3_2_1 := F2.out.2.2.1.fz 1
 have a3_2_2 := F2.out.2.2.1.cell 2 _ rfl
 have f3_2_2 := F2.out.2.2.1.fz 2
 have ne3_0_1 : ¬ w.heap.size = w.heap.size + 1 := by omega
 have ne3_0_2 : ¬ w.heap.size = w.heap.size + 1 + 1 := by omega
 have ne3_1_0 : ¬ w.heap.size + 1 = w.heap.size := by omega
 have ne3_1_2 : ¬ w.heap.size + 1 = w.heap.size + 1 + 1 := by omega
 have ne3_2_0 : ¬ w.heap.size + 1 + 1 = w.heap.size := by omega
 have ne3_2_1 : ¬ w.heap.size + 1 + 1 = w.heap.size + 1 := by omega
 go_wp2
 go_ret
 exact ⟨rfl, F2.out.2.2.2⟩
theorem wi_1c {s t u : ByteArray} {p q o l h : Int} (q1 : l ≤ 0) (q2 : ¬ l < 0) (HC : ∀ W, Calls Tryz.prog 60 #[.agg #[.string s, .int .i64 p, .bool false], .agg #[.string u, .int .i64 o, .bool false]] W fun e w' => e = .returned (.tuple #[.int .i64 l, .int .i64 0]) ∧ Below W.heap.size W w') (HD : ∀ W, Calls Tryz.prog 60 #[.agg #[.string u, .int .i64 o, .bool false], .agg #[.string t, .int .i64 q, .bool false]] W fun e w' => e = .returned (.tuple #[.int .i64 h, .int .i64 0]) ∧ Below W.heap.size W w') (w : World) :
 Calls Tryz.prog 29 #[.agg #[.string u, .int .i64 o, .bool false], .agg #[.string s, .int .i64 p, .bool false], .agg #[.string t, .int .i64 q, .bool false], .bool true] w fun x w' => x = .returned (.bool (decide (h ≤ 0))) ∧ Below w.heap.size w w' := by
 have F0 : Hid (Bk (((w.alloc (.cells #[.string u, .int .i64 o, .bool false] 24)).alloc (.cells #[.string s, .int .i64 p, .bool false] 24)).alloc (.cells #[.string t, .int .i64 q, .bool false] 24)) (w.heap.size) [.string u, .int .i64 o, .bool false] ∧ Bk (((w.alloc (.cells #[.string u, .int .i64 o, .bool false] 24)).alloc (.cells #[.string s, .int .i64 p, .bool false] 24)).alloc (.cells #[.string t, .int .i64 q, .bool false] 24)) (w.heap.size + 1) [.string s, .int .i64 p, .bool false] ∧ Bk (((w.alloc (.cells #[.string u, .int .i64 o, .bool false] 24)).alloc (.cells #[.string s, .int .i64 p, .bool false] 24)).alloc (.cells #[.string t, .int .i64 q, .bool false] 24)) (w.heap.size + 1 + 1) [.string t, .int .i64 q, .bool false] ∧ Below w.heap.size w (((w.alloc (.cells #[.string u, .int .i64 o, .bool false] 24)).alloc (.cells #[.string s, .int .i64 p, .bool false] 24)).alloc (.cells #[.string t, .int .i64 q, .bool false] 24))) := ⟨((Bk.new3 w (.string u) (.int .i64 o) (.bool false) 24).step ((Below.refl _ _).alloc (Nat.le_refl _) _)).step ((Below.refl _ _).alloc (Nat.le_refl _) _), (((by have q := Bk.new3 (w.alloc (.cells #[.string u, .int .i64 o, .bool false] 24)) (.string s) (.int .i64 p) (.bool false) 24; simpa using q) : Bk ((w.alloc (.cells #[.string u, .int .i64 o, .bool false] 24)).alloc (.cells #[.string s, .int .i64 p, .bool false] 24)) (w.heap.size + 1) [.string s, .int .i64 p, .bool false])).step ((Below.refl _ _).alloc (Nat.le_refl _) _), ((by have q := Bk.new3 ((w.alloc (.cells #[.string u, .int .i64 o, .bool false] 24)).alloc (.cells #[.string s, .int .i64 p, .bool false] 24)) (.string t) (.int .i64 q) (.bool false) 24; simpa using q) : Bk (((w.alloc (.cells #[.string u, .int .i64 o, .bool false] 24)).alloc (.cells #[.string s, .int .i64 p, .bool false] 24)).alloc (.cells #[.string t, .int .i64 q, .bool false] 24)) (w.heap.size + 1 + 1) [.string t, .int .i64 q, .bool false]), ((((Below.refl w.heap.size w)).alloc (Nat.le_refl _) _).alloc ((((Below.refl w.heap.size w)).alloc (Nat.le_refl _) _).size) _).alloc (((((Below.refl w.heap.size w)).alloc (Nat.le_refl _) _).alloc ((((Below.refl w.heap.size w)).alloc (Nat.le_refl _) _).size) _).size) _⟩
 go_enter Tryz.func29, Tryz.ntmps29
 go_upto_region 1 with fail
 generalize (((w.alloc (.cells #[.string u, .int .i64 o, .bool false] 24)).alloc (.cells #[.string s, .int .i64 p, .bool false] 24)).alloc (.cells #[.string t, .int .i64 q, .bool false] 24)) = w1 at *
 have l1_0 := F0.out.1.lt
 have a1_0_0 := F0.out.1.cell 0 _ rfl
 have f1_0_0 := F0.out.1.fz 0
 have a1_0_1 := F0.out.1.cell 1 _ rfl
 have f1_0_1 := F0.out.1.fz 1
 have a1_0_2 := F0.out.1.cell 2 _ rfl
 have f1_0_2 := F0.out.1.fz 2
 have l1_1 := F0.out.2.1.lt
 have a1_1_0 := F0.out.2.1.cell 0 _ rfl
 have f1_1_0 := F0.out.2.1.fz 0
 have a1_1_1 := F0.out.2.1.cell 1 _ rfl
 have f1_1_1 := F0.out.2.1.fz 1
 have a1_1_2 := F0.out.2.1.cell 2 _ rfl
 have f1_1_2 := F0.out.2.1.fz 2
 have l1_2 := F0.out.2.2.1.lt
 have a1_2_0 := F0.out.2.2.1.cell 0 _ rfl
 have f1_2_0 := F0.out.2.2.1.fz 0
 have a1_2_1 := F0.out.2.2.1.cell 1 _ rfl
 have f1_2_1 := F0.out.2.2.1.fz 1
 have a1_2_2 := F0.out.2.2.1.cell 2 _ rfl
 have f1_2_2 := F0.out.2.2.1.fz 2
 have ne1_0_1 : ¬ w.heap.size = w.heap.size + 1 := by omega
 have ne1_0_2 : ¬ w.heap.size = w.heap.size + 1 + 1 := by omega
 have ne1_1_0 : ¬ w.heap.size + 1 = w.heap.size := by omega
 have ne1_1_2 : ¬ w.heap.size + 1 = w.heap.size + 1 + 1 := by omega
 have ne1_2_0 : ¬ w.heap.size + 1 + 1 = w.heap.size := by omega
 have ne1_2_1 : ¬ w.heap.size + 1 + 1 = w.heap.size + 1 := by omega
 go_wp2_with fail
 all_goals first | (exfalso; omega) | skip
 refine (HC _).mono ?_
 rintro o2 w2 ⟨rfl, bb⟩
 have F1 : Hid (Bk w2 (w.heap.size) [.string u, .int .i64 o, .bool false] ∧ Bk w2 (w.heap.size + 1) [.string s, .int .i64 p, .bool false] ∧ Bk w2 (w.heap.size + 1 + 1) [.string t, .int .i64 q, .bool false] ∧ Below w.heap.size w w2) := ⟨(F0.out.1).step bb, (F0.out.2.1).step bb, (F0.out.2.2.1).step bb, (F0.out.2.2.2).trans (bb.mono (F0.out.2.2.2).size)⟩
 clear F0
 clear bb
 clear l1_0 a1_0_0 f1_0_0 a1_0_1 f1_0_1 a1_0_2 f1_0_2 l1_1 a1_1_0 f1_1_0 a1_1_1 f1_1_1 a1_1_2 f1_1_2 l1_2 a1_2_0 f1_2_0 a1_2_1 f1_2_1 a1_2_2 f1_2_2
 have l2_0 := F1.out.1.lt
 have a2_0_0 := F1.out.1.cell 0 _ rfl
 have f2_0_0 := F1.out.1.fz 0
 have a2_0_1 := F1.out.1.cell 1 _ rfl
 have f2_0_1 := F1.out.1.fz 1
 have a2_0_2 := F1.out.1.cell 2 _ rfl
 have f2_0_2 := F1.out.1.fz 2
 have l2_1 := F1.out.2.1.lt
 have a2_1_0 := F1.out.2.1.cell 0 _ rfl
 have f2_1_0 := F1.out.2.1.fz 0
 have a2_1_1 := F1.out.2.1.cell 1 _ rfl
 have f2_1_1 := F1.out.2.1.fz 1
 have a2_1_2 := F1.out.2.1.cell 2 _ rfl
 have f2_1_2 := F1.out.2.1.fz 2
 have l2_2 := F1.out.2.2.1.lt
 have a2_2_0 := F1.out.2.2.1.cell 0 _ rfl
 have f2_2_0 := F1.out.2.2.1.fz 0
 have a2_2_1 := F1.out.2.2.1.cell 1 _ rfl
 have f2_2_1 := F1.out.2.2.1.fz 1
 have a2_2_2 := F1.out.2.2.1.cell 2 _ rfl
 have f2_2_2 := F1.out.2.2.1.fz 2
 have ne2_0_1 : ¬ w.heap.size = w.heap.size + 1 := by omega
 have ne2_0_2 : ¬ w.heap.size = w.heap.size + 1 + 1 := by omega
 have ne2_1_0 : ¬ w.heap.size + 1 = w.heap.size := by omega
 have ne2_1_2 : ¬ w.heap.size + 1 = w.heap.size + 1 + 1 := by omega
 have ne2_2_0 : ¬ w.heap.size + 1 + 1 = w.heap.size := by omega
 have ne2_2_1 : ¬ w.heap.size + 1 + 1 = w.heap.size + 1 := by omega
 go_wp2_with fail
 all_goals first | (exfalso; omega) | skip
 refine (HD _).mono ?_
 rintro o3 w3 ⟨rfl, bb⟩
 have F2 : Hid (Bk w3 (w.heap.size) [.string u, .int .i64 o, .bool false] ∧ Bk w3 (w.heap.size + 1) [.string s, .int .i64 p, .bool false] ∧ Bk w3 (w.heap.size + 1 + 1) [.string t, .int .i64 q, .bool false] ∧ Below w.heap.size w w3) := ⟨(F1.out.1).step bb, (F1.out.2.1).step bb, (F1.out.2.2.1).step bb, (F1.out.2.2.2).trans (bb.mono (F1.out.2.2.2).size)⟩
 clear F1
 clear bb
 clear l2_0 a2_0_0 f2_0_0 a2_0_1 f2_0_1 a2_0_2 f2_0_2 l2_1 a2_1_0 f2_1_0 a2_1_1 f2_1_1 a2_1_2 f2_1_2 l2_2 a2_2_0 f2_2_0 a2_2_1 f2_2_1 a2_2_2 f2_2_2
 have l3_0 := F2.out.1.lt
 have a3_0_0 := F2.out.1.cell 0 _ rfl
 have f3_0_0 := F2.out.1.fz 0
 have a3_0_1 := F2.out.1.cell 1 _ rfl
 have f3_0_1 := F2.out.1.fz 1
 have a3_0_2 := F2.out.1.cell 2 _ rfl
 have f3_0_2 := F2.out.1.fz 2
 have l3_1 := F2.out.2.1.lt
 have a3_1_0 := F2.out.2.1.cell 0 _ rfl
 have f3_1_0 := F2.out.2.1.fz 0
 have a3_1_1 := F2.out.2.1.cell 1 _ rfl
 have f3_1_1 := F2.out.2.1.fz 1
 have a3_1_2 := F2.out.2.1.cell 2 _ rfl
 have f3_1_2 := F2.out.2.1.fz 2
 have l3_2 := F2.out.2.2.1.lt
 have a3_2_0 := F2.out.2.2.1.cell 0 _ rfl
 have f3_2_0 := F2.out.2.2.1.fz 0
 have a3_2_1 := F2.out.2.2.1.cell 1 _ rfl
 have f3_2_1 := F2.out.2.2.1.fz 1
 have a3_2_2 := F2.out.2.2.1.cell 2 _ rfl
 have f3_2_2 := F2.out.2.2.1.fz 2
 have ne3_0_1 : ¬ w.heap.size = w.heap.size + 1 := by omega
 have ne3_0_2 : ¬ w.heap.size = w.heap.size + 1 + 1 := by omega
 have ne3_1_0 : ¬ w.heap.size + 1 = w.heap.size := by omega
 have ne3_1_2 : ¬ w.heap.size + 1 = w.heap.size + 1 + 1 := by omega
 have ne3_2_0 : ¬ w.heap.size + 1 + 1 = w.heap.size := by omega
 have ne3_2_1 : ¬ w.heap.size + 1 + 1 = w.heap.size + 1 := by omega
 go_wp2
 go_ret
 exact ⟨rfl, F2.out.2.2.2⟩
theorem wi_2a {s t u : ByteArray} {p q o l h : Int} (q1 : l < 0) (q3 : h < 0) (HC : ∀ W, Calls Tryz.prog 60 #[.agg #[.string s, .int .i64 p, .bool false], .agg #[.string u, .int .i64 o, .bool false]] W fun e w' => e = .returned (.tuple #[.int .i64 l, .int .i64 0]) ∧ Below W.heap.size W w') (HD : ∀ W, Calls Tryz.prog 60 #[.agg #[.string u, .int .i64 o, .bool false], .agg #[.string t, .int .i64 q, .bool false]] W fun e w' => e = .returned (.tuple #[.int .i64 h, .int .i64 0]) ∧ Below W.heap.size W w') (w : World) :
 Calls Tryz.prog 29 #[.agg #[.string u, .int .i64 o, .bool false], .agg #[.string s, .int .i64 p, .bool false], .agg #[.string t, .int .i64 q, .bool false], .bool false] w fun x w' => x = .returned (.bool true) ∧ Below w.heap.size w w' := by
 have F0 : Hid (Bk (((w.alloc (.cells #[.string u, .int .i64 o, .bool false] 24)).alloc (.cells #[.string s, .int .i64 p, .bool false] 24)).alloc (.cells #[.string t, .int .i64 q, .bool false] 24)) (w.heap.size) [.string u, .int .i64 o, .bool false] ∧ Bk (((w.alloc (.cells #[.string u, .int .i64 o, .bool false] 24)).alloc (.cells #[.string s, .int .i64 p, .bool false] 24)).alloc (.cells #[.string t, .int .i64 q, .bool false] 24)) (w.heap.size + 1) [.string s, .int .i64 p, .bool false] ∧ Bk (((w.alloc (.cells #[.string u, .int .i64 o, .bool false] 24)).alloc (.cells #[.string s, .int .i64 p, .bool false] 24)).alloc (.cells #[.string t, .int .i64 q, .bool false] 24)) (w.heap.size + 1 + 1) [.string t, .int .i64 q, .bool false] ∧ Below w.heap.size w (((w.alloc (.cells #[.string u, .int .i64 o, .bool false] 24)).alloc (.cells #[.string s, .int .i64 p, .bool false] 24)).alloc (.cells #[.string t, .int .i64 q, .bool false] 24))) := ⟨((Bk.new3 w (.string u) (.int .i64 o) (.bool false) 24).step ((Below.refl _ _).alloc (Nat.le_refl _) _)).step ((Below.refl _ _).alloc (Nat.le_refl _) _), (((by have q := Bk.new3 (w.alloc (.cells #[.string u, .int .i64 o, .bool false] 24)) (.string s) (.int .i64 p) (.bool false) 24; simpa using q) : Bk ((w.alloc (.cells #[.string u, .int .i64 o, .bool false] 24)).alloc (.cells #[.string s, .int .i64 p, .bool false] 24)) (w.heap.size + 1) [.string s, .int .i64 p, .bool false])).step ((Below.refl _ _).alloc (Nat.le_refl _) _), ((by have q := Bk.new3 ((w.alloc (.cells #[.string u, .int .i64 o, .bool false] 24)).alloc (.cells #[.string s, .int .i64 p, .bool false] 24)) (.string t) (.int .i64 q) (.bool false) 24; simpa using q) : Bk (((w.alloc (.cells #[.string u, .int .i64 o, .bool false] 24)).alloc (.cells #[.string s, .int .i64 p, .bool false] 24)).alloc (.cells #[.string t, .int .i64 q, .bool false] 24)) (w.heap.size + 1 + 1) [.string t, .int .i64 q, .bool false]), ((((Below.refl w.heap.size w)).alloc (Nat.le_refl _) _).alloc ((((Below.refl w.heap.size w)).alloc (Nat.le_refl _) _).size) _).alloc (((((Below.refl w.heap.size w)).alloc (Nat.le_refl _) _).alloc ((((Below.refl w.heap.size w)).alloc (Nat.le_refl _) _).size) _).size) _⟩
 go_enter Tryz.func29, Tryz.ntmps29
 go_upto_region 1 with fail
 generalize (((w.alloc (.cells #[.string u, .int .i64 o, .bool false] 24)).alloc (.cells #[.string s, .int .i64 p, .bool false] 24)).alloc (.cells #[.string t, .int .i64 q, .bool false] 24)) = w1 at *
 have l1_0 := F0.out.1.lt
 have a1_0_0 := F0.out.1.cell 0 _ rfl
 have f1_0_0 := F0.out.1.fz 0
 have a1_0_1 := F0.out.1.cell 1 _ rfl
 have f1_0_1 := F0.out.1.fz 1
 have a1_0_2 := F0.out.1.cell 2 _ rfl
 have f1_0_2 := F0.out.1.fz 2
 have l1_1 := F0.out.2.1.lt
 have a1_1_0 := F0.out.2.1.cell 0 _ rfl
 have f1_1_0 := F0.out.2.1.fz 0
 have a1_1_1 := F0.out.2.1.cell 1 _ rfl
 have f1_1_1 := F0.out.2.1.fz 1
 have a1_1_2 := F0.out.2.1.cell 2 _ rfl
 have f1_1_2 := F0.out.2.1.fz 2
 have l1_2 := F0.out.2.2.1.lt
 have a1_2_0 := F0.out.2.2.1.cell 0 _ rfl
 have f1_2_0 := F0.out.2.2.1.fz 0
 have a1_2_1 := F0.out.2.2.1.cell 1 _ rfl
 have f1_2_1 := F0.out.2.2.1.fz 1
 have a1_2_2 := F0.out.2.2.1.cell 2 _ rfl
 have f1_2_2 := F0.out.2.2.1.fz 2
 have ne1_0_1 : ¬ w.heap.size = w.heap.size + 1 := by omega
 have ne1_0_2 : ¬ w.heap.size = w.heap.size + 1 + 1 := by omega
 have ne1_1_0 : ¬ w.heap.size + 1 = w.heap.size := by omega
 have ne1_1_2 : ¬ w.heap.size + 1 = w.heap.size + 1 + 1 := by omega
 have ne1_2_0 : ¬ w.heap.size + 1 + 1 = w.heap.size := by omega
 have ne1_2_1 : ¬ w.heap.size + 1 + 1 = w.heap.size + 1 := by omega
 go_wp2_with fail
 all_goals first | (exfalso; omega) | skip
 refine (HC _).mono ?_
 rintro o2 w2 ⟨rfl, bb⟩
 have F1 : Hid (Bk w2 (w.heap.size) [.string u, .int .i64 o, .bool false] ∧ Bk w2 (w.heap.size + 1) [.string s, .int .i64 p, .bool false] ∧ Bk w2 (w.heap.size + 1 + 1) [.string t, .int .i64 q, .bool false] ∧ Below w.heap.size w w2) := ⟨(F0.out.1).step bb, (F0.out.2.1).step bb, (F0.out.2.2.1).step bb, (F0.out.2.2.2).trans (bb.mono (F0.out.2.2.2).size)⟩
 clear F0
 clear bb
 clear l1_0 a1_0_0 f1_0_0 a1_0_1 f1_0_1 a1_0_2 f1_0_2 l1_1 a1_1_0 f1_1_0 a1_1_1 f1_1_1 a1_1_2 f1_1_2 l1_2 a1_2_0 f1_2_0 a1_2_1 f1_2_1 a1_2_2 f1_2_2
 have l2_0 := F1.out.1.lt
 have a2_0_0 := F1.out.1.cell 0 _ rfl
 have f2_0_0 := F1.out.1.fz 0
 have a2_0_1 := F1.out.1.cell 1 _ rfl
 have f2_0_1 := F1.out.1.fz 1
 have a2_0_2 := F1.out.1.cell 2 _ rfl
 have f2_0_2 := F1.out.1.fz 2
 have l2_1 := F1.out.2.1.lt
 have a2_1_0 := F1.out.2.1.cell 0 _ rfl
 have f2_1_0 := F1.out.2.1.fz 0
 have a2_1_1 := F1.out.2.1.cell 1 _ rfl
 have f2_1_1 := F1.out.2.1.fz 1
 have a2_1_2 := F1.out.2.1.cell 2 _ rfl
 have f2_1_2 := F1.out.2.1.fz 2
 have l2_2 := F1.out.2.2.1.lt
 have a2_2_0 := F1.out.2.2.1.cell 0 _ rfl
 have f2_2_0 := F1.out.2.2.1.fz 0
 have a2_2_1 := F1.out.2.2.1.cell 1 _ rfl
 have f2_2_1 := F1.out.2.2.1.fz 1
 have a2_2_2 := F1.out.2.2.1.cell 2 _ rfl
 have f2_2_2 := F1.out.2.2.1.fz 2
 have ne2_0_1 : ¬ w.heap.size = w.heap.size + 1 := by omega
 have ne2_0_2 : ¬ w.heap.size = w.heap.size + 1 + 1 := by omega
 have ne2_1_0 : ¬ w.heap.size + 1 = w.heap.size := by omega
 have ne2_1_2 : ¬ w.heap.size + 1 = w.heap.size + 1 + 1 := by omega
 have ne2_2_0 : ¬ w.heap.size + 1 + 1 = w.heap.size := by omega
 have ne2_2_1 : ¬ w.heap.size + 1 + 1 = w.heap.size + 1 := by omega
 go_wp2_with fail
 all_goals first | (exfalso; omega) | skip
 refine (HD _).mono ?_
 rintro o3 w3 ⟨rfl, bb⟩
 have F2 : Hid (Bk w3 (w.heap.size) [.string u, .int .i64 o, .bool false] ∧ Bk w3 (w.heap.size + 1) [.string s, .int .i64 p, .bool false] ∧ Bk w3 (w.heap.size + 1 + 1) [.string t, .int .i64 q, .bool false] ∧ Below w.heap.size w w3) := ⟨(F1.out.1).step bb, (F1.out.2.1).step bb, (F1.out.2.2.1).step bb, (F1.out.2.2.2).trans (bb.mono (F1.out.2.2.2).size)⟩
 clear F1
 clear bb
 clear l2_0 a2_0_0 f2_0_0 a2_0_1 f2_0_1 a2_0_2 f2_0_2 l2_1 a2_1_0 f2_1_0 a2_1_1 f2_1_1 a2_1_2 f2_1_2 l2_2 a2_2_0 f2_2_0 a2_2_1 f2_2_1 a2_2_2 f2_2_2
 have l3_0 := F2.out.1.lt
 have a3_0_0 := F2.out.1.cell 0 _ rfl
 have f3_0_0 := F2.out.1.fz 0
 have a3_0_1 := F2.out.1.cell 1 _ rfl
 have f3_0_1 := F2.out.1.fz 1
 have a3_0_2 := F2.out.1.cell 2 _ rfl
 have f3_0_2 := F2.out.1.fz 2
 have l3_1 := F2.out.2.1.lt
 have a3_1_0 := F2.out.2.1.cell 0 _ rfl
 have f3_1_0 := F2.out.2.1.fz 0
 have a3_1_1 := F2.out.2.1.cell 1 _ rfl
 have f3_1_1 := F2.out.2.1.fz 1
 have a3_1_2 := F2.out.2.1.cell 2 _ rfl
 have f3_1_2 := F2.out.2.1.fz 2
 have l3_2 := F2.out.2.2.1.lt
 have a3_2_0 := F2.out.2.2.1.cell 0 _ rfl
 have f3_2_0 := F2.out.2.2.1.fz 0
 have a3_2_1 := F2.out.2.2.1.cell 1 _ rfl
 have f3_2_1 := F2.out.2.2.1.fz 1
 have a3_2_2 := F2.out.2.2.1.cell 2 _ rfl
 have f3_2_2 := F2.out.2.2.1.fz 2
 have ne3_0_1 : ¬ w.heap.size = w.heap.size + 1 := by omega
 have ne3_0_2 : ¬ w.heap.size = w.heap.size + 1 + 1 := by omega
 have ne3_1_0 : ¬ w.heap.size + 1 = w.heap.size := by omega
 have ne3_1_2 : ¬ w.heap.size + 1 = w.heap.size + 1 + 1 := by omega
 have ne3_2_0 : ¬ w.heap.size + 1 + 1 = w.heap.size := by omega
 have ne3_2_1 : ¬ w.heap.size + 1 + 1 = w.heap.size + 1 := by omega
 go_wp2
 go_ret
 exact ⟨rfl, F2.out.2.2.2⟩
theorem wi_2b {s t u : ByteArray} {p q o l h : Int} (q1 : l < 0) (q3 : ¬ h < 0) (HC : ∀ W, Calls Tryz.prog 60 #[.agg #[.string s, .int .i64 p, .bool false], .agg #[.string u, .int .i64 o, .bool false]] W fun e w' => e = .returned (.tuple #[.int .i64 l, .int .i64 0]) ∧ Below W.heap.size W w') (HD : ∀ W, Calls Tryz.prog 60 #[.agg #[.string u, .int .i64 o, .bool false], .agg #[.string t, .int .i64 q, .bool false]] W fun e w' => e = .returned (.tuple #[.int .i64 h, .int .i64 0]) ∧ Below W.heap.size W w') (w : World) :
 Calls Tryz.prog 29 #[.agg #[.string u, .int .i64 o, .bool false], .agg #[.string s, .int .i64 p, .bool false], .agg #[.string t, .int .i64 q, .bool false], .bool false] w fun x w' => x = .returned (.bool (decide (h < 0))) ∧ Below w.heap.size w w' := by
 have F0 : Hid (Bk (((w.alloc (.cells #[.string u, .int .i64 o, .bool false] 24)).alloc (.cells #[.string s, .int .i64 p, .bool false] 24)).alloc (.cells #[.string t, .int .i64 q, .bool false] 24)) (w.heap.size) [.string u, .int .i64 o, .bool false] ∧ Bk (((w.alloc (.cells #[.string u, .int .i64 o, .bool false] 24)).alloc (.cells #[.string s, .int .i64 p, .bool false] 24)).alloc (.cells #[.string t, .int .i64 q, .bool false] 24)) (w.heap.size + 1) [.string s, .int .i64 p, .bool false] ∧ Bk (((w.alloc (.cells #[.string u, .int .i64 o, .bool false] 24)).alloc (.cells #[.string s, .int .i64 p, .bool false] 24)).alloc (.cells #[.string t, .int .i64 q, .bool false] 24)) (w.heap.size + 1 + 1) [.string t, .int .i64 q, .bool false] ∧ Below w.heap.size w (((w.alloc (.cells #[.string u, .int .i64 o, .bool false] 24)).alloc (.cells #[.string s, .int .i64 p, .bool false] 24)).alloc (.cells #[.string t, .int .i64 q, .bool false] 24))) := ⟨((Bk.new3 w (.string u) (.int .i64 o) (.bool false) 24).step ((Below.refl _ _).alloc (Nat.le_refl _) _)).step ((Below.refl _ _).alloc (Nat.le_refl _) _), (((by have q := Bk.new3 (w.alloc (.cells #[.string u, .int .i64 o, .bool false] 24)) (.string s) (.int .i64 p) (.bool false) 24; simpa using q) : Bk ((w.alloc (.cells #[.string u, .int .i64 o, .bool false] 24)).alloc (.cells #[.string s, .int .i64 p, .bool false] 24)) (w.heap.size + 1) [.string s, .int .i64 p, .bool false])).step ((Below.refl _ _).alloc (Nat.le_refl _) _), ((by have q := Bk.new3 ((w.alloc (.cells #[.string u, .int .i64 o, .bool false] 24)).alloc (.cells #[.string s, .int .i64 p, .bool false] 24)) (.string t) (.int .i64 q) (.bool false) 24; simpa using q) : Bk (((w.alloc (.cells #[.string u, .int .i64 o, .bool false] 24)).alloc (.cells #[.string s, .int .i64 p, .bool false] 24)).alloc (.cells #[.string t, .int .i64 q, .bool false] 24)) (w.heap.size + 1 + 1) [.string t, .int .i64 q, .bool false]), ((((Below.refl w.heap.size w)).alloc (Nat.le_refl _) _).alloc ((((Below.refl w.heap.size w)).alloc (Nat.le_refl _) _).size) _).alloc (((((Below.refl w.heap.size w)).alloc (Nat.le_refl _) _).alloc ((((Below.refl w.heap.size w)).alloc (Nat.le_refl _) _).size) _).size) _⟩
 go_enter Tryz.func29, Tryz.ntmps29
 go_upto_region 1 with fail
 generalize (((w.alloc (.cells #[.string u, .int .i64 o, .bool false] 24)).alloc (.cells #[.string s, .int .i64 p, .bool false] 24)).alloc (.cells #[.string t, .int .i64 q, .bool false] 24)) = w1 at *
 have l1_0 := F0.out.1.lt
 have a1_0_0 := F0.out.1.cell 0 _ rfl
 have f1_0_0 := F0.out.1.fz 0
 have a1_0_1 := F0.out.1.cell 1 _ rfl
 have f1_0_1 := F0.out.1.fz 1
 have a1_0_2 := F0.out.1.cell 2 _ rfl
 have f1_0_2 := F0.out.1.fz 2
 have l1_1 := F0.out.2.1.lt
 have a1_1_0 := F0.out.2.1.cell 0 _ rfl
 have f1_1_0 := F0.out.2.1.fz 0
 have a1_1_1 := F0.out.2.1.cell 1 _ rfl
 have f1_1_1 := F0.out.2.1.fz 1
 have a1_1_2 := F0.out.2.1.cell 2 _ rfl
 have f1_1_2 := F0.out.2.1.fz 2
 have l1_2 := F0.out.2.2.1.lt
 have a1_2_0 := F0.out.2.2.1.cell 0 _ rfl
 have f1_2_0 := F0.out.2.2.1.fz 0
 have a1_2_1 := F0.out.2.2.1.cell 1 _ rfl
 have f1_2_1 := F0.out.2.2.1.fz 1
 have a1_2_2 := F0.out.2.2.1.cell 2 _ rfl
 have f1_2_2 := F0.out.2.2.1.fz 2
 have ne1_0_1 : ¬ w.heap.size = w.heap.size + 1 := by omega
 have ne1_0_2 : ¬ w.heap.size = w.heap.size + 1 + 1 := by omega
 have ne1_1_0 : ¬ w.heap.size + 1 = w.heap.size := by omega
 have ne1_1_2 : ¬ w.heap.size + 1 = w.heap.size + 1 + 1 := by omega
 have ne1_2_0 : ¬ w.heap.size + 1 + 1 = w.heap.size := by omega
 have ne1_2_1 : ¬ w.heap.size + 1 + 1 = w.heap.size + 1 := by omega
 go_wp2_with fail
 all_goals first | (exfalso; omega) | skip
 refine (HC _).mono ?_
 rintro o2 w2 ⟨rfl, bb⟩
 have F1 : Hid (Bk w2 (w.heap.size) [.string u, .int .i64 o, .bool false] ∧ Bk w2 (w.heap.size + 1) [.string s, .int .i64 p, .bool false] ∧ Bk w2 (w.heap.size + 1 + 1) [.string t, .int .i64 q, .bool false] ∧ Below w.heap.size w w2) := ⟨(F0.out.1).step bb, (F0.out.2.1).step bb, (F0.out.2.2.1).step bb, (F0.out.2.2.2).trans (bb.mono (F0.out.2.2.2).size)⟩
 clear F0
 clear bb
 clear l1_0 a1_0_0 f1_0_0 a1_0_1 f1_0_1 a1_0_2 f1_0_2 l1_1 a1_1_0 f1_1_0 a1_1_1 f1_1_1 a1_1_2 f1_1_2 l1_2 a1_2_0 f1_2_0 a1_2_1 f1_2_1 a1_2_2 f1_2_2
 have l2_0 := F1.out.1.lt
 have a2_0_0 := F1.out.1.cell 0 _ rfl
 have f2_0_0 := F1.out.1.fz 0
 have a2_0_1 := F1.out.1.cell 1 _ rfl
 have f2_0_1 := F1.out.1.fz 1
 have a2_0_2 := F1.out.1.cell 2 _ rfl
 have f2_0_2 := F1.out.1.fz 2
 have l2_1 := F1.out.2.1.lt
 have a2_1_0 := F1.out.2.1.cell 0 _ rfl
 have f2_1_0 := F1.out.2.1.fz 0
 have a2_1_1 := F1.out.2.1.cell 1 _ rfl
 have f2_1_1 := F1.out.2.1.fz 1
 have a2_1_2 := F1.out.2.1.cell 2 _ rfl
 have f2_1_2 := F1.out.2.1.fz 2
 have l2_2 := F1.out.2.2.1.lt
 have a2_2_0 := F1.out.2.2.1.cell 0 _ rfl
 have f2_2_0 := F1.out.2.2.1.fz 0
 have a2_2_1 := F1.out.2.2.1.cell 1 _ rfl
 have f2_2_1 := F1.out.2.2.1.fz 1
 have a2_2_2 := F1.out.2.2.1.cell 2 _ rfl
 have f2_2_2 := F1.out.2.2.1.fz 2
 have ne2_0_1 : ¬ w.heap.size = w.heap.size + 1 := by omega
 have ne2_0_2 : ¬ w.heap.size = w.heap.size + 1 + 1 := by omega
 have ne2_1_0 : ¬ w.heap.size + 1 = w.heap.size := by omega
 have ne2_1_2 : ¬ w.heap.size + 1 = w.heap.size + 1 + 1 := by omega
 have ne2_2_0 : ¬ w.heap.size + 1 + 1 = w.heap.size := by omega
 have ne2_2_1 : ¬ w.heap.size + 1 + 1 = w.heap.size + 1 := by omega
 go_wp2_with fail
 all_goals first | (exfalso; omega) | skip
 refine (HD _).mono ?_
 rintro o3 w3 ⟨rfl, bb⟩
 have F2 : Hid (Bk w3 (w.heap.size) [.string u, .int .i64 o, .bool false] ∧ Bk w3 (w.heap.size + 1) [.string s, .int .i64 p, .bool false] ∧ Bk w3 (w.heap.size + 1 + 1) [.string t, .int .i64 q, .bool false] ∧ Below w.heap.size w w3) := ⟨(F1.out.1).step bb, (F1.out.2.1).step bb, (F1.out.2.2.1).step bb, (F1.out.2.2.2).trans (bb.mono (F1.out.2.2.2).size)⟩
 clear F1
 clear bb
 clear l2_0 a2_0_0 f2_0_0 a2_0_1 f2_0_1 a2_0_2 f2_0_2 l2_1 a2_1_0 f2_1_0 a2_1_1 f2_1_1 a2_1_2 f2_1_2 l2_2 a2_2_0 f2_2_0 a2_2_1 f2_2_1 a2_2_2 f2_2_2
 have l3_0 := F2.out.1.lt
 have a3_0_0 := F2.out.1.cell 0 _ rfl
 have f3_0_0 := F2.out.1.fz 0
 have a3_0_1 := F2.out.1.cell 1 _ rfl
 have f3_0_1 := F2.out.1.fz 1
 have a3_0_2 := F2.out.1.cell 2 _ rfl
 have f3_0_2 := F2.out.1.fz 2
 have l3_1 := F2.out.2.1.lt
 have a3_1_0 := F2.out.2.1.cell 0 _ rfl
 have f3_1_0 := F2.out.2.1.fz 0
 have a3_1_1 := F2.out.2.1.cell 1 _ rfl
 have f3_1_1 := F2.out.2.1.fz 1
 have a3_1_2 := F2.out.2.1.cell 2 _ rfl
 have f3_1_2 := F2.out.2.1.fz 2
 have l3_2 := F2.out.2.2.1.lt
 have a3_2_0 := F2.out.2.2.1.cell 0 _ rfl
 have f3_2_0 := F2.out.2.2.1.fz 0
 have a3_2_1 := F2.out.2.2.1.cell 1 _ rfl
 have f3_2_1 := F2.out.2.2.1.fz 1
 have a3_2_2 := F2.out.2.2.1.cell 2 _ rfl
 have f3_2_2 := F2.out.2.2.1.fz 2
 have ne3_0_1 : ¬ w.heap.size = w.heap.size + 1 := by omega
 have ne3_0_2 : ¬ w.heap.size = w.heap.size + 1 + 1 := by omega
 have ne3_1_0 : ¬ w.heap.size + 1 = w.heap.size := by omega
 have ne3_1_2 : ¬ w.heap.size + 1 = w.heap.size + 1 + 1 := by omega
 have ne3_2_0 : ¬ w.heap.size + 1 + 1 = w.heap.size := by omega
 have ne3_2_1 : ¬ w.heap.size + 1 + 1 = w.heap.size + 1 := by omega
 go_wp2
 go_ret
 exact ⟨rfl, F2.out.2.2.2⟩
theorem wi_3 {s t u : ByteArray} {p q o l h : Int} (q1 : ¬ l < 0)  (HC : ∀ W, Calls Tryz.prog 60 #[.agg #[.string s, .int .i64 p, .bool false], .agg #[.string u, .int .i64 o, .bool false]] W fun e w' => e = .returned (.tuple #[.int .i64 l, .int .i64 0]) ∧ Below W.heap.size W w') (HD : ∀ W, Calls Tryz.prog 60 #[.agg #[.string u, .int .i64 o, .bool false], .agg #[.string t, .int .i64 q, .bool false]] W fun e w' => e = .returned (.tuple #[.int .i64 h, .int .i64 0]) ∧ Below W.heap.size W w') (w : World) :
 Calls Tryz.prog 29 #[.agg #[.string u, .int .i64 o, .bool false], .agg #[.string s, .int .i64 p, .bool false], .agg #[.string t, .int .i64 q, .bool false], .bool false] w fun x w' => x = .returned (.bool false) ∧ Below w.heap.size w w' := by
 have F0 : Hid (Bk (((w.alloc (.cells #[.string u, .int .i64 o, .bool false] 24)).alloc (.cells #[.string s, .int .i64 p, .bool false] 24)).alloc (.cells #[.string t, .int .i64 q, .bool false] 24)) (w.heap.size) [.string u, .int .i64 o, .bool false] ∧ Bk (((w.alloc (.cells #[.string u, .int .i64 o, .bool false] 24)).alloc (.cells #[.string s, .int .i64 p, .bool false] 24)).alloc (.cells #[.string t, .int .i64 q, .bool false] 24)) (w.heap.size + 1) [.string s, .int .i64 p, .bool false] ∧ Bk (((w.alloc (.cells #[.string u, .int .i64 o, .bool false] 24)).alloc (.cells #[.string s, .int .i64 p, .bool false] 24)).alloc (.cells #[.string t, .int .i64 q, .bool false] 24)) (w.heap.size + 1 + 1) [.string t, .int .i64 q, .bool false] ∧ Below w.heap.size w (((w.alloc (.cells #[.string u, .int .i64 o, .bool false] 24)).alloc (.cells #[.string s, .int .i64 p, .bool false] 24)).alloc (.cells #[.string t, .int .i64 q, .bool false] 24))) := ⟨((Bk.new3 w (.string u) (.int .i64 o) (.bool false) 24).step ((Below.refl _ _).alloc (Nat.le_refl _) _)).step ((Below.refl _ _).alloc (Nat.le_refl _) _), (((by have q := Bk.new3 (w.alloc (.cells #[.string u, .int .i64 o, .bool false] 24)) (.string s) (.int .i64 p) (.bool false) 24; simpa using q) : Bk ((w.alloc (.cells #[.string u, .int .i64 o, .bool false] 24)).alloc (.cells #[.string s, .int .i64 p, .bool false] 24)) (w.heap.size + 1) [.string s, .int .i64 p, .bool false])).step ((Below.refl _ _).alloc (Nat.le_refl _) _), ((by have q := Bk.new3 ((w.alloc (.cells #[.string u, .int .i64 o, .bool false] 24)).alloc (.cells #[.string s, .int .i64 p, .bool false] 24)) (.string t) (.int .i64 q) (.bool false) 24; simpa using q) : Bk (((w.alloc (.cells #[.string u, .int .i64 o, .bool false] 24)).alloc (.cells #[.string s, .int .i64 p, .bool false] 24)).alloc (.cells #[.string t, .int .i64 q, .bool false] 24)) (w.heap.size + 1 + 1) [.string t, .int .i64 q, .bool false]), ((((Below.refl w.heap.size w)).alloc (Nat.le_refl _) _).alloc ((((Below.refl w.heap.size w)).alloc (Nat.le_refl _) _).size) _).alloc (((((Below.refl w.heap.size w)).alloc (Nat.le_refl _) _).alloc ((((Below.refl w.heap.size w)).alloc (Nat.le_refl _) _).size) _).size) _⟩
 go_enter Tryz.func29, Tryz.ntmps29
 go_upto_region 1 with fail
 generalize (((w.alloc (.cells #[.string u, .int .i64 o, .bool false] 24)).alloc (.cells #[.string s, .int .i64 p, .bool false] 24)).alloc (.cells #[.string t, .int .i64 q, .bool false] 24)) = w1 at *
 have l1_0 := F0.out.1.lt
 have a1_0_0 := F0.out.1.cell 0 _ rfl
 have f1_0_0 := F0.out.1.fz 0
 have a1_0_1 := F0.out.1.cell 1 _ rfl
 have f1_0_1 := F0.out.1.fz 1
 have a1_0_2 := F0.out.1.cell 2 _ rfl
 have f1_0_2 := F0.out.1.fz 2
 have l1_1 := F0.out.2.1.lt
 have a1_1_0 := F0.out.2.1.cell 0 _ rfl
 have f1_1_0 := F0.out.2.1.fz 0
 have a1_1_1 := F0.out.2.1.cell 1 _ rfl
 have f1_1_1 := F0.out.2.1.fz 1
 have a1_1_2 := F0.out.2.1.cell 2 _ rfl
 have f1_1_2 := F0.out.2.1.fz 2
 have l1_2 := F0.out.2.2.1.lt
 have a1_2_0 := F0.out.2.2.1.cell 0 _ rfl
 have f1_2_0 := F0.out.2.2.1.fz 0
 have a1_2_1 := F0.out.2.2.1.cell 1 _ rfl
 have f1_2_1 := F0.out.2.2.1.fz 1
 have a1_2_2 := F0.out.2.2.1.cell 2 _ rfl
 have f1_2_2 := F0.out.2.2.1.fz 2
 have ne1_0_1 : ¬ w.heap.size = w.heap.size + 1 := by omega
 have ne1_0_2 : ¬ w.heap.size = w.heap.size + 1 + 1 := by omega
 have ne1_1_0 : ¬ w.heap.size + 1 = w.heap.size := by omega
 have ne1_1_2 : ¬ w.heap.size + 1 = w.heap.size + 1 + 1 := by omega
 have ne1_2_0 : ¬ w.heap.size + 1 + 1 = w.heap.size := by omega
 have ne1_2_1 : ¬ w.heap.size + 1 + 1 = w.heap.size + 1 := by omega
 go_wp2_with fail
 all_goals first | (exfalso; omega) | skip
 refine (HC _).mono ?_
 rintro o2 w2 ⟨rfl, bb⟩
 have F1 : Hid (Bk w2 (w.heap.size) [.string u, .int .i64 o, .bool false] ∧ Bk w2 (w.heap.size + 1) [.string s, .int .i64 p, .bool false] ∧ Bk w2 (w.heap.size + 1 + 1) [.string t, .int .i64 q, .bool false] ∧ Below w.heap.size w w2) := ⟨(F0.out.1).step bb, (F0.out.2.1).step bb, (F0.out.2.2.1).step bb, (F0.out.2.2.2).trans (bb.mono (F0.out.2.2.2).size)⟩
 clear F0
 clear bb
 clear l1_0 a1_0_0 f1_0_0 a1_0_1 f1_0_1 a1_0_2 f1_0_2 l1_1 a1_1_0 f1_1_0 a1_1_1 f1_1_1 a1_1_2 f1_1_2 l1_2 a1_2_0 f1_2_0 a1_2_1 f1_2_1 a1_2_2 f1_2_2
 have l2_0 := F1.out.1.lt
 have a2_0_0 := F1.out.1.cell 0 _ rfl
 have f2_0_0 := F1.out.1.fz 0
 have a2_0_1 := F1.out.1.cell 1 _ rfl
 have f2_0_1 := F1.out.1.fz 1
 have a2_0_2 := F1.out.1.cell 2 _ rfl
 have f2_0_2 := F1.out.1.fz 2
 have l2_1 := F1.out.2.1.lt
 have a2_1_0 := F1.out.2.1.cell 0 _ rfl
 have f2_1_0 := F1.out.2.1.fz 0
 have a2_1_1 := F1.out.2.1.cell 1 _ rfl
 have f2_1_1 := F1.out.2.1.fz 1
 have a2_1_2 := F1.out.2.1.cell 2 _ rfl
 have f2_1_2 := F1.out.2.1.fz 2
 have l2_2 := F1.out.2.2.1.lt
 have a2_2_0 := F1.out.2.2.1.cell 0 _ rfl
 have f2_2_0 := F1.out.2.2.1.fz 0
 have a2_2_1 := F1.out.2.2.1.cell 1 _ rfl
 have f2_2_1 := F1.out.2.2.1.fz 1
 have a2_2_2 := F1.out.2.2.1.cell 2 _ rfl
 have f2_2_2 := F1.out.2.2.1.fz 2
 have ne2_0_1 : ¬ w.heap.size = w.heap.size + 1 := by omega
 have ne2_0_2 : ¬ w.heap.size = w.heap.size + 1 + 1 := by omega
 have ne2_1_0 : ¬ w.heap.size + 1 = w.heap.size := by omega
 have ne2_1_2 : ¬ w.heap.size + 1 = w.heap.size + 1 + 1 := by omega
 have ne2_2_0 : ¬ w.heap.size + 1 + 1 = w.heap.size := by omega
 have ne2_2_1 : ¬ w.heap.size + 1 + 1 = w.heap.size + 1 := by omega
 go_wp2_with fail
 all_goals first | (exfalso; omega) | skip
 refine (HD _).mono ?_
 rintro o3 w3 ⟨rfl, bb⟩
 have F2 : Hid (Bk w3 (w.heap.size) [.string u, .int .i64 o, .bool false] ∧ Bk w3 (w.heap.size + 1) [.string s, .int .i64 p, .bool false] ∧ Bk w3 (w.heap.size + 1 + 1) [.string t, .int .i64 q, .bool false] ∧ Below w.heap.size w w3) := ⟨(F1.out.1).step bb, (F1.out.2.1).step bb, (F1.out.2.2.1).step bb, (F1.out.2.2.2).trans (bb.mono (F1.out.2.2.2).size)⟩
 clear F1
 clear bb
 clear l2_0 a2_0_0 f2_0_0 a2_0_1 f2_0_1 a2_0_2 f2_0_2 l2_1 a2_1_0 f2_1_0 a2_1_1 f2_1_1 a2_1_2 f2_1_2 l2_2 a2_2_0 f2_2_0 a2_2_1 f2_2_1 a2_2_2 f2_2_2
 have l3_0 := F2.out.1.lt
 have a3_0_0 := F2.out.1.cell 0 _ rfl
 have f3_0_0 := F2.out.1.fz 0
 have a3_0_1 := F2.out.1.cell 1 _ rfl
 have f3_0_1 := F2.out.1.fz 1
 have a3_0_2 := F2.out.1.cell 2 _ rfl
 have f3_0_2 := F2.out.1.fz 2
 have l3_1 := F2.out.2.1.lt
 have a3_1_0 := F2.out.2.1.cell 0 _ rfl
 have f3_1_0 := F2.out.2.1.fz 0
 have a3_1_1 := F2.out.2.1.cell 1 _ rfl
 have f3_1_1 := F2.out.2.1.fz 1
 have a3_1_2 := F2.out.2.1.cell 2 _ rfl
 have f3_1_2 := F2.out.2.1.fz 2
 have l3_2 := F2.out.2.2.1.lt
 have a3_2_0 := F2.out.2.2.1.cell 0 _ rfl
 have f3_2_0 := F2.out.2.2.1.fz 0
 have a3_2_1 := F2.out.2.2.1.cell 1 _ rfl
 have f3_2_1 := F2.out.2.2.1.fz 1
 have a3_2_2 := F2.out.2.2.1.cell 2 _ rfl
 have f3_2_2 := F2.out.2.2.1.fz 2
 have ne3_0_1 : ¬ w.heap.size = w.heap.size + 1 := by omega
 have ne3_0_2 : ¬ w.heap.size = w.heap.size + 1 + 1 := by omega
 have ne3_1_0 : ¬ w.heap.size + 1 = w.heap.size := by omega
 have ne3_1_2 : ¬ w.heap.size + 1 = w.heap.size + 1 + 1 := by omega
 have ne3_2_0 : ¬ w.heap.size + 1 + 1 = w.heap.size := by omega
 have ne3_2_1 : ¬ w.heap.size + 1 + 1 = w.heap.size + 1 := by omega
 go_wp2
 go_ret
 exact ⟨rfl, F2.out.2.2.2⟩
theorem within_any {s t u : ByteArray} {p q o l h : Int} {c : Bool} (HC : ∀ W, Calls Tryz.prog 60 #[.agg #[.string s, .int .i64 p, .bool false], .agg #[.string u, .int .i64 o, .bool false]] W fun e w' => e = .returned (.tuple #[.int .i64 l, .int .i64 0]) ∧ Below W.heap.size W w') (HD : ∀ W, Calls Tryz.prog 60 #[.agg #[.string u, .int .i64 o, .bool false], .agg #[.string t, .int .i64 q, .bool false]] W fun e w' => e = .returned (.tuple #[.int .i64 h, .int .i64 0]) ∧ Below W.heap.size W w') (w : World) :
 Calls Tryz.prog 29 #[.agg #[.string u, .int .i64 o, .bool false], .agg #[.string s, .int .i64 p, .bool false], .agg #[.string t, .int .i64 q, .bool false], .bool c] w fun x w' => x = .returned (.bool (inB c (-l) h)) ∧ Below w.heap.size w w' := by
 unfold inB
 cases c
 · rw [if_neg (by decide)]
   by_cases q1 : l < 0
   · rw [decide_eq_true (show 0 < -l by omega), Bool.true_and]
     by_cases q3 : h < 0
     · rw [decide_eq_true q3]; exact wi_2a q1 q3 HC HD w
     · exact wi_2b q1 q3 HC HD w
   · rw [decide_eq_false (show ¬ 0 < -l by omega), Bool.false_and]; exact wi_3 q1 HC HD w
 · rw [if_pos rfl]
   by_cases q1 : l ≤ 0
   · rw [decide_eq_true (show 0 ≤ -l by omega), Bool.true_and]
     by_cases q2 : l < 0
     · have e : decide (h ≤ 0) = (decide (h < 0) || decide (h ≤ 0)) := by
        by_cases q3 : h < 0
        · rw [decide_eq_true q3, Bool.true_or]; exact decide_eq_true (by omega)
        · rw [decide_eq_false q3, Bool.false_or]
       by_cases q3 : h < 0
       · rw [decide_eq_true (show h ≤ 0 by omega)]; exact wi_1a q2 q3 HC HD w
       · rw [e]; exact wi_1b q1 q2 q3 HC HD w
     · exact wi_1c q1 q2 HC HD w
   · rw [decide_eq_false (show ¬ 0 ≤ -l by omega), Bool.false_and]; exact wi_0a q1 HC HD w
theorem dshl_nat2 {w : World} {va : Value} {X : Nat} (ha : Big.D.NatV w va X) (hX : Fits 1000 X) (s : Nat) (hs : s ≤ 32000) :
 Calls Tryz.prog 23 #[va, .int .i64 (s : Int)] w fun e w' => ∃ v, e = .returned v ∧ Big.D.NatV w' v (X * 2 ^ s) ∧ Below w.heap.size w w' :=
 (dshl_new ha hX s hs).mono fun _ _ ⟨v, a, b, c⟩ => ⟨v, a, b.nat, c⟩
theorem dadd_nat2 {w : World} {va vb : Value} {X Y : Nat} (ha : Big.D.NatV w va X) (hb : Big.D.NatV w vb Y) (hX : Fits 1000 X) (hY : Fits 1000 Y) :
 Calls Tryz.prog 22 #[va, vb] w fun e w' => ∃ v, e = .returned v ∧ Big.D.NatV w' v (X + Y) ∧ Below w.heap.size w w' :=
 (dadd_new ha hb hX hY).mono fun _ _ ⟨v, a, b, c⟩ => ⟨v, a, b.nat, c⟩
theorem rbd_err {b z : Int} {n : Int} (q1 : (n == 0) = false) (HC : ∀ W, Calls Tryz.prog 17 #[.int .u64 b, .int .i64 z] W fun e w' => e = .returned (.int .i64 n) ∧ Below W.heap.size W w') (w : World) :
 Calls Tryz.prog 8 #[.int .u64 b, .int .i64 z] w fun x w' => x = .returned (.tuple #[.agg #[.string ⟨#[]⟩, .int .i64 0, .bool false], .agg #[.string ⟨#[]⟩, .int .i64 0, .bool false], .bool false, .int .i64 n]) ∧ Below w.heap.size w w' := by
 have F0 : Hid (Bk ((w.alloc (.cells #[.string ⟨#[]⟩, .int .i64 0, .bool false] 24)).alloc (.cells #[.string ⟨#[]⟩, .int .i64 0, .bool false] 24)) (w.heap.size) [.string ⟨#[]⟩, .int .i64 0, .bool false] ∧ Bk ((w.alloc (.cells #[.string ⟨#[]⟩, .int .i64 0, .bool false] 24)).alloc (.cells #[.string ⟨#[]⟩, .int .i64 0, .bool false] 24)) (w.heap.size + 1) [.string ⟨#[]⟩, .int .i64 0, .bool false] ∧ Below w.heap.size w ((w.alloc (.cells #[.string ⟨#[]⟩, .int .i64 0, .bool false] 24)).alloc (.cells #[.string ⟨#[]⟩, .int .i64 0, .bool false] 24))) := ⟨(Bk.new3 w (.string ⟨#[]⟩) (.int .i64 0) (.bool false) 24).step ((Below.refl _ _).alloc (Nat.le_refl _) _), ((by have q := Bk.new3 (w.alloc (.cells #[.string ⟨#[]⟩, .int .i64 0, .bool false] 24)) (.string ⟨#[]⟩) (.int .i64 0) (.bool false) 24; simpa using q) : Bk ((w.alloc (.cells #[.string ⟨#[]⟩, .int .i64 0, .bool false] 24)).alloc (.cells #[.string ⟨#[]⟩, .int .i64 0, .bool false] 24)) (w.heap.size + 1) [.string ⟨#[]⟩, .int .i64 0, .bool false]), (((Below.refl w.heap.size w)).alloc (Nat.le_refl _) _).alloc ((((Below.refl w.heap.size w)).alloc (Nat.le_refl _) _).size) _⟩
 go_enter Tryz.func8, Tryz.ntmps8
 go_upto_region 1 with fail
 generalize ((w.alloc (.cells #[.string ⟨#[]⟩, .int .i64 0, .bool false] 24)).alloc (.cells #[.string ⟨#[]⟩, .int .i64 0, .bool false] 24)) = w1 at *
 go_wp2_with fail
 all_goals first | (exfalso; omega) | skip
 refine (HC _).mono ?_
 rintro o2 w2 ⟨rfl, bb⟩
 have F1 : Hid (Bk w2 (w.heap.size) [.string ⟨#[]⟩, .int .i64 0, .bool false] ∧ Bk w2 (w.heap.size + 1) [.string ⟨#[]⟩, .int .i64 0, .bool false] ∧ Below w.heap.size w w2) := ⟨(F0.out.1).step bb, (F0.out.2.1).step bb, (F0.out.2.2).trans (bb.mono (F0.out.2.2).size)⟩
 clear F0
 clear bb
 have l1_0 := F1.out.1.lt
 have a1_0_0 := F1.out.1.cell 0 _ rfl
 have f1_0_0 := F1.out.1.fz 0
 have a1_0_1 := F1.out.1.cell 1 _ rfl
 have f1_0_1 := F1.out.1.fz 1
 have a1_0_2 := F1.out.1.cell 2 _ rfl
 have f1_0_2 := F1.out.1.fz 2
 have l1_1 := F1.out.2.1.lt
 have a1_1_0 := F1.out.2.1.cell 0 _ rfl
 have f1_1_0 := F1.out.2.1.fz 0
 have a1_1_1 := F1.out.2.1.cell 1 _ rfl
 have f1_1_1 := F1.out.2.1.fz 1
 have a1_1_2 := F1.out.2.1.cell 2 _ rfl
 have f1_1_2 := F1.out.2.1.fz 2
 have ne1_0_1 : ¬ w.heap.size = w.heap.size + 1 := by omega
 have ne1_1_0 : ¬ w.heap.size + 1 = w.heap.size := by omega
 go_wp2
 refine bodyPost_ret (v := .tuple #[.agg #[.string ⟨#[]⟩, .int .i64 0, .bool false], .agg #[.string ⟨#[]⟩, .int .i64 0, .bool false], .bool false, .int .i64 n]) (by simp [results, Tryz.results8, go_sem, World.cell?_setCell_same, World.cell?_setCell_other, *]) rfl ⟨rfl, ?_⟩
 repeat (first | refine Below.setCell ?_ (by first | exact Nat.le_refl _ | (dsimp only; omega)) _ | refine Below.alloc ?_ (by first | exact Nat.le_refl _ | omega | (simp; omega)) _ | refine Below.drew ?_)
 exact F1.out.2.2
theorem rbd_zero {b z : Int} {m : Nat} {E : Int} {t : ByteArray} {q : Int} (hm : m < 18446744073709551616) (he1 : -1074 ≤ E) (he2 : E ≤ 971) (HC : ∀ W, Calls Tryz.prog 17 #[.int .u64 b, .int .i64 z] W fun e w' => e = .returned (.int .i64 0) ∧ Below W.heap.size W w') (HP : ∀ W, Calls Tryz.prog 18 #[.int .u64 b, .int .i64 z] W fun e w' => e = .returned (.tuple #[.int .u64 (m : Int), .int .i64 E]) ∧ Below W.heap.size W w') (HD : ∀ W v, Big.D.NatV W v (2 * m + 1) → Calls Tryz.prog 19 #[v, .int .i64 (E - 1)] W fun e w' => e = .returned (.agg #[.string t, .int .i64 q, .bool false]) ∧ Below W.heap.size W w') (HM : ∀ W, Calls Tryz.prog 24 #[.int .u64 b, .int .i64 z] W fun e w' => e = .returned (.int .u64 0) ∧ Below W.heap.size W w') (w : World) :
 Calls Tryz.prog 8 #[.int .u64 b, .int .i64 z] w fun x w' => x = .returned (.tuple #[.agg #[.string ⟨#[]⟩, .int .i64 0, .bool false], .agg #[.string t, .int .i64 q, .bool false], .bool true, .int .i64 0]) ∧ Below w.heap.size w w' := by
 have F0 : Hid (Bk ((w.alloc (.cells #[.string ⟨#[]⟩, .int .i64 0, .bool false] 24)).alloc (.cells #[.string ⟨#[]⟩, .int .i64 0, .bool false] 24)) (w.heap.size) [.string ⟨#[]⟩, .int .i64 0, .bool false] ∧ Bk ((w.alloc (.cells #[.string ⟨#[]⟩, .int .i64 0, .bool false] 24)).alloc (.cells #[.string ⟨#[]⟩, .int .i64 0, .bool false] 24)) (w.heap.size + 1) [.string ⟨#[]⟩, .int .i64 0, .bool false] ∧ Below w.heap.size w ((w.alloc (.cells #[.string ⟨#[]⟩, .int .i64 0, .bool false] 24)).alloc (.cells #[.string ⟨#[]⟩, .int .i64 0, .bool false] 24))) := ⟨(Bk.new3 w (.string ⟨#[]⟩) (.int .i64 0) (.bool false) 24).step ((Below.refl _ _).alloc (Nat.le_refl _) _), ((by have q := Bk.new3 (w.alloc (.cells #[.string ⟨#[]⟩, .int .i64 0, .bool false] 24)) (.string ⟨#[]⟩) (.int .i64 0) (.bool false) 24; simpa using q) : Bk ((w.alloc (.cells #[.string ⟨#[]⟩, .int .i64 0, .bool false] 24)).alloc (.cells #[.string ⟨#[]⟩, .int .i64 0, .bool false] 24)) (w.heap.size + 1) [.string ⟨#[]⟩, .int .i64 0, .bool false]), (((Below.refl w.heap.size w)).alloc (Nat.le_refl _) _).alloc ((((Below.refl w.heap.size w)).alloc (Nat.le_refl _) _).size) _⟩
 go_enter Tryz.func8, Tryz.ntmps8
 go_upto_region 1 with fail
 generalize ((w.alloc (.cells #[.string ⟨#[]⟩, .int .i64 0, .bool false] 24)).alloc (.cells #[.string ⟨#[]⟩, .int .i64 0, .bool false] 24)) = w1 at *
 have SM := fun W => dsmall_word m hm W
 have fm : Fits 2 m := Fits.word (n := 1) (by unfold B; omega)
 have HFM : Hid (Fits 2 m) := fm
 clear fm
 go_wp2_with fail
 all_goals first | (exfalso; omega) | skip
 refine (HC _).mono ?_
 rintro o2 w2 ⟨rfl, bb⟩
 have F1 : Hid (Bk w2 (w.heap.size) [.string ⟨#[]⟩, .int .i64 0, .bool false] ∧ Bk w2 (w.heap.size + 1) [.string ⟨#[]⟩, .int .i64 0, .bool false] ∧ Below w.heap.size w w2) := ⟨(F0.out.1).step bb, (F0.out.2.1).step bb, (F0.out.2.2).trans (bb.mono (F0.out.2.2).size)⟩
 clear F0
 clear bb
 go_wp2_with fail
 all_goals first | (exfalso; omega) | skip
 refine (HP _).mono ?_
 rintro o3 w3 ⟨rfl, bb⟩
 have F2 : Hid (Bk w3 (w.heap.size) [.string ⟨#[]⟩, .int .i64 0, .bool false] ∧ Bk w3 (w.heap.size + 1) [.string ⟨#[]⟩, .int .i64 0, .bool false] ∧ Below w.heap.size w w3) := ⟨(F1.out.1).step bb, (F1.out.2.1).step bb, (F1.out.2.2).trans (bb.mono (F1.out.2.2).size)⟩
 clear F1
 clear bb
 go_wp2_with fail
 all_goals first | (exfalso; omega) | skip
 refine (SM _).mono ?_
 rintro o4 w4 ⟨v1, rfl, nn, bb⟩
 have F3 : Hid (Bk w4 (w.heap.size) [.string ⟨#[]⟩, .int .i64 0, .bool false] ∧ Bk w4 (w.heap.size + 1) [.string ⟨#[]⟩, .int .i64 0, .bool false] ∧ Big.D.NatV w4 v1 (m) ∧ Below w.heap.size w w4) := ⟨(F2.out.1).step bb, (F2.out.2.1).step bb, nn, (F2.out.2.2).trans (bb.mono (F2.out.2.2).size)⟩
 clear F2
 clear bb nn
 have SH := dshl_nat2 (F3.out.2.2.1) (HFM.out.up (by omega)) 1 (by omega)
 simp only [Int.cast_ofNat_Int] at SH
 go_wp2_with fail
 all_goals first | (exfalso; omega) | skip
 refine (SH).mono ?_
 rintro o5 w5 ⟨v2, rfl, nn, bb⟩
 have F4 : Hid (Bk w5 (w.heap.size) [.string ⟨#[]⟩, .int .i64 0, .bool false] ∧ Bk w5 (w.heap.size + 1) [.string ⟨#[]⟩, .int .i64 0, .bool false] ∧ Big.D.NatV w5 v1 (m) ∧ Big.D.NatV w5 v2 (m * 2 ^ 1) ∧ Below w.heap.size w w5) := ⟨(F3.out.1).step bb, (F3.out.2.1).step bb, (F3.out.2.2.1).below bb, nn, (F3.out.2.2.2).trans (bb.mono (F3.out.2.2.2).size)⟩
 clear F3
 clear bb nn
 clear SH
 go_wp2_with fail
 have F5 : Hid (Bk (w5.alloc (.cells #[.int .u64 1] 22)) (w.heap.size) [.string ⟨#[]⟩, .int .i64 0, .bool false] ∧ Bk (w5.alloc (.cells #[.int .u64 1] 22)) (w.heap.size + 1) [.string ⟨#[]⟩, .int .i64 0, .bool false] ∧ Big.D.NatV (w5.alloc (.cells #[.int .u64 1] 22)) v1 (m) ∧ Big.D.NatV (w5.alloc (.cells #[.int .u64 1] 22)) v2 (m * 2 ^ 1) ∧ Big.D.NatV (w5.alloc (.cells #[.int .u64 1] 22)) (.slice (some ⟨w5.heap.size, 0, none⟩) 1 1) (1) ∧ Below w.heap.size w (w5.alloc (.cells #[.int .u64 1] 22))) := ⟨(F4.out.1).step ((Below.refl _ _).alloc (Nat.le_refl _) _), (F4.out.2.1).step ((Below.refl _ _).alloc (Nat.le_refl _) _), (F4.out.2.2.1).below ((Below.refl _ _).alloc (Nat.le_refl _) _), (F4.out.2.2.2.1).below ((Below.refl _ _).alloc (Nat.le_refl _) _), dnat_one w5, (F4.out.2.2.2.2).alloc ((F4.out.2.2.2.2).size) _⟩
 clear F4
 go_wp2_with fail
 generalize (w5.alloc (.cells #[.int .u64 1] 22)) = w6 at *
 have SA := dadd_nat2 (F5.out.2.2.2.1) (F5.out.2.2.2.2.1) ((HFM.out.mul (two_fits (s := 1) (k := 1) (by omega))).up (by omega)) ((two_fits (s := 0) (k := 1) (by omega)).up (by omega))
 rw [show m * 2 ^ 1 + 1 = 2 * m + 1 by omega] at SA
 go_wp2_with fail
 all_goals first | (exfalso; omega) | skip
 refine (SA).mono ?_
 rintro o7 w7 ⟨v3, rfl, nn, bb⟩
 have F6 : Hid (Bk w7 (w.heap.size) [.string ⟨#[]⟩, .int .i64 0, .bool false] ∧ Bk w7 (w.heap.size + 1) [.string ⟨#[]⟩, .int .i64 0, .bool false] ∧ Big.D.NatV w7 v1 (m) ∧ Big.D.NatV w7 v2 (m * 2 ^ 1) ∧ Big.D.NatV w7 (.slice (some ⟨w5.heap.size, 0, none⟩) 1 1) (1) ∧ Big.D.NatV w7 v3 (2 * m + 1) ∧ Below w.heap.size w w7) := ⟨(F5.out.1).step bb, (F5.out.2.1).step bb, (F5.out.2.2.1).below bb, (F5.out.2.2.2.1).below bb, (F5.out.2.2.2.2.1).below bb, nn, (F5.out.2.2.2.2.2).trans (bb.mono (F5.out.2.2.2.2.2).size)⟩
 clear F5
 clear bb nn
 clear SA
 go_wp2_with fail
 all_goals first | (exfalso; omega) | skip
 refine (HD _ _ (F6.out.2.2.2.2.2.1)).mono ?_
 rintro o8 w8 ⟨rfl, bb⟩
 have F7 : Hid (Bk w8 (w.heap.size) [.string ⟨#[]⟩, .int .i64 0, .bool false] ∧ Bk w8 (w.heap.size + 1) [.string ⟨#[]⟩, .int .i64 0, .bool false] ∧ Big.D.NatV w8 v1 (m) ∧ Big.D.NatV w8 v2 (m * 2 ^ 1) ∧ Big.D.NatV w8 (.slice (some ⟨w5.heap.size, 0, none⟩) 1 1) (1) ∧ Big.D.NatV w8 v3 (2 * m + 1) ∧ Below w.heap.size w w8) := ⟨(F6.out.1).step bb, (F6.out.2.1).step bb, (F6.out.2.2.1).below bb, (F6.out.2.2.2.1).below bb, (F6.out.2.2.2.2.1).below bb, (F6.out.2.2.2.2.2.1).below bb, (F6.out.2.2.2.2.2.2).trans (bb.mono (F6.out.2.2.2.2.2.2).size)⟩
 clear F6
 clear bb
 have F8 : Hid (Bk w8 (w.heap.size) [.string ⟨#[]⟩, .int .i64 0, .bool false] ∧ Bk w8 (w.heap.size + 1) [.string ⟨#[]⟩, .int .i64 0, .bool false] ∧ Below w.heap.size w w8) := ⟨F7.out.1, F7.out.2.1, F7.out.2.2.2.2.2.2⟩
 clear F7
 have lt0_2 := (F8.out.1).lt
 have lt1_2 := (F8.out.2.1).lt
 have le2 := (F8.out.2.2).size
 have F9 : Hid (Bk ((w8.alloc (.cells #[.string t, .int .i64 q, .bool false] 24)).alloc (.cells #[.string ⟨#[]⟩, .int .i64 0, .bool false] 24)) (w.heap.size) [.string ⟨#[]⟩, .int .i64 0, .bool false] ∧ Bk ((w8.alloc (.cells #[.string t, .int .i64 q, .bool false] 24)).alloc (.cells #[.string ⟨#[]⟩, .int .i64 0, .bool false] 24)) (w.heap.size + 1) [.string ⟨#[]⟩, .int .i64 0, .bool false] ∧ Bk ((w8.alloc (.cells #[.string t, .int .i64 q, .bool false] 24)).alloc (.cells #[.string ⟨#[]⟩, .int .i64 0, .bool false] 24)) (w8.heap.size) [.string t, .int .i64 q, .bool false] ∧ Bk ((w8.alloc (.cells #[.string t, .int .i64 q, .bool false] 24)).alloc (.cells #[.string ⟨#[]⟩, .int .i64 0, .bool false] 24)) (w8.heap.size + 1) [.string ⟨#[]⟩, .int .i64 0, .bool false] ∧ Below w.heap.size w ((w8.alloc (.cells #[.string t, .int .i64 q, .bool false] 24)).alloc (.cells #[.string ⟨#[]⟩, .int .i64 0, .bool false] 24))) := ⟨((F8.out.1).step ((Below.refl _ _).alloc (Nat.le_refl _) _)).step ((Below.refl _ _).alloc (Nat.le_refl _) _), ((F8.out.2.1).step ((Below.refl _ _).alloc (Nat.le_refl _) _)).step ((Below.refl _ _).alloc (Nat.le_refl _) _), (Bk.new3 w8 (.string t) (.int .i64 q) (.bool false) 24).step ((Below.refl _ _).alloc (Nat.le_refl _) _), ((by have q := Bk.new3 (w8.alloc (.cells #[.string t, .int .i64 q, .bool false] 24)) (.string ⟨#[]⟩) (.int .i64 0) (.bool false) 24; simpa using q) : Bk ((w8.alloc (.cells #[.string t, .int .i64 q, .bool false] 24)).alloc (.cells #[.string ⟨#[]⟩, .int .i64 0, .bool false] 24)) (w8.heap.size + 1) [.string ⟨#[]⟩, .int .i64 0, .bool false]), ((F8.out.2.2).alloc ((F8.out.2.2).size) _).alloc (((F8.out.2.2).alloc ((F8.out.2.2).size) _).size) _⟩
 clear F8
 go_upto_region 7 with fail
 generalize ((w8.alloc (.cells #[.string t, .int .i64 q, .bool false] 24)).alloc (.cells #[.string ⟨#[]⟩, .int .i64 0, .bool false] 24)) = w9 at *
 have l1_0 := F9.out.1.lt
 have a1_0_0 := F9.out.1.cell 0 _ rfl
 have f1_0_0 := F9.out.1.fz 0
 have a1_0_1 := F9.out.1.cell 1 _ rfl
 have f1_0_1 := F9.out.1.fz 1
 have a1_0_2 := F9.out.1.cell 2 _ rfl
 have f1_0_2 := F9.out.1.fz 2
 have l1_1 := F9.out.2.1.lt
 have a1_1_0 := F9.out.2.1.cell 0 _ rfl
 have f1_1_0 := F9.out.2.1.fz 0
 have a1_1_1 := F9.out.2.1.cell 1 _ rfl
 have f1_1_1 := F9.out.2.1.fz 1
 have a1_1_2 := F9.out.2.1.cell 2 _ rfl
 have f1_1_2 := F9.out.2.1.fz 2
 have l1_2 := F9.out.2.2.1.lt
 have a1_2_0 := F9.out.2.2.1.cell 0 _ rfl
 have f1_2_0 := F9.out.2.2.1.fz 0
 have a1_2_1 := F9.out.2.2.1.cell 1 _ rfl
 have f1_2_1 := F9.out.2.2.1.fz 1
 have a1_2_2 := F9.out.2.2.1.cell 2 _ rfl
 have f1_2_2 := F9.out.2.2.1.fz 2
 have l1_3 := F9.out.2.2.2.1.lt
 have a1_3_0 := F9.out.2.2.2.1.cell 0 _ rfl
 have f1_3_0 := F9.out.2.2.2.1.fz 0
 have a1_3_1 := F9.out.2.2.2.1.cell 1 _ rfl
 have f1_3_1 := F9.out.2.2.2.1.fz 1
 have a1_3_2 := F9.out.2.2.2.1.cell 2 _ rfl
 have f1_3_2 := F9.out.2.2.2.1.fz 2
 have ne1_0_1 : ¬ w.heap.size = w.heap.size + 1 := by omega
 have ne1_0_2 : ¬ w.heap.size = w8.heap.size := by omega
 have ne1_0_3 : ¬ w.heap.size = w8.heap.size + 1 := by omega
 have ne1_1_0 : ¬ w.heap.size + 1 = w.heap.size := by omega
 have ne1_1_2 : ¬ w.heap.size + 1 = w8.heap.size := by omega
 have ne1_1_3 : ¬ w.heap.size + 1 = w8.heap.size + 1 := by omega
 have ne1_2_0 : ¬ w8.heap.size = w.heap.size := by omega
 have ne1_2_1 : ¬ w8.heap.size = w.heap.size + 1 := by omega
 have ne1_2_3 : ¬ w8.heap.size = w8.heap.size + 1 := by omega
 have ne1_3_0 : ¬ w8.heap.size + 1 = w.heap.size := by omega
 have ne1_3_1 : ¬ w8.heap.size + 1 = w.heap.size + 1 := by omega
 have ne1_3_2 : ¬ w8.heap.size + 1 = w8.heap.size := by omega
 go_wp2_with fail
 all_goals first | (exfalso; omega) | skip
 refine (HM _).mono ?_
 rintro o10 w10 ⟨rfl, bb⟩
 have F10 : Hid (Bk w10 (w.heap.size) [.string ⟨#[]⟩, .int .i64 0, .bool false] ∧ Bk w10 (w.heap.size + 1) [.string ⟨#[]⟩, .int .i64 0, .bool false] ∧ Bk w10 (w8.heap.size) [.string t, .int .i64 q, .bool false] ∧ Bk w10 (w8.heap.size + 1) [.string ⟨#[]⟩, .int .i64 0, .bool false] ∧ Below w.heap.size w w10) := ⟨(F9.out.1).step bb, (F9.out.2.1).step bb, (F9.out.2.2.1).step bb, (F9.out.2.2.2.1).step bb, (F9.out.2.2.2.2).trans (bb.mono (F9.out.2.2.2.2).size)⟩
 clear F9
 clear bb
 clear l1_0 a1_0_0 f1_0_0 a1_0_1 f1_0_1 a1_0_2 f1_0_2 l1_1 a1_1_0 f1_1_0 a1_1_1 f1_1_1 a1_1_2 f1_1_2 l1_2 a1_2_0 f1_2_0 a1_2_1 f1_2_1 a1_2_2 f1_2_2 l1_3 a1_3_0 f1_3_0 a1_3_1 f1_3_1 a1_3_2 f1_3_2
 have l2_0 := F10.out.1.lt
 have a2_0_0 := F10.out.1.cell 0 _ rfl
 have f2_0_0 := F10.out.1.fz 0
 have a2_0_1 := F10.out.1.cell 1 _ rfl
 have f2_0_1 := F10.out.1.fz 1
 have a2_0_2 := F10.out.1.cell 2 _ rfl
 have f2_0_2 := F10.out.1.fz 2
 have l2_1 := F10.out.2.1.lt
 have a2_1_0 := F10.out.2.1.cell 0 _ rfl
 have f2_1_0 := F10.out.2.1.fz 0
 have a2_1_1 := F10.out.2.1.cell 1 _ rfl
 have f2_1_1 := F10.out.2.1.fz 1
 have a2_1_2 := F10.out.2.1.cell 2 _ rfl
 have f2_1_2 := F10.out.2.1.fz 2
 have l2_2 := F10.out.2.2.1.lt
 have a2_2_0 := F10.out.2.2.1.cell 0 _ rfl
 have f2_2_0 := F10.out.2.2.1.fz 0
 have a2_2_1 := F10.out.2.2.1.cell 1 _ rfl
 have f2_2_1 := F10.out.2.2.1.fz 1
 have a2_2_2 := F10.out.2.2.1.cell 2 _ rfl
 have f2_2_2 := F10.out.2.2.1.fz 2
 have l2_3 := F10.out.2.2.2.1.lt
 have a2_3_0 := F10.out.2.2.2.1.cell 0 _ rfl
 have f2_3_0 := F10.out.2.2.2.1.fz 0
 have a2_3_1 := F10.out.2.2.2.1.cell 1 _ rfl
 have f2_3_1 := F10.out.2.2.2.1.fz 1
 have a2_3_2 := F10.out.2.2.2.1.cell 2 _ rfl
 have f2_3_2 := F10.out.2.2.2.1.fz 2
 have ne2_0_1 : ¬ w.heap.size = w.heap.size + 1 := by omega
 have ne2_0_2 : ¬ w.heap.size = w8.heap.size := by omega
 have ne2_0_3 : ¬ w.heap.size = w8.heap.size + 1 := by omega
 have ne2_1_0 : ¬ w.heap.size + 1 = w.heap.size := by omega
 have ne2_1_2 : ¬ w.heap.size + 1 = w8.heap.size := by omega
 have ne2_1_3 : ¬ w.heap.size + 1 = w8.heap.size + 1 := by omega
 have ne2_2_0 : ¬ w8.heap.size = w.heap.size := by omega
 have ne2_2_1 : ¬ w8.heap.size = w.heap.size + 1 := by omega
 have ne2_2_3 : ¬ w8.heap.size = w8.heap.size + 1 := by omega
 have ne2_3_0 : ¬ w8.heap.size + 1 = w.heap.size := by omega
 have ne2_3_1 : ¬ w8.heap.size + 1 = w.heap.size + 1 := by omega
 have ne2_3_2 : ¬ w8.heap.size + 1 = w8.heap.size := by omega
 go_upto_region 11 with fail
 go_region_held3 (fun w' => w'.cell? ⟨w8.heap.size, 0, none⟩ = some (.string t) ∧ w'.cell? ⟨w8.heap.size, 1, none⟩ = some (.int .i64 q) ∧ w'.cell? ⟨w8.heap.size, 2, none⟩ = some (.bool false) ∧ w'.cell? ⟨w8.heap.size + 1, 0, none⟩ = some (.string ⟨#[]⟩) ∧ w'.cell? ⟨w8.heap.size + 1, 1, none⟩ = some (.int .i64 0) ∧ w'.cell? ⟨w8.heap.size + 1, 2, none⟩ = some (.bool false)) (simp [*, go_sem]) (fail)
 go_wp2
 refine bodyPost_ret (v := .tuple #[.agg #[.string ⟨#[]⟩, .int .i64 0, .bool false], .agg #[.string t, .int .i64 q, .bool false], .bool true, .int .i64 0]) (by simp [results, Tryz.results8, go_sem, World.cell?_setCell_same, World.cell?_setCell_other, *]) rfl ⟨rfl, ?_⟩
 refine Below.drew ?_
 repeat (first | refine Below.setCell ?_ (by first | exact Nat.le_refl _ | (dsimp only; omega)) _ | refine Below.alloc ?_ (by first | exact Nat.le_refl _ | omega | (simp; omega)) _ | refine Below.drew ?_)
 exact F10.out.2.2.2.2
theorem rbd_ok {b z : Int} {m m2 M D : Nat} {E E2 : Int} {s t : ByteArray} {p q : Int} (hm : m < 18446744073709551616) (hm2 : m2 < 18446744073709551616) (he1 : -1074 ≤ E) (he2 : E ≤ 971) (hf1 : -1074 ≤ E2) (hf2 : E2 ≤ 971) (M0 : 0 < M) (M1 : M < 18446744073709551616) (hD : D ≤ 1) (eD : E - E2 = (D : Int)) (HC : ∀ W, Calls Tryz.prog 17 #[.int .u64 b, .int .i64 z] W fun e w' => e = .returned (.int .i64 0) ∧ Below W.heap.size W w') (HP : ∀ W, Calls Tryz.prog 18 #[.int .u64 b, .int .i64 z] W fun e w' => e = .returned (.tuple #[.int .u64 (m : Int), .int .i64 E]) ∧ Below W.heap.size W w') (HD : ∀ W v, Big.D.NatV W v (2 * m + 1) → Calls Tryz.prog 19 #[v, .int .i64 (E - 1)] W fun e w' => e = .returned (.agg #[.string t, .int .i64 q, .bool false]) ∧ Below W.heap.size W w') (HM : ∀ W, Calls Tryz.prog 24 #[.int .u64 b, .int .i64 z] W fun e w' => e = .returned (.int .u64 (M : Int)) ∧ Below W.heap.size W w') (HP2 : ∀ W, Calls Tryz.prog 18 #[.int .u64 ((M : Int) - 1), .int .i64 z] W fun e w' => e = .returned (.tuple #[.int .u64 (m2 : Int), .int .i64 E2]) ∧ Below W.heap.size W w') (HD2 : ∀ W v, Big.D.NatV W v (m * 2 ^ D + m2) → Calls Tryz.prog 19 #[v, .int .i64 (E2 - 1)] W fun e w' => e = .returned (.agg #[.string s, .int .i64 p, .bool false]) ∧ Below W.heap.size W w') (w : World) :
 Calls Tryz.prog 8 #[.int .u64 b, .int .i64 z] w fun x w' => x = .returned (.tuple #[.agg #[.string s, .int .i64 p, .bool false], .agg #[.string t, .int .i64 q, .bool false], .bool (decide (M % 2 = 0)), .int .i64 0]) ∧ Below w.heap.size w w' := by
 have eb : ((M : Int).tmod 2 == 0) = decide (M % 2 = 0) := by
  rw [Int.tmod_eq_emod_of_nonneg (by omega)]
  by_cases h : M % 2 = 0
  · rw [decide_eq_true h]; exact beq_iff_eq.mpr (by omega)
  · rw [decide_eq_false h]; exact beq_eq_false_iff_ne.mpr (by omega)
 generalize decide (M % 2 = 0) = cB at *
 have F0 : Hid (Bk ((w.alloc (.cells #[.string ⟨#[]⟩, .int .i64 0, .bool false] 24)).alloc (.cells #[.string ⟨#[]⟩, .int .i64 0, .bool false] 24)) (w.heap.size) [.string ⟨#[]⟩, .int .i64 0, .bool false] ∧ Bk ((w.alloc (.cells #[.string ⟨#[]⟩, .int .i64 0, .bool false] 24)).alloc (.cells #[.string ⟨#[]⟩, .int .i64 0, .bool false] 24)) (w.heap.size + 1) [.string ⟨#[]⟩, .int .i64 0, .bool false] ∧ Below w.heap.size w ((w.alloc (.cells #[.string ⟨#[]⟩, .int .i64 0, .bool false] 24)).alloc (.cells #[.string ⟨#[]⟩, .int .i64 0, .bool false] 24))) := ⟨(Bk.new3 w (.string ⟨#[]⟩) (.int .i64 0) (.bool false) 24).step ((Below.refl _ _).alloc (Nat.le_refl _) _), ((by have q := Bk.new3 (w.alloc (.cells #[.string ⟨#[]⟩, .int .i64 0, .bool false] 24)) (.string ⟨#[]⟩) (.int .i64 0) (.bool false) 24; simpa using q) : Bk ((w.alloc (.cells #[.string ⟨#[]⟩, .int .i64 0, .bool false] 24)).alloc (.cells #[.string ⟨#[]⟩, .int .i64 0, .bool false] 24)) (w.heap.size + 1) [.string ⟨#[]⟩, .int .i64 0, .bool false]), (((Below.refl w.heap.size w)).alloc (Nat.le_refl _) _).alloc ((((Below.refl w.heap.size w)).alloc (Nat.le_refl _) _).size) _⟩
 go_enter Tryz.func8, Tryz.ntmps8
 go_upto_region 1 with fail
 generalize ((w.alloc (.cells #[.string ⟨#[]⟩, .int .i64 0, .bool false] 24)).alloc (.cells #[.string ⟨#[]⟩, .int .i64 0, .bool false] 24)) = w1 at *
 have SM := fun W => dsmall_word m hm W
 have fm : Fits 2 m := Fits.word (n := 1) (by unfold B; omega)
 have HFM : Hid (Fits 2 m) := fm
 clear fm
 go_wp2_with fail
 all_goals first | (exfalso; omega) | skip
 refine (HC _).mono ?_
 rintro o2 w2 ⟨rfl, bb⟩
 have F1 : Hid (Bk w2 (w.heap.size) [.string ⟨#[]⟩, .int .i64 0, .bool false] ∧ Bk w2 (w.heap.size + 1) [.string ⟨#[]⟩, .int .i64 0, .bool false] ∧ Below w.heap.size w w2) := ⟨(F0.out.1).step bb, (F0.out.2.1).step bb, (F0.out.2.2).trans (bb.mono (F0.out.2.2).size)⟩
 clear F0
 clear bb
 go_wp2_with fail
 all_goals first | (exfalso; omega) | skip
 refine (HP _).mono ?_
 rintro o3 w3 ⟨rfl, bb⟩
 have F2 : Hid (Bk w3 (w.heap.size) [.string ⟨#[]⟩, .int .i64 0, .bool false] ∧ Bk w3 (w.heap.size + 1) [.string ⟨#[]⟩, .int .i64 0, .bool false] ∧ Below w.heap.size w w3) := ⟨(F1.out.1).step bb, (F1.out.2.1).step bb, (F1.out.2.2).trans (bb.mono (F1.out.2.2).size)⟩
 clear F1
 clear bb
 go_wp2_with fail
 all_goals first | (exfalso; omega) | skip
 refine (SM _).mono ?_
 rintro o4 w4 ⟨v1, rfl, nn, bb⟩
 have F3 : Hid (Bk w4 (w.heap.size) [.string ⟨#[]⟩, .int .i64 0, .bool false] ∧ Bk w4 (w.heap.size + 1) [.string ⟨#[]⟩, .int .i64 0, .bool false] ∧ Big.D.NatV w4 v1 (m) ∧ Below w.heap.size w w4) := ⟨(F2.out.1).step bb, (F2.out.2.1).step bb, nn, (F2.out.2.2).trans (bb.mono (F2.out.2.2).size)⟩
 clear F2
 clear bb nn
 have SH := dshl_nat2 (F3.out.2.2.1) (HFM.out.up (by omega)) 1 (by omega)
 simp only [Int.cast_ofNat_Int] at SH
 go_wp2_with fail
 all_goals first | (exfalso; omega) | skip
 refine (SH).mono ?_
 rintro o5 w5 ⟨v2, rfl, nn, bb⟩
 have F4 : Hid (Bk w5 (w.heap.size) [.string ⟨#[]⟩, .int .i64 0, .bool false] ∧ Bk w5 (w.heap.size + 1) [.string ⟨#[]⟩, .int .i64 0, .bool false] ∧ Big.D.NatV w5 v1 (m) ∧ Big.D.NatV w5 v2 (m * 2 ^ 1) ∧ Below w.heap.size w w5) := ⟨(F3.out.1).step bb, (F3.out.2.1).step bb, (F3.out.2.2.1).below bb, nn, (F3.out.2.2.2).trans (bb.mono (F3.out.2.2.2).size)⟩
 clear F3
 clear bb nn
 clear SH
 go_wp2_with fail
 have F5 : Hid (Bk (w5.alloc (.cells #[.int .u64 1] 22)) (w.heap.size) [.string ⟨#[]⟩, .int .i64 0, .bool false] ∧ Bk (w5.alloc (.cells #[.int .u64 1] 22)) (w.heap.size + 1) [.string ⟨#[]⟩, .int .i64 0, .bool false] ∧ Big.D.NatV (w5.alloc (.cells #[.int .u64 1] 22)) v1 (m) ∧ Big.D.NatV (w5.alloc (.cells #[.int .u64 1] 22)) v2 (m * 2 ^ 1) ∧ Big.D.NatV (w5.alloc (.cells #[.int .u64 1] 22)) (.slice (some ⟨w5.heap.size, 0, none⟩) 1 1) (1) ∧ Below w.heap.size w (w5.alloc (.cells #[.int .u64 1] 22))) := ⟨(F4.out.1).step ((Below.refl _ _).alloc (Nat.le_refl _) _), (F4.out.2.1).step ((Below.refl _ _).alloc (Nat.le_refl _) _), (F4.out.2.2.1).below ((Below.refl _ _).alloc (Nat.le_refl _) _), (F4.out.2.2.2.1).below ((Below.refl _ _).alloc (Nat.le_refl _) _), dnat_one w5, (F4.out.2.2.2.2).alloc ((F4.out.2.2.2.2).size) _⟩
 clear F4
 go_wp2_with fail
 generalize (w5.alloc (.cells #[.int .u64 1] 22)) = w6 at *
 have SA := dadd_nat2 (F5.out.2.2.2.1) (F5.out.2.2.2.2.1) ((HFM.out.mul (two_fits (s := 1) (k := 1) (by omega))).up (by omega)) ((two_fits (s := 0) (k := 1) (by omega)).up (by omega))
 rw [show m * 2 ^ 1 + 1 = 2 * m + 1 by omega] at SA
 go_wp2_with fail
 all_goals first | (exfalso; omega) | skip
 refine (SA).mono ?_
 rintro o7 w7 ⟨v3, rfl, nn, bb⟩
 have F6 : Hid (Bk w7 (w.heap.size) [.string ⟨#[]⟩, .int .i64 0, .bool false] ∧ Bk w7 (w.heap.size + 1) [.string ⟨#[]⟩, .int .i64 0, .bool false] ∧ Big.D.NatV w7 v1 (m) ∧ Big.D.NatV w7 v2 (m * 2 ^ 1) ∧ Big.D.NatV w7 (.slice (some ⟨w5.heap.size, 0, none⟩) 1 1) (1) ∧ Big.D.NatV w7 v3 (2 * m + 1) ∧ Below w.heap.size w w7) := ⟨(F5.out.1).step bb, (F5.out.2.1).step bb, (F5.out.2.2.1).below bb, (F5.out.2.2.2.1).below bb, (F5.out.2.2.2.2.1).below bb, nn, (F5.out.2.2.2.2.2).trans (bb.mono (F5.out.2.2.2.2.2).size)⟩
 clear F5
 clear bb nn
 clear SA
 go_wp2_with fail
 all_goals first | (exfalso; omega) | skip
 refine (HD _ _ (F6.out.2.2.2.2.2.1)).mono ?_
 rintro o8 w8 ⟨rfl, bb⟩
 have F7 : Hid (Bk w8 (w.heap.size) [.string ⟨#[]⟩, .int .i64 0, .bool false] ∧ Bk w8 (w.heap.size + 1) [.string ⟨#[]⟩, .int .i64 0, .bool false] ∧ Big.D.NatV w8 v1 (m) ∧ Big.D.NatV w8 v2 (m * 2 ^ 1) ∧ Big.D.NatV w8 (.slice (some ⟨w5.heap.size, 0, none⟩) 1 1) (1) ∧ Big.D.NatV w8 v3 (2 * m + 1) ∧ Below w.heap.size w w8) := ⟨(F6.out.1).step bb, (F6.out.2.1).step bb, (F6.out.2.2.1).below bb, (F6.out.2.2.2.1).below bb, (F6.out.2.2.2.2.1).below bb, (F6.out.2.2.2.2.2.1).below bb, (F6.out.2.2.2.2.2.2).trans (bb.mono (F6.out.2.2.2.2.2.2).size)⟩
 clear F6
 clear bb
 have F8 : Hid (Bk w8 (w.heap.size) [.string ⟨#[]⟩, .int .i64 0, .bool false] ∧ Bk w8 (w.heap.size + 1) [.string ⟨#[]⟩, .int .i64 0, .bool false] ∧ Below w.heap.size w w8) := ⟨F7.out.1, F7.out.2.1, F7.out.2.2.2.2.2.2⟩
 clear F7
 have lt0_2 := (F8.out.1).lt
 have lt1_2 := (F8.out.2.1).lt
 have le2 := (F8.out.2.2).size
 have F9 : Hid (Bk ((w8.alloc (.cells #[.string t, .int .i64 q, .bool false] 24)).alloc (.cells #[.string ⟨#[]⟩, .int .i64 0, .bool false] 24)) (w.heap.size) [.string ⟨#[]⟩, .int .i64 0, .bool false] ∧ Bk ((w8.alloc (.cells #[.string t, .int .i64 q, .bool false] 24)).alloc (.cells #[.string ⟨#[]⟩, .int .i64 0, .bool false] 24)) (w.heap.size + 1) [.string ⟨#[]⟩, .int .i64 0, .bool false] ∧ Bk ((w8.alloc (.cells #[.string t, .int .i64 q, .bool false] 24)).alloc (.cells #[.string ⟨#[]⟩, .int .i64 0, .bool false] 24)) (w8.heap.size) [.string t, .int .i64 q, .bool false] ∧ Bk ((w8.alloc (.cells #[.string t, .int .i64 q, .bool false] 24)).alloc (.cells #[.string ⟨#[]⟩, .int .i64 0, .bool false] 24)) (w8.heap.size + 1) [.string ⟨#[]⟩, .int .i64 0, .bool false] ∧ Below w.heap.size w ((w8.alloc (.cells #[.string t, .int .i64 q, .bool false] 24)).alloc (.cells #[.string ⟨#[]⟩, .int .i64 0, .bool false] 24))) := ⟨((F8.out.1).step ((Below.refl _ _).alloc (Nat.le_refl _) _)).step ((Below.refl _ _).alloc (Nat.le_refl _) _), ((F8.out.2.1).step ((Below.refl _ _).alloc (Nat.le_refl _) _)).step ((Below.refl _ _).alloc (Nat.le_refl _) _), (Bk.new3 w8 (.string t) (.int .i64 q) (.bool false) 24).step ((Below.refl _ _).alloc (Nat.le_refl _) _), ((by have q := Bk.new3 (w8.alloc (.cells #[.string t, .int .i64 q, .bool false] 24)) (.string ⟨#[]⟩) (.int .i64 0) (.bool false) 24; simpa using q) : Bk ((w8.alloc (.cells #[.string t, .int .i64 q, .bool false] 24)).alloc (.cells #[.string ⟨#[]⟩, .int .i64 0, .bool false] 24)) (w8.heap.size + 1) [.string ⟨#[]⟩, .int .i64 0, .bool false]), ((F8.out.2.2).alloc ((F8.out.2.2).size) _).alloc (((F8.out.2.2).alloc ((F8.out.2.2).size) _).size) _⟩
 clear F8
 go_upto_region 7 with fail
 generalize ((w8.alloc (.cells #[.string t, .int .i64 q, .bool false] 24)).alloc (.cells #[.string ⟨#[]⟩, .int .i64 0, .bool false] 24)) = w9 at *
 have l1_0 := F9.out.1.lt
 have a1_0_0 := F9.out.1.cell 0 _ rfl
 have f1_0_0 := F9.out.1.fz 0
 have a1_0_1 := F9.out.1.cell 1 _ rfl
 have f1_0_1 := F9.out.1.fz 1
 have a1_0_2 := F9.out.1.cell 2 _ rfl
 have f1_0_2 := F9.out.1.fz 2
 have l1_1 := F9.out.2.1.lt
 have a1_1_0 := F9.out.2.1.cell 0 _ rfl
 have f1_1_0 := F9.out.2.1.fz 0
 have a1_1_1 := F9.out.2.1.cell 1 _ rfl
 have f1_1_1 := F9.out.2.1.fz 1
 have a1_1_2 := F9.out.2.1.cell 2 _ rfl
 have f1_1_2 := F9.out.2.1.fz 2
 have l1_2 := F9.out.2.2.1.lt
 have a1_2_0 := F9.out.2.2.1.cell 0 _ rfl
 have f1_2_0 := F9.out.2.2.1.fz 0
 have a1_2_1 := F9.out.2.2.1.cell 1 _ rfl
 have f1_2_1 := F9.out.2.2.1.fz 1
 have a1_2_2 := F9.out.2.2.1.cell 2 _ rfl
 have f1_2_2 := F9.out.2.2.1.fz 2
 have l1_3 := F9.out.2.2.2.1.lt
 have a1_3_0 := F9.out.2.2.2.1.cell 0 _ rfl
 have f1_3_0 := F9.out.2.2.2.1.fz 0
 have a1_3_1 := F9.out.2.2.2.1.cell 1 _ rfl
 have f1_3_1 := F9.out.2.2.2.1.fz 1
 have a1_3_2 := F9.out.2.2.2.1.cell 2 _ rfl
 have f1_3_2 := F9.out.2.2.2.1.fz 2
 have ne1_0_1 : ¬ w.heap.size = w.heap.size + 1 := by omega
 have ne1_0_2 : ¬ w.heap.size = w8.heap.size := by omega
 have ne1_0_3 : ¬ w.heap.size = w8.heap.size + 1 := by omega
 have ne1_1_0 : ¬ w.heap.size + 1 = w.heap.size := by omega
 have ne1_1_2 : ¬ w.heap.size + 1 = w8.heap.size := by omega
 have ne1_1_3 : ¬ w.heap.size + 1 = w8.heap.size + 1 := by omega
 have ne1_2_0 : ¬ w8.heap.size = w.heap.size := by omega
 have ne1_2_1 : ¬ w8.heap.size = w.heap.size + 1 := by omega
 have ne1_2_3 : ¬ w8.heap.size = w8.heap.size + 1 := by omega
 have ne1_3_0 : ¬ w8.heap.size + 1 = w.heap.size := by omega
 have ne1_3_1 : ¬ w8.heap.size + 1 = w.heap.size + 1 := by omega
 have ne1_3_2 : ¬ w8.heap.size + 1 = w8.heap.size := by omega
 go_wp2_with fail
 all_goals first | (exfalso; omega) | skip
 refine (HM _).mono ?_
 rintro o10 w10 ⟨rfl, bb⟩
 have F10 : Hid (Bk w10 (w.heap.size) [.string ⟨#[]⟩, .int .i64 0, .bool false] ∧ Bk w10 (w.heap.size + 1) [.string ⟨#[]⟩, .int .i64 0, .bool false] ∧ Bk w10 (w8.heap.size) [.string t, .int .i64 q, .bool false] ∧ Bk w10 (w8.heap.size + 1) [.string ⟨#[]⟩, .int .i64 0, .bool false] ∧ Below w.heap.size w w10) := ⟨(F9.out.1).step bb, (F9.out.2.1).step bb, (F9.out.2.2.1).step bb, (F9.out.2.2.2.1).step bb, (F9.out.2.2.2.2).trans (bb.mono (F9.out.2.2.2.2).size)⟩
 clear F9
 clear bb
 clear l1_0 a1_0_0 f1_0_0 a1_0_1 f1_0_1 a1_0_2 f1_0_2 l1_1 a1_1_0 f1_1_0 a1_1_1 f1_1_1 a1_1_2 f1_1_2 l1_2 a1_2_0 f1_2_0 a1_2_1 f1_2_1 a1_2_2 f1_2_2 l1_3 a1_3_0 f1_3_0 a1_3_1 f1_3_1 a1_3_2 f1_3_2
 have l2_0 := F10.out.1.lt
 have a2_0_0 := F10.out.1.cell 0 _ rfl
 have f2_0_0 := F10.out.1.fz 0
 have a2_0_1 := F10.out.1.cell 1 _ rfl
 have f2_0_1 := F10.out.1.fz 1
 have a2_0_2 := F10.out.1.cell 2 _ rfl
 have f2_0_2 := F10.out.1.fz 2
 have l2_1 := F10.out.2.1.lt
 have a2_1_0 := F10.out.2.1.cell 0 _ rfl
 have f2_1_0 := F10.out.2.1.fz 0
 have a2_1_1 := F10.out.2.1.cell 1 _ rfl
 have f2_1_1 := F10.out.2.1.fz 1
 have a2_1_2 := F10.out.2.1.cell 2 _ rfl
 have f2_1_2 := F10.out.2.1.fz 2
 have l2_2 := F10.out.2.2.1.lt
 have a2_2_0 := F10.out.2.2.1.cell 0 _ rfl
 have f2_2_0 := F10.out.2.2.1.fz 0
 have a2_2_1 := F10.out.2.2.1.cell 1 _ rfl
 have f2_2_1 := F10.out.2.2.1.fz 1
 have a2_2_2 := F10.out.2.2.1.cell 2 _ rfl
 have f2_2_2 := F10.out.2.2.1.fz 2
 have l2_3 := F10.out.2.2.2.1.lt
 have a2_3_0 := F10.out.2.2.2.1.cell 0 _ rfl
 have f2_3_0 := F10.out.2.2.2.1.fz 0
 have a2_3_1 := F10.out.2.2.2.1.cell 1 _ rfl
 have f2_3_1 := F10.out.2.2.2.1.fz 1
 have a2_3_2 := F10.out.2.2.2.1.cell 2 _ rfl
 have f2_3_2 := F10.out.2.2.2.1.fz 2
 have ne2_0_1 : ¬ w.heap.size = w.heap.size + 1 := by omega
 have ne2_0_2 : ¬ w.heap.size = w8.heap.size := by omega
 have ne2_0_3 : ¬ w.heap.size = w8.heap.size + 1 := by omega
 have ne2_1_0 : ¬ w.heap.size + 1 = w.heap.size := by omega
 have ne2_1_2 : ¬ w.heap.size + 1 = w8.heap.size := by omega
 have ne2_1_3 : ¬ w.heap.size + 1 = w8.heap.size + 1 := by omega
 have ne2_2_0 : ¬ w8.heap.size = w.heap.size := by omega
 have ne2_2_1 : ¬ w8.heap.size = w.heap.size + 1 := by omega
 have ne2_2_3 : ¬ w8.heap.size = w8.heap.size + 1 := by omega
 have ne2_3_0 : ¬ w8.heap.size + 1 = w.heap.size := by omega
 have ne2_3_1 : ¬ w8.heap.size + 1 = w.heap.size + 1 := by omega
 have ne2_3_2 : ¬ w8.heap.size + 1 = w8.heap.size := by omega
 go_wp2_with fail
 all_goals first | (exfalso; omega) | skip
 refine (HP2 _).mono ?_
 rintro o11 w11 ⟨rfl, bb⟩
 have F11 : Hid (Bk w11 (w.heap.size) [.string ⟨#[]⟩, .int .i64 0, .bool false] ∧ Bk w11 (w.heap.size + 1) [.string ⟨#[]⟩, .int .i64 0, .bool false] ∧ Bk w11 (w8.heap.size) [.string t, .int .i64 q, .bool false] ∧ Bk w11 (w8.heap.size + 1) [.string ⟨#[]⟩, .int .i64 0, .bool false] ∧ Below w.heap.size w w11) := ⟨(F10.out.1).step bb, (F10.out.2.1).step bb, (F10.out.2.2.1).step bb, (F10.out.2.2.2.1).step bb, (F10.out.2.2.2.2).trans (bb.mono (F10.out.2.2.2.2).size)⟩
 clear F10
 clear bb
 go_wp2_with fail
 all_goals first | (exfalso; omega) | skip
 refine (SM _).mono ?_
 rintro o12 w12 ⟨v7, rfl, nn, bb⟩
 have F12 : Hid (Bk w12 (w.heap.size) [.string ⟨#[]⟩, .int .i64 0, .bool false] ∧ Bk w12 (w.heap.size + 1) [.string ⟨#[]⟩, .int .i64 0, .bool false] ∧ Bk w12 (w8.heap.size) [.string t, .int .i64 q, .bool false] ∧ Bk w12 (w8.heap.size + 1) [.string ⟨#[]⟩, .int .i64 0, .bool false] ∧ Big.D.NatV w12 v7 (m) ∧ Below w.heap.size w w12) := ⟨(F11.out.1).step bb, (F11.out.2.1).step bb, (F11.out.2.2.1).step bb, (F11.out.2.2.2.1).step bb, nn, (F11.out.2.2.2.2).trans (bb.mono (F11.out.2.2.2.2).size)⟩
 clear F11
 clear bb nn
 have SH := dshl_nat2 (F12.out.2.2.2.2.1) (HFM.out.up (by omega)) D (by omega)
 go_wp2_with fail
 all_goals first | (exfalso; omega) | skip
 refine (SH).mono ?_
 rintro o13 w13 ⟨v8, rfl, nn, bb⟩
 have F13 : Hid (Bk w13 (w.heap.size) [.string ⟨#[]⟩, .int .i64 0, .bool false] ∧ Bk w13 (w.heap.size + 1) [.string ⟨#[]⟩, .int .i64 0, .bool false] ∧ Bk w13 (w8.heap.size) [.string t, .int .i64 q, .bool false] ∧ Bk w13 (w8.heap.size + 1) [.string ⟨#[]⟩, .int .i64 0, .bool false] ∧ Big.D.NatV w13 v7 (m) ∧ Big.D.NatV w13 v8 (m * 2 ^ D) ∧ Below w.heap.size w w13) := ⟨(F12.out.1).step bb, (F12.out.2.1).step bb, (F12.out.2.2.1).step bb, (F12.out.2.2.2.1).step bb, (F12.out.2.2.2.2.1).below bb, nn, (F12.out.2.2.2.2.2).trans (bb.mono (F12.out.2.2.2.2.2).size)⟩
 clear F12
 clear bb nn
 clear SH
 have SM2 := fun W => dsmall_word m2 hm2 W
 go_wp2_with fail
 all_goals first | (exfalso; omega) | skip
 refine (SM2 _).mono ?_
 rintro o14 w14 ⟨v9, rfl, nn, bb⟩
 have F14 : Hid (Bk w14 (w.heap.size) [.string ⟨#[]⟩, .int .i64 0, .bool false] ∧ Bk w14 (w.heap.size + 1) [.string ⟨#[]⟩, .int .i64 0, .bool false] ∧ Bk w14 (w8.heap.size) [.string t, .int .i64 q, .bool false] ∧ Bk w14 (w8.heap.size + 1) [.string ⟨#[]⟩, .int .i64 0, .bool false] ∧ Big.D.NatV w14 v7 (m) ∧ Big.D.NatV w14 v8 (m * 2 ^ D) ∧ Big.D.NatV w14 v9 (m2) ∧ Below w.heap.size w w14) := ⟨(F13.out.1).step bb, (F13.out.2.1).step bb, (F13.out.2.2.1).step bb, (F13.out.2.2.2.1).step bb, (F13.out.2.2.2.2.1).below bb, (F13.out.2.2.2.2.2.1).below bb, nn, (F13.out.2.2.2.2.2.2).trans (bb.mono (F13.out.2.2.2.2.2.2).size)⟩
 clear F13
 clear bb nn
 have fm2 : Fits 2 m2 := Fits.word (n := 1) (by unfold B; omega)
 have SA := dadd_nat2 (F14.out.2.2.2.2.2.1) (F14.out.2.2.2.2.2.2.1) ((HFM.out.mul (two_fits (s := D) (k := 1) (by omega))).up (by omega)) (fm2.up (by omega))
 clear fm2
 go_wp2_with fail
 all_goals first | (exfalso; omega) | skip
 refine (SA).mono ?_
 rintro o15 w15 ⟨v10, rfl, nn, bb⟩
 have F15 : Hid (Bk w15 (w.heap.size) [.string ⟨#[]⟩, .int .i64 0, .bool false] ∧ Bk w15 (w.heap.size + 1) [.string ⟨#[]⟩, .int .i64 0, .bool false] ∧ Bk w15 (w8.heap.size) [.string t, .int .i64 q, .bool false] ∧ Bk w15 (w8.heap.size + 1) [.string ⟨#[]⟩, .int .i64 0, .bool false] ∧ Big.D.NatV w15 v7 (m) ∧ Big.D.NatV w15 v8 (m * 2 ^ D) ∧ Big.D.NatV w15 v9 (m2) ∧ Big.D.NatV w15 v10 (m * 2 ^ D + m2) ∧ Below w.heap.size w w15) := ⟨(F14.out.1).step bb, (F14.out.2.1).step bb, (F14.out.2.2.1).step bb, (F14.out.2.2.2.1).step bb, (F14.out.2.2.2.2.1).below bb, (F14.out.2.2.2.2.2.1).below bb, (F14.out.2.2.2.2.2.2.1).below bb, nn, (F14.out.2.2.2.2.2.2.2).trans (bb.mono (F14.out.2.2.2.2.2.2.2).size)⟩
 clear F14
 clear bb nn
 clear SA
 go_wp2_with fail
 all_goals first | (exfalso; omega) | skip
 refine (HD2 _ _ (F15.out.2.2.2.2.2.2.2.1)).mono ?_
 rintro o16 w16 ⟨rfl, bb⟩
 have F16 : Hid (Bk w16 (w.heap.size) [.string ⟨#[]⟩, .int .i64 0, .bool false] ∧ Bk w16 (w.heap.size + 1) [.string ⟨#[]⟩, .int .i64 0, .bool false] ∧ Bk w16 (w8.heap.size) [.string t, .int .i64 q, .bool false] ∧ Bk w16 (w8.heap.size + 1) [.string ⟨#[]⟩, .int .i64 0, .bool false] ∧ Big.D.NatV w16 v7 (m) ∧ Big.D.NatV w16 v8 (m * 2 ^ D) ∧ Big.D.NatV w16 v9 (m2) ∧ Big.D.NatV w16 v10 (m * 2 ^ D + m2) ∧ Below w.heap.size w w16) := ⟨(F15.out.1).step bb, (F15.out.2.1).step bb, (F15.out.2.2.1).step bb, (F15.out.2.2.2.1).step bb, (F15.out.2.2.2.2.1).below bb, (F15.out.2.2.2.2.2.1).below bb, (F15.out.2.2.2.2.2.2.1).below bb, (F15.out.2.2.2.2.2.2.2.1).below bb, (F15.out.2.2.2.2.2.2.2.2).trans (bb.mono (F15.out.2.2.2.2.2.2.2.2).size)⟩
 clear F15
 clear bb
 have F17 : Hid (Bk w16 (w.heap.size) [.string ⟨#[]⟩, .int .i64 0, .bool false] ∧ Bk w16 (w.heap.size + 1) [.string ⟨#[]⟩, .int .i64 0, .bool false] ∧ Bk w16 (w8.heap.size) [.string t, .int .i64 q, .bool false] ∧ Bk w16 (w8.heap.size + 1) [.string ⟨#[]⟩, .int .i64 0, .bool false] ∧ Below w.heap.size w w16) := ⟨F16.out.1, F16.out.2.1, F16.out.2.2.1, F16.out.2.2.2.1, F16.out.2.2.2.2.2.2.2.2⟩
 clear F16
 clear l2_0 a2_0_0 f2_0_0 a2_0_1 f2_0_1 a2_0_2 f2_0_2 l2_1 a2_1_0 f2_1_0 a2_1_1 f2_1_1 a2_1_2 f2_1_2 l2_2 a2_2_0 f2_2_0 a2_2_1 f2_2_1 a2_2_2 f2_2_2 l2_3 a2_3_0 f2_3_0 a2_3_1 f2_3_1 a2_3_2 f2_3_2
 have l3_0 := F17.out.1.lt
 have a3_0_0 := F17.out.1.cell 0 _ rfl
 have f3_0_0 := F17.out.1.fz 0
 have a3_0_1 := F17.out.1.cell 1 _ rfl
 have f3_0_1 := F17.out.1.fz 1
 have a3_0_2 := F17.out.1.cell 2 _ rfl
 have f3_0_2 := F17.out.1.fz 2
 have l3_1 := F17.out.2.1.lt
 have a3_1_0 := F17.out.2.1.cell 0 _ rfl
 have f3_1_0 := F17.out.2.1.fz 0
 have a3_1_1 := F17.out.2.1.cell 1 _ rfl
 have f3_1_1 := F17.out.2.1.fz 1
 have a3_1_2 := F17.out.2.1.cell 2 _ rfl
 have f3_1_2 := F17.out.2.1.fz 2
 have l3_2 := F17.out.2.2.1.lt
 have a3_2_0 := F17.out.2.2.1.cell 0 _ rfl
 have f3_2_0 := F17.out.2.2.1.fz 0
 have a3_2_1 := F17.out.2.2.1.cell 1 _ rfl
 have f3_2_1 := F17.out.2.2.1.fz 1
 have a3_2_2 := F17.out.2.2.1.cell 2 _ rfl
 have f3_2_2 := F17.out.2.2.1.fz 2
 have l3_3 := F17.out.2.2.2.1.lt
 have a3_3_0 := F17.out.2.2.2.1.cell 0 _ rfl
 have f3_3_0 := F17.out.2.2.2.1.fz 0
 have a3_3_1 := F17.out.2.2.2.1.cell 1 _ rfl
 have f3_3_1 := F17.out.2.2.2.1.fz 1
 have a3_3_2 := F17.out.2.2.2.1.cell 2 _ rfl
 have f3_3_2 := F17.out.2.2.2.1.fz 2
 have ne3_0_1 : ¬ w.heap.size = w.heap.size + 1 := by omega
 have ne3_0_2 : ¬ w.heap.size = w8.heap.size := by omega
 have ne3_0_3 : ¬ w.heap.size = w8.heap.size + 1 := by omega
 have ne3_1_0 : ¬ w.heap.size + 1 = w.heap.size := by omega
 have ne3_1_2 : ¬ w.heap.size + 1 = w8.heap.size := by omega
 have ne3_1_3 : ¬ w.heap.size + 1 = w8.heap.size + 1 := by omega
 have ne3_2_0 : ¬ w8.heap.size = w.heap.size := by omega
 have ne3_2_1 : ¬ w8.heap.size = w.heap.size + 1 := by omega
 have ne3_2_3 : ¬ w8.heap.size = w8.heap.size + 1 := by omega
 have ne3_3_0 : ¬ w8.heap.size + 1 = w.heap.size := by omega
 have ne3_3_1 : ¬ w8.heap.size + 1 = w.heap.size + 1 := by omega
 have ne3_3_2 : ¬ w8.heap.size + 1 = w8.heap.size := by omega
 go_upto_region 11 with fail
 go_region_held3 (fun w' => w'.cell? ⟨w8.heap.size, 0, none⟩ = some (.string t) ∧ w'.cell? ⟨w8.heap.size, 1, none⟩ = some (.int .i64 q) ∧ w'.cell? ⟨w8.heap.size, 2, none⟩ = some (.bool false) ∧ w'.cell? ⟨w8.heap.size + 1, 0, none⟩ = some (.string s) ∧ w'.cell? ⟨w8.heap.size + 1, 1, none⟩ = some (.int .i64 p) ∧ w'.cell? ⟨w8.heap.size + 1, 2, none⟩ = some (.bool false)) (simp [*, go_sem, World.cell?_setCell_same, World.cell?_setCell_other]) (fail)
 go_wp2
 refine bodyPost_ret (v := .tuple #[.agg #[.string s, .int .i64 p, .bool false], .agg #[.string t, .int .i64 q, .bool false], .bool cB, .int .i64 0]) (by simp [results, Tryz.results8, go_sem, World.cell?_setCell_same, World.cell?_setCell_other, *]) rfl ⟨rfl, ?_⟩
 refine Below.drew ?_
 repeat (first | refine Below.setCell ?_ (by first | exact Nat.le_refl _ | (dsimp only; omega)) _ | refine Below.alloc ?_ (by first | exact Nat.le_refl _ | omega | (simp; omega)) _ | refine Below.drew ?_)
 exact F17.out.2.2.2.2
theorem rin_err {u : ByteArray} {o : Int} {d : Bool} {b z : Int} {n : Int} (q1 : (n == 0) = false) (HB : ∀ W, Calls Tryz.prog 8 #[.int .u64 b, .int .i64 z] W fun e w' => e = .returned (.tuple #[.agg #[.string ⟨#[]⟩, .int .i64 0, .bool false], .agg #[.string ⟨#[]⟩, .int .i64 0, .bool false], .bool false, .int .i64 n]) ∧ Below W.heap.size W w') (w : World) :
 Calls Tryz.prog 12 #[.agg #[.string u, .int .i64 o, .bool d], .int .u64 b, .int .i64 z] w fun x w' => x = .returned (.tuple #[.bool false, .int .i64 n]) ∧ Below w.heap.size w w' := by
 have F0 : Hid (Bk (w.alloc (.cells #[.string u, .int .i64 o, .bool d] 24)) (w.heap.size) [.string u, .int .i64 o, .bool d] ∧ Below w.heap.size w (w.alloc (.cells #[.string u, .int .i64 o, .bool d] 24))) := ⟨Bk.new3 w (.string u) (.int .i64 o) (.bool d) 24, ((Below.refl w.heap.size w)).alloc (Nat.le_refl _) _⟩
 go_enter Tryz.func12, Tryz.ntmps12
 go_upto_region 1 with fail
 generalize (w.alloc (.cells #[.string u, .int .i64 o, .bool d] 24)) = w1 at *
 go_wp2_with fail
 all_goals first | (exfalso; omega) | skip
 refine (HB _).mono ?_
 rintro o2 w2 ⟨rfl, bb⟩
 have F1 : Hid (Bk w2 (w.heap.size) [.string u, .int .i64 o, .bool d] ∧ Below w.heap.size w w2) := ⟨(F0.out.1).step bb, (F0.out.2).trans (bb.mono (F0.out.2).size)⟩
 clear F0
 clear bb
 have lt0_1 := (F1.out.1).lt
 have le1 := (F1.out.2).size
 have F2 : Hid (Bk ((w2.alloc (.cells #[.string ⟨#[]⟩, .int .i64 0, .bool false] 24)).alloc (.cells #[.string ⟨#[]⟩, .int .i64 0, .bool false] 24)) (w.heap.size) [.string u, .int .i64 o, .bool d] ∧ Bk ((w2.alloc (.cells #[.string ⟨#[]⟩, .int .i64 0, .bool false] 24)).alloc (.cells #[.string ⟨#[]⟩, .int .i64 0, .bool false] 24)) (w2.heap.size) [.string ⟨#[]⟩, .int .i64 0, .bool false] ∧ Bk ((w2.alloc (.cells #[.string ⟨#[]⟩, .int .i64 0, .bool false] 24)).alloc (.cells #[.string ⟨#[]⟩, .int .i64 0, .bool false] 24)) (w2.heap.size + 1) [.string ⟨#[]⟩, .int .i64 0, .bool false] ∧ Below w.heap.size w ((w2.alloc (.cells #[.string ⟨#[]⟩, .int .i64 0, .bool false] 24)).alloc (.cells #[.string ⟨#[]⟩, .int .i64 0, .bool false] 24))) := ⟨((F1.out.1).step ((Below.refl _ _).alloc (Nat.le_refl _) _)).step ((Below.refl _ _).alloc (Nat.le_refl _) _), (Bk.new3 w2 (.string ⟨#[]⟩) (.int .i64 0) (.bool false) 24).step ((Below.refl _ _).alloc (Nat.le_refl _) _), ((by have q := Bk.new3 (w2.alloc (.cells #[.string ⟨#[]⟩, .int .i64 0, .bool false] 24)) (.string ⟨#[]⟩) (.int .i64 0) (.bool false) 24; simpa using q) : Bk ((w2.alloc (.cells #[.string ⟨#[]⟩, .int .i64 0, .bool false] 24)).alloc (.cells #[.string ⟨#[]⟩, .int .i64 0, .bool false] 24)) (w2.heap.size + 1) [.string ⟨#[]⟩, .int .i64 0, .bool false]), ((F1.out.2).alloc ((F1.out.2).size) _).alloc (((F1.out.2).alloc ((F1.out.2).size) _).size) _⟩
 clear F1
 go_upto_region 2 with fail
 generalize ((w2.alloc (.cells #[.string ⟨#[]⟩, .int .i64 0, .bool false] 24)).alloc (.cells #[.string ⟨#[]⟩, .int .i64 0, .bool false] 24)) = w3 at *
 have l1_0 := F2.out.1.lt
 have a1_0_0 := F2.out.1.cell 0 _ rfl
 have f1_0_0 := F2.out.1.fz 0
 have a1_0_1 := F2.out.1.cell 1 _ rfl
 have f1_0_1 := F2.out.1.fz 1
 have a1_0_2 := F2.out.1.cell 2 _ rfl
 have f1_0_2 := F2.out.1.fz 2
 have l1_1 := F2.out.2.1.lt
 have a1_1_0 := F2.out.2.1.cell 0 _ rfl
 have f1_1_0 := F2.out.2.1.fz 0
 have a1_1_1 := F2.out.2.1.cell 1 _ rfl
 have f1_1_1 := F2.out.2.1.fz 1
 have a1_1_2 := F2.out.2.1.cell 2 _ rfl
 have f1_1_2 := F2.out.2.1.fz 2
 have l1_2 := F2.out.2.2.1.lt
 have a1_2_0 := F2.out.2.2.1.cell 0 _ rfl
 have f1_2_0 := F2.out.2.2.1.fz 0
 have a1_2_1 := F2.out.2.2.1.cell 1 _ rfl
 have f1_2_1 := F2.out.2.2.1.fz 1
 have a1_2_2 := F2.out.2.2.1.cell 2 _ rfl
 have f1_2_2 := F2.out.2.2.1.fz 2
 have ne1_0_1 : ¬ w.heap.size = w2.heap.size := by omega
 have ne1_0_2 : ¬ w.heap.size = w2.heap.size + 1 := by omega
 have ne1_1_0 : ¬ w2.heap.size = w.heap.size := by omega
 have ne1_1_2 : ¬ w2.heap.size = w2.heap.size + 1 := by omega
 have ne1_2_0 : ¬ w2.heap.size + 1 = w.heap.size := by omega
 have ne1_2_1 : ¬ w2.heap.size + 1 = w2.heap.size := by omega
 go_wp2
 go_ret2
 exact ⟨rfl, F2.out.2.2.2⟩
theorem rin_bad {s t u : ByteArray} {p q o : Int} {c : Bool} {b z : Int} {d : Bool} (HB : ∀ W, Calls Tryz.prog 8 #[.int .u64 b, .int .i64 z] W fun e w' => e = .returned (.tuple #[.agg #[.string s, .int .i64 p, .bool false], .agg #[.string t, .int .i64 q, .bool false], .bool c, .int .i64 0]) ∧ Below W.heap.size W w') (HV : ∀ W, Calls Tryz.prog 28 #[.agg #[.string u, .int .i64 o, .bool d]] W fun e w' => e = .returned (.int .i64 1) ∧ Below W.heap.size W w') (w : World) :
 Calls Tryz.prog 12 #[.agg #[.string u, .int .i64 o, .bool d], .int .u64 b, .int .i64 z] w fun x w' => x = .returned (.tuple #[.bool false, .int .i64 1]) ∧ Below w.heap.size w w' := by
 have F0 : Hid (Bk (w.alloc (.cells #[.string u, .int .i64 o, .bool d] 24)) (w.heap.size) [.string u, .int .i64 o, .bool d] ∧ Below w.heap.size w (w.alloc (.cells #[.string u, .int .i64 o, .bool d] 24))) := ⟨Bk.new3 w (.string u) (.int .i64 o) (.bool d) 24, ((Below.refl w.heap.size w)).alloc (Nat.le_refl _) _⟩
 go_enter Tryz.func12, Tryz.ntmps12
 go_upto_region 1 with fail
 generalize (w.alloc (.cells #[.string u, .int .i64 o, .bool d] 24)) = w1 at *
 go_wp2_with fail
 all_goals first | (exfalso; omega) | skip
 refine (HB _).mono ?_
 rintro o2 w2 ⟨rfl, bb⟩
 have F1 : Hid (Bk w2 (w.heap.size) [.string u, .int .i64 o, .bool d] ∧ Below w.heap.size w w2) := ⟨(F0.out.1).step bb, (F0.out.2).trans (bb.mono (F0.out.2).size)⟩
 clear F0
 clear bb
 have lt0_1 := (F1.out.1).lt
 have le1 := (F1.out.2).size
 have F2 : Hid (Bk ((w2.alloc (.cells #[.string s, .int .i64 p, .bool false] 24)).alloc (.cells #[.string t, .int .i64 q, .bool false] 24)) (w.heap.size) [.string u, .int .i64 o, .bool d] ∧ Bk ((w2.alloc (.cells #[.string s, .int .i64 p, .bool false] 24)).alloc (.cells #[.string t, .int .i64 q, .bool false] 24)) (w2.heap.size) [.string s, .int .i64 p, .bool false] ∧ Bk ((w2.alloc (.cells #[.string s, .int .i64 p, .bool false] 24)).alloc (.cells #[.string t, .int .i64 q, .bool false] 24)) (w2.heap.size + 1) [.string t, .int .i64 q, .bool false] ∧ Below w.heap.size w ((w2.alloc (.cells #[.string s, .int .i64 p, .bool false] 24)).alloc (.cells #[.string t, .int .i64 q, .bool false] 24))) := ⟨((F1.out.1).step ((Below.refl _ _).alloc (Nat.le_refl _) _)).step ((Below.refl _ _).alloc (Nat.le_refl _) _), (Bk.new3 w2 (.string s) (.int .i64 p) (.bool false) 24).step ((Below.refl _ _).alloc (Nat.le_refl _) _), ((by have q := Bk.new3 (w2.alloc (.cells #[.string s, .int .i64 p, .bool false] 24)) (.string t) (.int .i64 q) (.bool false) 24; simpa using q) : Bk ((w2.alloc (.cells #[.string s, .int .i64 p, .bool false] 24)).alloc (.cells #[.string t, .int .i64 q, .bool false] 24)) (w2.heap.size + 1) [.string t, .int .i64 q, .bool false]), ((F1.out.2).alloc ((F1.out.2).size) _).alloc (((F1.out.2).alloc ((F1.out.2).size) _).size) _⟩
 clear F1
 go_upto_region 2 with fail
 generalize ((w2.alloc (.cells #[.string s, .int .i64 p, .bool false] 24)).alloc (.cells #[.string t, .int .i64 q, .bool false] 24)) = w3 at *
 have l1_0 := F2.out.1.lt
 have a1_0_0 := F2.out.1.cell 0 _ rfl
 have f1_0_0 := F2.out.1.fz 0
 have a1_0_1 := F2.out.1.cell 1 _ rfl
 have f1_0_1 := F2.out.1.fz 1
 have a1_0_2 := F2.out.1.cell 2 _ rfl
 have f1_0_2 := F2.out.1.fz 2
 have l1_1 := F2.out.2.1.lt
 have a1_1_0 := F2.out.2.1.cell 0 _ rfl
 have f1_1_0 := F2.out.2.1.fz 0
 have a1_1_1 := F2.out.2.1.cell 1 _ rfl
 have f1_1_1 := F2.out.2.1.fz 1
 have a1_1_2 := F2.out.2.1.cell 2 _ rfl
 have f1_1_2 := F2.out.2.1.fz 2
 have l1_2 := F2.out.2.2.1.lt
 have a1_2_0 := F2.out.2.2.1.cell 0 _ rfl
 have f1_2_0 := F2.out.2.2.1.fz 0
 have a1_2_1 := F2.out.2.2.1.cell 1 _ rfl
 have f1_2_1 := F2.out.2.2.1.fz 1
 have a1_2_2 := F2.out.2.2.1.cell 2 _ rfl
 have f1_2_2 := F2.out.2.2.1.fz 2
 have ne1_0_1 : ¬ w.heap.size = w2.heap.size := by omega
 have ne1_0_2 : ¬ w.heap.size = w2.heap.size + 1 := by omega
 have ne1_1_0 : ¬ w2.heap.size = w.heap.size := by omega
 have ne1_1_2 : ¬ w2.heap.size = w2.heap.size + 1 := by omega
 have ne1_2_0 : ¬ w2.heap.size + 1 = w.heap.size := by omega
 have ne1_2_1 : ¬ w2.heap.size + 1 = w2.heap.size := by omega
 go_wp2_with fail
 all_goals first | (exfalso; omega) | skip
 refine (HV _).mono ?_
 rintro o4 w4 ⟨rfl, bb⟩
 have F3 : Hid (Bk w4 (w.heap.size) [.string u, .int .i64 o, .bool d] ∧ Bk w4 (w2.heap.size) [.string s, .int .i64 p, .bool false] ∧ Bk w4 (w2.heap.size + 1) [.string t, .int .i64 q, .bool false] ∧ Below w.heap.size w w4) := ⟨(F2.out.1).step bb, (F2.out.2.1).step bb, (F2.out.2.2.1).step bb, (F2.out.2.2.2).trans (bb.mono (F2.out.2.2.2).size)⟩
 clear F2
 clear bb
 clear l1_0 a1_0_0 f1_0_0 a1_0_1 f1_0_1 a1_0_2 f1_0_2 l1_1 a1_1_0 f1_1_0 a1_1_1 f1_1_1 a1_1_2 f1_1_2 l1_2 a1_2_0 f1_2_0 a1_2_1 f1_2_1 a1_2_2 f1_2_2
 have l2_0 := F3.out.1.lt
 have a2_0_0 := F3.out.1.cell 0 _ rfl
 have f2_0_0 := F3.out.1.fz 0
 have a2_0_1 := F3.out.1.cell 1 _ rfl
 have f2_0_1 := F3.out.1.fz 1
 have a2_0_2 := F3.out.1.cell 2 _ rfl
 have f2_0_2 := F3.out.1.fz 2
 have l2_1 := F3.out.2.1.lt
 have a2_1_0 := F3.out.2.1.cell 0 _ rfl
 have f2_1_0 := F3.out.2.1.fz 0
 have a2_1_1 := F3.out.2.1.cell 1 _ rfl
 have f2_1_1 := F3.out.2.1.fz 1
 have a2_1_2 := F3.out.2.1.cell 2 _ rfl
 have f2_1_2 := F3.out.2.1.fz 2
 have l2_2 := F3.out.2.2.1.lt
 have a2_2_0 := F3.out.2.2.1.cell 0 _ rfl
 have f2_2_0 := F3.out.2.2.1.fz 0
 have a2_2_1 := F3.out.2.2.1.cell 1 _ rfl
 have f2_2_1 := F3.out.2.2.1.fz 1
 have a2_2_2 := F3.out.2.2.1.cell 2 _ rfl
 have f2_2_2 := F3.out.2.2.1.fz 2
 have ne2_0_1 : ¬ w.heap.size = w2.heap.size := by omega
 have ne2_0_2 : ¬ w.heap.size = w2.heap.size + 1 := by omega
 have ne2_1_0 : ¬ w2.heap.size = w.heap.size := by omega
 have ne2_1_2 : ¬ w2.heap.size = w2.heap.size + 1 := by omega
 have ne2_2_0 : ¬ w2.heap.size + 1 = w.heap.size := by omega
 have ne2_2_1 : ¬ w2.heap.size + 1 = w2.heap.size := by omega
 go_wp2
 go_ret2
 exact ⟨rfl, F3.out.2.2.2⟩
theorem rin_cut {s t u : ByteArray} {p q o : Int} {c : Bool} {b z : Int}  (HB : ∀ W, Calls Tryz.prog 8 #[.int .u64 b, .int .i64 z] W fun e w' => e = .returned (.tuple #[.agg #[.string s, .int .i64 p, .bool false], .agg #[.string t, .int .i64 q, .bool false], .bool c, .int .i64 0]) ∧ Below W.heap.size W w') (HV : ∀ W, Calls Tryz.prog 28 #[.agg #[.string u, .int .i64 o, .bool true]] W fun e w' => e = .returned (.int .i64 0) ∧ Below W.heap.size W w') (w : World) :
 Calls Tryz.prog 12 #[.agg #[.string u, .int .i64 o, .bool true], .int .u64 b, .int .i64 z] w fun x w' => x = .returned (.tuple #[.bool false, .int .i64 1]) ∧ Below w.heap.size w w' := by
 have F0 : Hid (Bk (w.alloc (.cells #[.string u, .int .i64 o, .bool true] 24)) (w.heap.size) [.string u, .int .i64 o, .bool true] ∧ Below w.heap.size w (w.alloc (.cells #[.string u, .int .i64 o, .bool true] 24))) := ⟨Bk.new3 w (.string u) (.int .i64 o) (.bool true) 24, ((Below.refl w.heap.size w)).alloc (Nat.le_refl _) _⟩
 go_enter Tryz.func12, Tryz.ntmps12
 go_upto_region 1 with fail
 generalize (w.alloc (.cells #[.string u, .int .i64 o, .bool true] 24)) = w1 at *
 go_wp2_with fail
 all_goals first | (exfalso; omega) | skip
 refine (HB _).mono ?_
 rintro o2 w2 ⟨rfl, bb⟩
 have F1 : Hid (Bk w2 (w.heap.size) [.string u, .int .i64 o, .bool true] ∧ Below w.heap.size w w2) := ⟨(F0.out.1).step bb, (F0.out.2).trans (bb.mono (F0.out.2).size)⟩
 clear F0
 clear bb
 have lt0_1 := (F1.out.1).lt
 have le1 := (F1.out.2).size
 have F2 : Hid (Bk ((w2.alloc (.cells #[.string s, .int .i64 p, .bool false] 24)).alloc (.cells #[.string t, .int .i64 q, .bool false] 24)) (w.heap.size) [.string u, .int .i64 o, .bool true] ∧ Bk ((w2.alloc (.cells #[.string s, .int .i64 p, .bool false] 24)).alloc (.cells #[.string t, .int .i64 q, .bool false] 24)) (w2.heap.size) [.string s, .int .i64 p, .bool false] ∧ Bk ((w2.alloc (.cells #[.string s, .int .i64 p, .bool false] 24)).alloc (.cells #[.string t, .int .i64 q, .bool false] 24)) (w2.heap.size + 1) [.string t, .int .i64 q, .bool false] ∧ Below w.heap.size w ((w2.alloc (.cells #[.string s, .int .i64 p, .bool false] 24)).alloc (.cells #[.string t, .int .i64 q, .bool false] 24))) := ⟨((F1.out.1).step ((Below.refl _ _).alloc (Nat.le_refl _) _)).step ((Below.refl _ _).alloc (Nat.le_refl _) _), (Bk.new3 w2 (.string s) (.int .i64 p) (.bool false) 24).step ((Below.refl _ _).alloc (Nat.le_refl _) _), ((by have q := Bk.new3 (w2.alloc (.cells #[.string s, .int .i64 p, .bool false] 24)) (.string t) (.int .i64 q) (.bool false) 24; simpa using q) : Bk ((w2.alloc (.cells #[.string s, .int .i64 p, .bool false] 24)).alloc (.cells #[.string t, .int .i64 q, .bool false] 24)) (w2.heap.size + 1) [.string t, .int .i64 q, .bool false]), ((F1.out.2).alloc ((F1.out.2).size) _).alloc (((F1.out.2).alloc ((F1.out.2).size) _).size) _⟩
 clear F1
 go_upto_region 2 with fail
 generalize ((w2.alloc (.cells #[.string s, .int .i64 p, .bool false] 24)).alloc (.cells #[.string t, .int .i64 q, .bool false] 24)) = w3 at *
 have l1_0 := F2.out.1.lt
 have a1_0_0 := F2.out.1.cell 0 _ rfl
 have f1_0_0 := F2.out.1.fz 0
 have a1_0_1 := F2.out.1.cell 1 _ rfl
 have f1_0_1 := F2.out.1.fz 1
 have a1_0_2 := F2.out.1.cell 2 _ rfl
 have f1_0_2 := F2.out.1.fz 2
 have l1_1 := F2.out.2.1.lt
 have a1_1_0 := F2.out.2.1.cell 0 _ rfl
 have f1_1_0 := F2.out.2.1.fz 0
 have a1_1_1 := F2.out.2.1.cell 1 _ rfl
 have f1_1_1 := F2.out.2.1.fz 1
 have a1_1_2 := F2.out.2.1.cell 2 _ rfl
 have f1_1_2 := F2.out.2.1.fz 2
 have l1_2 := F2.out.2.2.1.lt
 have a1_2_0 := F2.out.2.2.1.cell 0 _ rfl
 have f1_2_0 := F2.out.2.2.1.fz 0
 have a1_2_1 := F2.out.2.2.1.cell 1 _ rfl
 have f1_2_1 := F2.out.2.2.1.fz 1
 have a1_2_2 := F2.out.2.2.1.cell 2 _ rfl
 have f1_2_2 := F2.out.2.2.1.fz 2
 have ne1_0_1 : ¬ w.heap.size = w2.heap.size := by omega
 have ne1_0_2 : ¬ w.heap.size = w2.heap.size + 1 := by omega
 have ne1_1_0 : ¬ w2.heap.size = w.heap.size := by omega
 have ne1_1_2 : ¬ w2.heap.size = w2.heap.size + 1 := by omega
 have ne1_2_0 : ¬ w2.heap.size + 1 = w.heap.size := by omega
 have ne1_2_1 : ¬ w2.heap.size + 1 = w2.heap.size := by omega
 go_wp2_with fail
 all_goals first | (exfalso; omega) | skip
 refine (HV _).mono ?_
 rintro o4 w4 ⟨rfl, bb⟩
 have F3 : Hid (Bk w4 (w.heap.size) [.string u, .int .i64 o, .bool true] ∧ Bk w4 (w2.heap.size) [.string s, .int .i64 p, .bool false] ∧ Bk w4 (w2.heap.size + 1) [.string t, .int .i64 q, .bool false] ∧ Below w.heap.size w w4) := ⟨(F2.out.1).step bb, (F2.out.2.1).step bb, (F2.out.2.2.1).step bb, (F2.out.2.2.2).trans (bb.mono (F2.out.2.2.2).size)⟩
 clear F2
 clear bb
 clear l1_0 a1_0_0 f1_0_0 a1_0_1 f1_0_1 a1_0_2 f1_0_2 l1_1 a1_1_0 f1_1_0 a1_1_1 f1_1_1 a1_1_2 f1_1_2 l1_2 a1_2_0 f1_2_0 a1_2_1 f1_2_1 a1_2_2 f1_2_2
 have l2_0 := F3.out.1.lt
 have a2_0_0 := F3.out.1.cell 0 _ rfl
 have f2_0_0 := F3.out.1.fz 0
 have a2_0_1 := F3.out.1.cell 1 _ rfl
 have f2_0_1 := F3.out.1.fz 1
 have a2_0_2 := F3.out.1.cell 2 _ rfl
 have f2_0_2 := F3.out.1.fz 2
 have l2_1 := F3.out.2.1.lt
 have a2_1_0 := F3.out.2.1.cell 0 _ rfl
 have f2_1_0 := F3.out.2.1.fz 0
 have a2_1_1 := F3.out.2.1.cell 1 _ rfl
 have f2_1_1 := F3.out.2.1.fz 1
 have a2_1_2 := F3.out.2.1.cell 2 _ rfl
 have f2_1_2 := F3.out.2.1.fz 2
 have l2_2 := F3.out.2.2.1.lt
 have a2_2_0 := F3.out.2.2.1.cell 0 _ rfl
 have f2_2_0 := F3.out.2.2.1.fz 0
 have a2_2_1 := F3.out.2.2.1.cell 1 _ rfl
 have f2_2_1 := F3.out.2.2.1.fz 1
 have a2_2_2 := F3.out.2.2.1.cell 2 _ rfl
 have f2_2_2 := F3.out.2.2.1.fz 2
 have ne2_0_1 : ¬ w.heap.size = w2.heap.size := by omega
 have ne2_0_2 : ¬ w.heap.size = w2.heap.size + 1 := by omega
 have ne2_1_0 : ¬ w2.heap.size = w.heap.size := by omega
 have ne2_1_2 : ¬ w2.heap.size = w2.heap.size + 1 := by omega
 have ne2_2_0 : ¬ w2.heap.size + 1 = w.heap.size := by omega
 have ne2_2_1 : ¬ w2.heap.size + 1 = w2.heap.size := by omega
 go_wp2
 go_ret2
 exact ⟨rfl, F3.out.2.2.2⟩
theorem rin_zero {s t u : ByteArray} {p q o : Int} {c : Bool} {b z : Int} {r : Bool} (h0 : (u.size : Int) = 0) (hr : ((s.size : Int) == 0) = r) (HB : ∀ W, Calls Tryz.prog 8 #[.int .u64 b, .int .i64 z] W fun e w' => e = .returned (.tuple #[.agg #[.string s, .int .i64 p, .bool false], .agg #[.string t, .int .i64 q, .bool false], .bool c, .int .i64 0]) ∧ Below W.heap.size W w') (HV : ∀ W, Calls Tryz.prog 28 #[.agg #[.string u, .int .i64 o, .bool false]] W fun e w' => e = .returned (.int .i64 0) ∧ Below W.heap.size W w') (w : World) :
 Calls Tryz.prog 12 #[.agg #[.string u, .int .i64 o, .bool false], .int .u64 b, .int .i64 z] w fun x w' => x = .returned (.tuple #[.bool r, .int .i64 0]) ∧ Below w.heap.size w w' := by
 have F0 : Hid (Bk (w.alloc (.cells #[.string u, .int .i64 o, .bool false] 24)) (w.heap.size) [.string u, .int .i64 o, .bool false] ∧ Below w.heap.size w (w.alloc (.cells #[.string u, .int .i64 o, .bool false] 24))) := ⟨Bk.new3 w (.string u) (.int .i64 o) (.bool false) 24, ((Below.refl w.heap.size w)).alloc (Nat.le_refl _) _⟩
 go_enter Tryz.func12, Tryz.ntmps12
 go_upto_region 1 with fail
 generalize (w.alloc (.cells #[.string u, .int .i64 o, .bool false] 24)) = w1 at *
 go_wp2_with fail
 all_goals first | (exfalso; omega) | skip
 refine (HB _).mono ?_
 rintro o2 w2 ⟨rfl, bb⟩
 have F1 : Hid (Bk w2 (w.heap.size) [.string u, .int .i64 o, .bool false] ∧ Below w.heap.size w w2) := ⟨(F0.out.1).step bb, (F0.out.2).trans (bb.mono (F0.out.2).size)⟩
 clear F0
 clear bb
 have lt0_1 := (F1.out.1).lt
 have le1 := (F1.out.2).size
 have F2 : Hid (Bk ((w2.alloc (.cells #[.string s, .int .i64 p, .bool false] 24)).alloc (.cells #[.string t, .int .i64 q, .bool false] 24)) (w.heap.size) [.string u, .int .i64 o, .bool false] ∧ Bk ((w2.alloc (.cells #[.string s, .int .i64 p, .bool false] 24)).alloc (.cells #[.string t, .int .i64 q, .bool false] 24)) (w2.heap.size) [.string s, .int .i64 p, .bool false] ∧ Bk ((w2.alloc (.cells #[.string s, .int .i64 p, .bool false] 24)).alloc (.cells #[.string t, .int .i64 q, .bool false] 24)) (w2.heap.size + 1) [.string t, .int .i64 q, .bool false] ∧ Below w.heap.size w ((w2.alloc (.cells #[.string s, .int .i64 p, .bool false] 24)).alloc (.cells #[.string t, .int .i64 q, .bool false] 24))) := ⟨((F1.out.1).step ((Below.refl _ _).alloc (Nat.le_refl _) _)).step ((Below.refl _ _).alloc (Nat.le_refl _) _), (Bk.new3 w2 (.string s) (.int .i64 p) (.bool false) 24).step ((Below.refl _ _).alloc (Nat.le_refl _) _), ((by have q := Bk.new3 (w2.alloc (.cells #[.string s, .int .i64 p, .bool false] 24)) (.string t) (.int .i64 q) (.bool false) 24; simpa using q) : Bk ((w2.alloc (.cells #[.string s, .int .i64 p, .bool false] 24)).alloc (.cells #[.string t, .int .i64 q, .bool false] 24)) (w2.heap.size + 1) [.string t, .int .i64 q, .bool false]), ((F1.out.2).alloc ((F1.out.2).size) _).alloc (((F1.out.2).alloc ((F1.out.2).size) _).size) _⟩
 clear F1
 go_upto_region 2 with fail
 generalize ((w2.alloc (.cells #[.string s, .int .i64 p, .bool false] 24)).alloc (.cells #[.string t, .int .i64 q, .bool false] 24)) = w3 at *
 have l1_0 := F2.out.1.lt
 have a1_0_0 := F2.out.1.cell 0 _ rfl
 have f1_0_0 := F2.out.1.fz 0
 have a1_0_1 := F2.out.1.cell 1 _ rfl
 have f1_0_1 := F2.out.1.fz 1
 have a1_0_2 := F2.out.1.cell 2 _ rfl
 have f1_0_2 := F2.out.1.fz 2
 have l1_1 := F2.out.2.1.lt
 have a1_1_0 := F2.out.2.1.cell 0 _ rfl
 have f1_1_0 := F2.out.2.1.fz 0
 have a1_1_1 := F2.out.2.1.cell 1 _ rfl
 have f1_1_1 := F2.out.2.1.fz 1
 have a1_1_2 := F2.out.2.1.cell 2 _ rfl
 have f1_1_2 := F2.out.2.1.fz 2
 have l1_2 := F2.out.2.2.1.lt
 have a1_2_0 := F2.out.2.2.1.cell 0 _ rfl
 have f1_2_0 := F2.out.2.2.1.fz 0
 have a1_2_1 := F2.out.2.2.1.cell 1 _ rfl
 have f1_2_1 := F2.out.2.2.1.fz 1
 have a1_2_2 := F2.out.2.2.1.cell 2 _ rfl
 have f1_2_2 := F2.out.2.2.1.fz 2
 have ne1_0_1 : ¬ w.heap.size = w2.heap.size := by omega
 have ne1_0_2 : ¬ w.heap.size = w2.heap.size + 1 := by omega
 have ne1_1_0 : ¬ w2.heap.size = w.heap.size := by omega
 have ne1_1_2 : ¬ w2.heap.size = w2.heap.size + 1 := by omega
 have ne1_2_0 : ¬ w2.heap.size + 1 = w.heap.size := by omega
 have ne1_2_1 : ¬ w2.heap.size + 1 = w2.heap.size := by omega
 go_wp2_with fail
 all_goals first | (exfalso; omega) | skip
 refine (HV _).mono ?_
 rintro o4 w4 ⟨rfl, bb⟩
 have F3 : Hid (Bk w4 (w.heap.size) [.string u, .int .i64 o, .bool false] ∧ Bk w4 (w2.heap.size) [.string s, .int .i64 p, .bool false] ∧ Bk w4 (w2.heap.size + 1) [.string t, .int .i64 q, .bool false] ∧ Below w.heap.size w w4) := ⟨(F2.out.1).step bb, (F2.out.2.1).step bb, (F2.out.2.2.1).step bb, (F2.out.2.2.2).trans (bb.mono (F2.out.2.2.2).size)⟩
 clear F2
 clear bb
 clear l1_0 a1_0_0 f1_0_0 a1_0_1 f1_0_1 a1_0_2 f1_0_2 l1_1 a1_1_0 f1_1_0 a1_1_1 f1_1_1 a1_1_2 f1_1_2 l1_2 a1_2_0 f1_2_0 a1_2_1 f1_2_1 a1_2_2 f1_2_2
 have l2_0 := F3.out.1.lt
 have a2_0_0 := F3.out.1.cell 0 _ rfl
 have f2_0_0 := F3.out.1.fz 0
 have a2_0_1 := F3.out.1.cell 1 _ rfl
 have f2_0_1 := F3.out.1.fz 1
 have a2_0_2 := F3.out.1.cell 2 _ rfl
 have f2_0_2 := F3.out.1.fz 2
 have l2_1 := F3.out.2.1.lt
 have a2_1_0 := F3.out.2.1.cell 0 _ rfl
 have f2_1_0 := F3.out.2.1.fz 0
 have a2_1_1 := F3.out.2.1.cell 1 _ rfl
 have f2_1_1 := F3.out.2.1.fz 1
 have a2_1_2 := F3.out.2.1.cell 2 _ rfl
 have f2_1_2 := F3.out.2.1.fz 2
 have l2_2 := F3.out.2.2.1.lt
 have a2_2_0 := F3.out.2.2.1.cell 0 _ rfl
 have f2_2_0 := F3.out.2.2.1.fz 0
 have a2_2_1 := F3.out.2.2.1.cell 1 _ rfl
 have f2_2_1 := F3.out.2.2.1.fz 1
 have a2_2_2 := F3.out.2.2.1.cell 2 _ rfl
 have f2_2_2 := F3.out.2.2.1.fz 2
 have ne2_0_1 : ¬ w.heap.size = w2.heap.size := by omega
 have ne2_0_2 : ¬ w.heap.size = w2.heap.size + 1 := by omega
 have ne2_1_0 : ¬ w2.heap.size = w.heap.size := by omega
 have ne2_1_2 : ¬ w2.heap.size = w2.heap.size + 1 := by omega
 have ne2_2_0 : ¬ w2.heap.size + 1 = w.heap.size := by omega
 have ne2_2_1 : ¬ w2.heap.size + 1 = w2.heap.size := by omega
 go_wp2
 go_ret2
 exact ⟨rfl, F3.out.2.2.2⟩
theorem rin_ok {s t u : ByteArray} {p q o : Int} {c : Bool} {b z : Int} {r : Bool} (h0 : ((u.size : Int) == 0) = false) (HB : ∀ W, Calls Tryz.prog 8 #[.int .u64 b, .int .i64 z] W fun e w' => e = .returned (.tuple #[.agg #[.string s, .int .i64 p, .bool false], .agg #[.string t, .int .i64 q, .bool false], .bool c, .int .i64 0]) ∧ Below W.heap.size W w') (HV : ∀ W, Calls Tryz.prog 28 #[.agg #[.string u, .int .i64 o, .bool false]] W fun e w' => e = .returned (.int .i64 0) ∧ Below W.heap.size W w') (HW : ∀ W, Calls Tryz.prog 29 #[.agg #[.string u, .int .i64 o, .bool false], .agg #[.string s, .int .i64 p, .bool false], .agg #[.string t, .int .i64 q, .bool false], .bool c] W fun e w' => e = .returned (.bool r) ∧ Below W.heap.size W w') (w : World) :
 Calls Tryz.prog 12 #[.agg #[.string u, .int .i64 o, .bool false], .int .u64 b, .int .i64 z] w fun x w' => x = .returned (.tuple #[.bool r, .int .i64 0]) ∧ Below w.heap.size w w' := by
 have F0 : Hid (Bk (w.alloc (.cells #[.string u, .int .i64 o, .bool false] 24)) (w.heap.size) [.string u, .int .i64 o, .bool false] ∧ Below w.heap.size w (w.alloc (.cells #[.string u, .int .i64 o, .bool false] 24))) := ⟨Bk.new3 w (.string u) (.int .i64 o) (.bool false) 24, ((Below.refl w.heap.size w)).alloc (Nat.le_refl _) _⟩
 go_enter Tryz.func12, Tryz.ntmps12
 go_upto_region 1 with fail
 generalize (w.alloc (.cells #[.string u, .int .i64 o, .bool false] 24)) = w1 at *
 go_wp2_with fail
 all_goals first | (exfalso; omega) | skip
 refine (HB _).mono ?_
 rintro o2 w2 ⟨rfl, bb⟩
 have F1 : Hid (Bk w2 (w.heap.size) [.string u, .int .i64 o, .bool false] ∧ Below w.heap.size w w2) := ⟨(F0.out.1).step bb, (F0.out.2).trans (bb.mono (F0.out.2).size)⟩
 clear F0
 clear bb
 have lt0_1 := (F1.out.1).lt
 have le1 := (F1.out.2).size
 have F2 : Hid (Bk ((w2.alloc (.cells #[.string s, .int .i64 p, .bool false] 24)).alloc (.cells #[.string t, .int .i64 q, .bool false] 24)) (w.heap.size) [.string u, .int .i64 o, .bool false] ∧ Bk ((w2.alloc (.cells #[.string s, .int .i64 p, .bool false] 24)).alloc (.cells #[.string t, .int .i64 q, .bool false] 24)) (w2.heap.size) [.string s, .int .i64 p, .bool false] ∧ Bk ((w2.alloc (.cells #[.string s, .int .i64 p, .bool false] 24)).alloc (.cells #[.string t, .int .i64 q, .bool false] 24)) (w2.heap.size + 1) [.string t, .int .i64 q, .bool false] ∧ Below w.heap.size w ((w2.alloc (.cells #[.string s, .int .i64 p, .bool false] 24)).alloc (.cells #[.string t, .int .i64 q, .bool false] 24))) := ⟨((F1.out.1).step ((Below.refl _ _).alloc (Nat.le_refl _) _)).step ((Below.refl _ _).alloc (Nat.le_refl _) _), (Bk.new3 w2 (.string s) (.int .i64 p) (.bool false) 24).step ((Below.refl _ _).alloc (Nat.le_refl _) _), ((by have q := Bk.new3 (w2.alloc (.cells #[.string s, .int .i64 p, .bool false] 24)) (.string t) (.int .i64 q) (.bool false) 24; simpa using q) : Bk ((w2.alloc (.cells #[.string s, .int .i64 p, .bool false] 24)).alloc (.cells #[.string t, .int .i64 q, .bool false] 24)) (w2.heap.size + 1) [.string t, .int .i64 q, .bool false]), ((F1.out.2).alloc ((F1.out.2).size) _).alloc (((F1.out.2).alloc ((F1.out.2).size) _).size) _⟩
 clear F1
 go_upto_region 2 with fail
 generalize ((w2.alloc (.cells #[.string s, .int .i64 p, .bool false] 24)).alloc (.cells #[.string t, .int .i64 q, .bool false] 24)) = w3 at *
 have l1_0 := F2.out.1.lt
 have a1_0_0 := F2.out.1.cell 0 _ rfl
 have f1_0_0 := F2.out.1.fz 0
 have a1_0_1 := F2.out.1.cell 1 _ rfl
 have f1_0_1 := F2.out.1.fz 1
 have a1_0_2 := F2.out.1.cell 2 _ rfl
 have f1_0_2 := F2.out.1.fz 2
 have l1_1 := F2.out.2.1.lt
 have a1_1_0 := F2.out.2.1.cell 0 _ rfl
 have f1_1_0 := F2.out.2.1.fz 0
 have a1_1_1 := F2.out.2.1.cell 1 _ rfl
 have f1_1_1 := F2.out.2.1.fz 1
 have a1_1_2 := F2.out.2.1.cell 2 _ rfl
 have f1_1_2 := F2.out.2.1.fz 2
 have l1_2 := F2.out.2.2.1.lt
 have a1_2_0 := F2.out.2.2.1.cell 0 _ rfl
 have f1_2_0 := F2.out.2.2.1.fz 0
 have a1_2_1 := F2.out.2.2.1.cell 1 _ rfl
 have f1_2_1 := F2.out.2.2.1.fz 1
 have a1_2_2 := F2.out.2.2.1.cell 2 _ rfl
 have f1_2_2 := F2.out.2.2.1.fz 2
 have ne1_0_1 : ¬ w.heap.size = w2.heap.size := by omega
 have ne1_0_2 : ¬ w.heap.size = w2.heap.size + 1 := by omega
 have ne1_1_0 : ¬ w2.heap.size = w.heap.size := by omega
 have ne1_1_2 : ¬ w2.heap.size = w2.heap.size + 1 := by omega
 have ne1_2_0 : ¬ w2.heap.size + 1 = w.heap.size := by omega
 have ne1_2_1 : ¬ w2.heap.size + 1 = w2.heap.size := by omega
 go_wp2_with fail
 all_goals first | (exfalso; omega) | skip
 refine (HV _).mono ?_
 rintro o4 w4 ⟨rfl, bb⟩
 have F3 : Hid (Bk w4 (w.heap.size) [.string u, .int .i64 o, .bool false] ∧ Bk w4 (w2.heap.size) [.string s, .int .i64 p, .bool false] ∧ Bk w4 (w2.heap.size + 1) [.string t, .int .i64 q, .bool false] ∧ Below w.heap.size w w4) := ⟨(F2.out.1).step bb, (F2.out.2.1).step bb, (F2.out.2.2.1).step bb, (F2.out.2.2.2).trans (bb.mono (F2.out.2.2.2).size)⟩
 clear F2
 clear bb
 clear l1_0 a1_0_0 f1_0_0 a1_0_1 f1_0_1 a1_0_2 f1_0_2 l1_1 a1_1_0 f1_1_0 a1_1_1 f1_1_1 a1_1_2 f1_1_2 l1_2 a1_2_0 f1_2_0 a1_2_1 f1_2_1 a1_2_2 f1_2_2
 have l2_0 := F3.out.1.lt
 have a2_0_0 := F3.out.1.cell 0 _ rfl
 have f2_0_0 := F3.out.1.fz 0
 have a2_0_1 := F3.out.1.cell 1 _ rfl
 have f2_0_1 := F3.out.1.fz 1
 have a2_0_2 := F3.out.1.cell 2 _ rfl
 have f2_0_2 := F3.out.1.fz 2
 have l2_1 := F3.out.2.1.lt
 have a2_1_0 := F3.out.2.1.cell 0 _ rfl
 have f2_1_0 := F3.out.2.1.fz 0
 have a2_1_1 := F3.out.2.1.cell 1 _ rfl
 have f2_1_1 := F3.out.2.1.fz 1
 have a2_1_2 := F3.out.2.1.cell 2 _ rfl
 have f2_1_2 := F3.out.2.1.fz 2
 have l2_2 := F3.out.2.2.1.lt
 have a2_2_0 := F3.out.2.2.1.cell 0 _ rfl
 have f2_2_0 := F3.out.2.2.1.fz 0
 have a2_2_1 := F3.out.2.2.1.cell 1 _ rfl
 have f2_2_1 := F3.out.2.2.1.fz 1
 have a2_2_2 := F3.out.2.2.1.cell 2 _ rfl
 have f2_2_2 := F3.out.2.2.1.fz 2
 have ne2_0_1 : ¬ w.heap.size = w2.heap.size := by omega
 have ne2_0_2 : ¬ w.heap.size = w2.heap.size + 1 := by omega
 have ne2_1_0 : ¬ w2.heap.size = w.heap.size := by omega
 have ne2_1_2 : ¬ w2.heap.size = w2.heap.size + 1 := by omega
 have ne2_2_0 : ¬ w2.heap.size + 1 = w.heap.size := by omega
 have ne2_2_1 : ¬ w2.heap.size + 1 = w2.heap.size := by omega
 go_wp2_with fail
 all_goals first | (exfalso; omega) | skip
 refine (HW _).mono ?_
 rintro o5 w5 ⟨rfl, bb⟩
 have F4 : Hid (Bk w5 (w.heap.size) [.string u, .int .i64 o, .bool false] ∧ Bk w5 (w2.heap.size) [.string s, .int .i64 p, .bool false] ∧ Bk w5 (w2.heap.size + 1) [.string t, .int .i64 q, .bool false] ∧ Below w.heap.size w w5) := ⟨(F3.out.1).step bb, (F3.out.2.1).step bb, (F3.out.2.2.1).step bb, (F3.out.2.2.2).trans (bb.mono (F3.out.2.2.2).size)⟩
 clear F3
 clear bb
 go_wp2
 go_ret2
 exact ⟨rfl, F4.out.2.2.2⟩
theorem near_ok {b z : Int} {n : Int} {u u1 u2 : ByteArray} {o o1 o2 : Int} {r1 r2 : Bool} (HE : ∀ W, Calls Tryz.prog 6 #[.int .u64 b, .int .i64 z] W fun e w' => e = .returned (.tuple #[.agg #[.string u, .int .i64 o, .bool false], .int .i64 0]) ∧ Below W.heap.size W w') (HD : ∀ W, Calls Tryz.prog 65 #[.agg #[.string u, .int .i64 o, .bool false], .int .i64 n] W fun e w' => e = .returned (.tuple #[.agg #[.string u1, .int .i64 o1, .bool false], .int .i64 0]) ∧ Below W.heap.size W w') (HU : ∀ W, Calls Tryz.prog 66 #[.agg #[.string u, .int .i64 o, .bool false], .int .i64 n] W fun e w' => e = .returned (.tuple #[.agg #[.string u2, .int .i64 o2, .bool false], .int .i64 0]) ∧ Below W.heap.size W w') (H1 : ∀ W, Calls Tryz.prog 12 #[.agg #[.string u1, .int .i64 o1, .bool false], .int .u64 b, .int .i64 z] W fun e w' => e = .returned (.tuple #[.bool r1, .int .i64 0]) ∧ Below W.heap.size W w') (H2 : ∀ W, Calls Tryz.prog 12 #[.agg #[.string u2, .int .i64 o2, .bool false], .int .u64 b, .int .i64 z] W fun e w' => e = .returned (.tuple #[.bool r2, .int .i64 0]) ∧ Below W.heap.size W w') (w : World) :
 Calls Tryz.prog 32 #[.int .u64 b, .int .i64 z, .int .i64 n] w fun x w' => x = .returned (.tuple #[.agg #[.string u1, .int .i64 o1, .bool false], .bool r1, .agg #[.string u2, .int .i64 o2, .bool false], .bool r2]) ∧ Below w.heap.size w w' := by
 have F0 : Hid (Bk ((w.alloc (.cells #[.string ⟨#[]⟩, .int .i64 0, .bool false] 24)).alloc (.cells #[.string ⟨#[]⟩, .int .i64 0, .bool false] 24)) (w.heap.size) [.string ⟨#[]⟩, .int .i64 0, .bool false] ∧ Bk ((w.alloc (.cells #[.string ⟨#[]⟩, .int .i64 0, .bool false] 24)).alloc (.cells #[.string ⟨#[]⟩, .int .i64 0, .bool false] 24)) (w.heap.size + 1) [.string ⟨#[]⟩, .int .i64 0, .bool false] ∧ Below w.heap.size w ((w.alloc (.cells #[.string ⟨#[]⟩, .int .i64 0, .bool false] 24)).alloc (.cells #[.string ⟨#[]⟩, .int .i64 0, .bool false] 24))) := ⟨(Bk.new3 w (.string ⟨#[]⟩) (.int .i64 0) (.bool false) 24).step ((Below.refl _ _).alloc (Nat.le_refl _) _), ((by have q := Bk.new3 (w.alloc (.cells #[.string ⟨#[]⟩, .int .i64 0, .bool false] 24)) (.string ⟨#[]⟩) (.int .i64 0) (.bool false) 24; simpa using q) : Bk ((w.alloc (.cells #[.string ⟨#[]⟩, .int .i64 0, .bool false] 24)).alloc (.cells #[.string ⟨#[]⟩, .int .i64 0, .bool false] 24)) (w.heap.size + 1) [.string ⟨#[]⟩, .int .i64 0, .bool false]), (((Below.refl w.heap.size w)).alloc (Nat.le_refl _) _).alloc ((((Below.refl w.heap.size w)).alloc (Nat.le_refl _) _).size) _⟩
 go_enter Tryz.func32, Tryz.ntmps32
 go_upto_region 1 with fail
 generalize ((w.alloc (.cells #[.string ⟨#[]⟩, .int .i64 0, .bool false] 24)).alloc (.cells #[.string ⟨#[]⟩, .int .i64 0, .bool false] 24)) = w1 at *
 go_wp2_with fail
 all_goals first | (exfalso; omega) | skip
 refine (HE _).mono ?_
 rintro o2 w2 ⟨rfl, bb⟩
 have F1 : Hid (Bk w2 (w.heap.size) [.string ⟨#[]⟩, .int .i64 0, .bool false] ∧ Bk w2 (w.heap.size + 1) [.string ⟨#[]⟩, .int .i64 0, .bool false] ∧ Below w.heap.size w w2) := ⟨(F0.out.1).step bb, (F0.out.2.1).step bb, (F0.out.2.2).trans (bb.mono (F0.out.2.2).size)⟩
 clear F0
 clear bb
 have lt0_2 := (F1.out.1).lt
 have lt1_2 := (F1.out.2.1).lt
 have le2 := (F1.out.2.2).size
 have F2 : Hid (Bk (w2.alloc (.cells #[.string u, .int .i64 o, .bool false] 24)) (w.heap.size) [.string ⟨#[]⟩, .int .i64 0, .bool false] ∧ Bk (w2.alloc (.cells #[.string u, .int .i64 o, .bool false] 24)) (w.heap.size + 1) [.string ⟨#[]⟩, .int .i64 0, .bool false] ∧ Bk (w2.alloc (.cells #[.string u, .int .i64 o, .bool false] 24)) (w2.heap.size) [.string u, .int .i64 o, .bool false] ∧ Below w.heap.size w (w2.alloc (.cells #[.string u, .int .i64 o, .bool false] 24))) := ⟨(F1.out.1).step ((Below.refl _ _).alloc (Nat.le_refl _) _), (F1.out.2.1).step ((Below.refl _ _).alloc (Nat.le_refl _) _), Bk.new3 w2 (.string u) (.int .i64 o) (.bool false) 24, (F1.out.2.2).alloc ((F1.out.2.2).size) _⟩
 clear F1
 go_upto_region 2 with fail
 generalize (w2.alloc (.cells #[.string u, .int .i64 o, .bool false] 24)) = w3 at *
 have l1_0 := F2.out.1.lt
 have a1_0_0 := F2.out.1.cell 0 _ rfl
 have f1_0_0 := F2.out.1.fz 0
 have a1_0_1 := F2.out.1.cell 1 _ rfl
 have f1_0_1 := F2.out.1.fz 1
 have a1_0_2 := F2.out.1.cell 2 _ rfl
 have f1_0_2 := F2.out.1.fz 2
 have l1_1 := F2.out.2.1.lt
 have a1_1_0 := F2.out.2.1.cell 0 _ rfl
 have f1_1_0 := F2.out.2.1.fz 0
 have a1_1_1 := F2.out.2.1.cell 1 _ rfl
 have f1_1_1 := F2.out.2.1.fz 1
 have a1_1_2 := F2.out.2.1.cell 2 _ rfl
 have f1_1_2 := F2.out.2.1.fz 2
 have l1_2 := F2.out.2.2.1.lt
 have a1_2_0 := F2.out.2.2.1.cell 0 _ rfl
 have f1_2_0 := F2.out.2.2.1.fz 0
 have a1_2_1 := F2.out.2.2.1.cell 1 _ rfl
 have f1_2_1 := F2.out.2.2.1.fz 1
 have a1_2_2 := F2.out.2.2.1.cell 2 _ rfl
 have f1_2_2 := F2.out.2.2.1.fz 2
 have ne1_0_1 : ¬ w.heap.size = w.heap.size + 1 := by omega
 have ne1_0_2 : ¬ w.heap.size = w2.heap.size := by omega
 have ne1_1_0 : ¬ w.heap.size + 1 = w.heap.size := by omega
 have ne1_1_2 : ¬ w.heap.size + 1 = w2.heap.size := by omega
 have ne1_2_0 : ¬ w2.heap.size = w.heap.size := by omega
 have ne1_2_1 : ¬ w2.heap.size = w.heap.size + 1 := by omega
 go_wp2_with fail
 all_goals first | (exfalso; omega) | skip
 refine (HD _).mono ?_
 rintro o4 w4 ⟨rfl, bb⟩
 have F3 : Hid (Bk w4 (w.heap.size) [.string ⟨#[]⟩, .int .i64 0, .bool false] ∧ Bk w4 (w.heap.size + 1) [.string ⟨#[]⟩, .int .i64 0, .bool false] ∧ Bk w4 (w2.heap.size) [.string u, .int .i64 o, .bool false] ∧ Below w.heap.size w w4) := ⟨(F2.out.1).step bb, (F2.out.2.1).step bb, (F2.out.2.2.1).step bb, (F2.out.2.2.2).trans (bb.mono (F2.out.2.2.2).size)⟩
 clear F2
 clear bb
 clear l1_0 a1_0_0 f1_0_0 a1_0_1 f1_0_1 a1_0_2 f1_0_2 l1_1 a1_1_0 f1_1_0 a1_1_1 f1_1_1 a1_1_2 f1_1_2 l1_2 a1_2_0 f1_2_0 a1_2_1 f1_2_1 a1_2_2 f1_2_2
 have lt0_3 := (F3.out.1).lt
 have lt1_3 := (F3.out.2.1).lt
 have lt2_3 := (F3.out.2.2.1).lt
 have le3 := (F3.out.2.2.2).size
 have F4 : Hid (Bk (w4.alloc (.cells #[.string u1, .int .i64 o1, .bool false] 24)) (w.heap.size) [.string ⟨#[]⟩, .int .i64 0, .bool false] ∧ Bk (w4.alloc (.cells #[.string u1, .int .i64 o1, .bool false] 24)) (w.heap.size + 1) [.string ⟨#[]⟩, .int .i64 0, .bool false] ∧ Bk (w4.alloc (.cells #[.string u1, .int .i64 o1, .bool false] 24)) (w2.heap.size) [.string u, .int .i64 o, .bool false] ∧ Bk (w4.alloc (.cells #[.string u1, .int .i64 o1, .bool false] 24)) (w4.heap.size) [.string u1, .int .i64 o1, .bool false] ∧ Below w.heap.size w (w4.alloc (.cells #[.string u1, .int .i64 o1, .bool false] 24))) := ⟨(F3.out.1).step ((Below.refl _ _).alloc (Nat.le_refl _) _), (F3.out.2.1).step ((Below.refl _ _).alloc (Nat.le_refl _) _), (F3.out.2.2.1).step ((Below.refl _ _).alloc (Nat.le_refl _) _), Bk.new3 w4 (.string u1) (.int .i64 o1) (.bool false) 24, (F3.out.2.2.2).alloc ((F3.out.2.2.2).size) _⟩
 clear F3
 go_upto_region 3 with fail
 generalize (w4.alloc (.cells #[.string u1, .int .i64 o1, .bool false] 24)) = w5 at *
 have l2_0 := F4.out.1.lt
 have a2_0_0 := F4.out.1.cell 0 _ rfl
 have f2_0_0 := F4.out.1.fz 0
 have a2_0_1 := F4.out.1.cell 1 _ rfl
 have f2_0_1 := F4.out.1.fz 1
 have a2_0_2 := F4.out.1.cell 2 _ rfl
 have f2_0_2 := F4.out.1.fz 2
 have l2_1 := F4.out.2.1.lt
 have a2_1_0 := F4.out.2.1.cell 0 _ rfl
 have f2_1_0 := F4.out.2.1.fz 0
 have a2_1_1 := F4.out.2.1.cell 1 _ rfl
 have f2_1_1 := F4.out.2.1.fz 1
 have a2_1_2 := F4.out.2.1.cell 2 _ rfl
 have f2_1_2 := F4.out.2.1.fz 2
 have l2_2 := F4.out.2.2.1.lt
 have a2_2_0 := F4.out.2.2.1.cell 0 _ rfl
 have f2_2_0 := F4.out.2.2.1.fz 0
 have a2_2_1 := F4.out.2.2.1.cell 1 _ rfl
 have f2_2_1 := F4.out.2.2.1.fz 1
 have a2_2_2 := F4.out.2.2.1.cell 2 _ rfl
 have f2_2_2 := F4.out.2.2.1.fz 2
 have l2_3 := F4.out.2.2.2.1.lt
 have a2_3_0 := F4.out.2.2.2.1.cell 0 _ rfl
 have f2_3_0 := F4.out.2.2.2.1.fz 0
 have a2_3_1 := F4.out.2.2.2.1.cell 1 _ rfl
 have f2_3_1 := F4.out.2.2.2.1.fz 1
 have a2_3_2 := F4.out.2.2.2.1.cell 2 _ rfl
 have f2_3_2 := F4.out.2.2.2.1.fz 2
 have ne2_0_1 : ¬ w.heap.size = w.heap.size + 1 := by omega
 have ne2_0_2 : ¬ w.heap.size = w2.heap.size := by omega
 have ne2_0_3 : ¬ w.heap.size = w4.heap.size := by omega
 have ne2_1_0 : ¬ w.heap.size + 1 = w.heap.size := by omega
 have ne2_1_2 : ¬ w.heap.size + 1 = w2.heap.size := by omega
 have ne2_1_3 : ¬ w.heap.size + 1 = w4.heap.size := by omega
 have ne2_2_0 : ¬ w2.heap.size = w.heap.size := by omega
 have ne2_2_1 : ¬ w2.heap.size = w.heap.size + 1 := by omega
 have ne2_2_3 : ¬ w2.heap.size = w4.heap.size := by omega
 have ne2_3_0 : ¬ w4.heap.size = w.heap.size := by omega
 have ne2_3_1 : ¬ w4.heap.size = w.heap.size + 1 := by omega
 have ne2_3_2 : ¬ w4.heap.size = w2.heap.size := by omega
 go_wp2_with fail
 all_goals first | (exfalso; omega) | skip
 refine (HU _).mono ?_
 rintro o6 w6 ⟨rfl, bb⟩
 have F5 : Hid (Bk w6 (w.heap.size) [.string ⟨#[]⟩, .int .i64 0, .bool false] ∧ Bk w6 (w.heap.size + 1) [.string ⟨#[]⟩, .int .i64 0, .bool false] ∧ Bk w6 (w2.heap.size) [.string u, .int .i64 o, .bool false] ∧ Bk w6 (w4.heap.size) [.string u1, .int .i64 o1, .bool false] ∧ Below w.heap.size w w6) := ⟨(F4.out.1).step bb, (F4.out.2.1).step bb, (F4.out.2.2.1).step bb, (F4.out.2.2.2.1).step bb, (F4.out.2.2.2.2).trans (bb.mono (F4.out.2.2.2.2).size)⟩
 clear F4
 clear bb
 clear l2_0 a2_0_0 f2_0_0 a2_0_1 f2_0_1 a2_0_2 f2_0_2 l2_1 a2_1_0 f2_1_0 a2_1_1 f2_1_1 a2_1_2 f2_1_2 l2_2 a2_2_0 f2_2_0 a2_2_1 f2_2_1 a2_2_2 f2_2_2 l2_3 a2_3_0 f2_3_0 a2_3_1 f2_3_1 a2_3_2 f2_3_2
 have lt0_4 := (F5.out.1).lt
 have lt1_4 := (F5.out.2.1).lt
 have lt2_4 := (F5.out.2.2.1).lt
 have lt3_4 := (F5.out.2.2.2.1).lt
 have le4 := (F5.out.2.2.2.2).size
 have F6 : Hid (Bk (w6.alloc (.cells #[.string u2, .int .i64 o2, .bool false] 24)) (w.heap.size) [.string ⟨#[]⟩, .int .i64 0, .bool false] ∧ Bk (w6.alloc (.cells #[.string u2, .int .i64 o2, .bool false] 24)) (w.heap.size + 1) [.string ⟨#[]⟩, .int .i64 0, .bool false] ∧ Bk (w6.alloc (.cells #[.string u2, .int .i64 o2, .bool false] 24)) (w2.heap.size) [.string u, .int .i64 o, .bool false] ∧ Bk (w6.alloc (.cells #[.string u2, .int .i64 o2, .bool false] 24)) (w4.heap.size) [.string u1, .int .i64 o1, .bool false] ∧ Bk (w6.alloc (.cells #[.string u2, .int .i64 o2, .bool false] 24)) (w6.heap.size) [.string u2, .int .i64 o2, .bool false] ∧ Below w.heap.size w (w6.alloc (.cells #[.string u2, .int .i64 o2, .bool false] 24))) := ⟨(F5.out.1).step ((Below.refl _ _).alloc (Nat.le_refl _) _), (F5.out.2.1).step ((Below.refl _ _).alloc (Nat.le_refl _) _), (F5.out.2.2.1).step ((Below.refl _ _).alloc (Nat.le_refl _) _), (F5.out.2.2.2.1).step ((Below.refl _ _).alloc (Nat.le_refl _) _), Bk.new3 w6 (.string u2) (.int .i64 o2) (.bool false) 24, (F5.out.2.2.2.2).alloc ((F5.out.2.2.2.2).size) _⟩
 clear F5
 go_upto_region 4 with fail
 generalize (w6.alloc (.cells #[.string u2, .int .i64 o2, .bool false] 24)) = w7 at *
 have l3_0 := F6.out.1.lt
 have a3_0_0 := F6.out.1.cell 0 _ rfl
 have f3_0_0 := F6.out.1.fz 0
 have a3_0_1 := F6.out.1.cell 1 _ rfl
 have f3_0_1 := F6.out.1.fz 1
 have a3_0_2 := F6.out.1.cell 2 _ rfl
 have f3_0_2 := F6.out.1.fz 2
 have l3_1 := F6.out.2.1.lt
 have a3_1_0 := F6.out.2.1.cell 0 _ rfl
 have f3_1_0 := F6.out.2.1.fz 0
 have a3_1_1 := F6.out.2.1.cell 1 _ rfl
 have f3_1_1 := F6.out.2.1.fz 1
 have a3_1_2 := F6.out.2.1.cell 2 _ rfl
 have f3_1_2 := F6.out.2.1.fz 2
 have l3_2 := F6.out.2.2.1.lt
 have a3_2_0 := F6.out.2.2.1.cell 0 _ rfl
 have f3_2_0 := F6.out.2.2.1.fz 0
 have a3_2_1 := F6.out.2.2.1.cell 1 _ rfl
 have f3_2_1 := F6.out.2.2.1.fz 1
 have a3_2_2 := F6.out.2.2.1.cell 2 _ rfl
 have f3_2_2 := F6.out.2.2.1.fz 2
 have l3_3 := F6.out.2.2.2.1.lt
 have a3_3_0 := F6.out.2.2.2.1.cell 0 _ rfl
 have f3_3_0 := F6.out.2.2.2.1.fz 0
 have a3_3_1 := F6.out.2.2.2.1.cell 1 _ rfl
 have f3_3_1 := F6.out.2.2.2.1.fz 1
 have a3_3_2 := F6.out.2.2.2.1.cell 2 _ rfl
 have f3_3_2 := F6.out.2.2.2.1.fz 2
 have l3_4 := F6.out.2.2.2.2.1.lt
 have a3_4_0 := F6.out.2.2.2.2.1.cell 0 _ rfl
 have f3_4_0 := F6.out.2.2.2.2.1.fz 0
 have a3_4_1 := F6.out.2.2.2.2.1.cell 1 _ rfl
 have f3_4_1 := F6.out.2.2.2.2.1.fz 1
 have a3_4_2 := F6.out.2.2.2.2.1.cell 2 _ rfl
 have f3_4_2 := F6.out.2.2.2.2.1.fz 2
 have ne3_0_1 : ¬ w.heap.size = w.heap.size + 1 := by omega
 have ne3_0_2 : ¬ w.heap.size = w2.heap.size := by omega
 have ne3_0_3 : ¬ w.heap.size = w4.heap.size := by omega
 have ne3_0_4 : ¬ w.heap.size = w6.heap.size := by omega
 have ne3_1_0 : ¬ w.heap.size + 1 = w.heap.size := by omega
 have ne3_1_2 : ¬ w.heap.size + 1 = w2.heap.size := by omega
 have ne3_1_3 : ¬ w.heap.size + 1 = w4.heap.size := by omega
 have ne3_1_4 : ¬ w.heap.size + 1 = w6.heap.size := by omega
 have ne3_2_0 : ¬ w2.heap.size = w.heap.size := by omega
 have ne3_2_1 : ¬ w2.heap.size = w.heap.size + 1 := by omega
 have ne3_2_3 : ¬ w2.heap.size = w4.heap.size := by omega
 have ne3_2_4 : ¬ w2.heap.size = w6.heap.size := by omega
 have ne3_3_0 : ¬ w4.heap.size = w.heap.size := by omega
 have ne3_3_1 : ¬ w4.heap.size = w.heap.size + 1 := by omega
 have ne3_3_2 : ¬ w4.heap.size = w2.heap.size := by omega
 have ne3_3_4 : ¬ w4.heap.size = w6.heap.size := by omega
 have ne3_4_0 : ¬ w6.heap.size = w.heap.size := by omega
 have ne3_4_1 : ¬ w6.heap.size = w.heap.size + 1 := by omega
 have ne3_4_2 : ¬ w6.heap.size = w2.heap.size := by omega
 have ne3_4_3 : ¬ w6.heap.size = w4.heap.size := by omega
 go_wp2_with fail
 all_goals first | (exfalso; omega) | skip
 refine (H1 _).mono ?_
 rintro o8 w8 ⟨rfl, bb⟩
 have F7 : Hid (Bk w8 (w.heap.size) [.string ⟨#[]⟩, .int .i64 0, .bool false] ∧ Bk w8 (w.heap.size + 1) [.string ⟨#[]⟩, .int .i64 0, .bool false] ∧ Bk w8 (w2.heap.size) [.string u, .int .i64 o, .bool false] ∧ Bk w8 (w4.heap.size) [.string u1, .int .i64 o1, .bool false] ∧ Bk w8 (w6.heap.size) [.string u2, .int .i64 o2, .bool false] ∧ Below w.heap.size w w8) := ⟨(F6.out.1).step bb, (F6.out.2.1).step bb, (F6.out.2.2.1).step bb, (F6.out.2.2.2.1).step bb, (F6.out.2.2.2.2.1).step bb, (F6.out.2.2.2.2.2).trans (bb.mono (F6.out.2.2.2.2.2).size)⟩
 clear F6
 clear bb
 clear l3_0 a3_0_0 f3_0_0 a3_0_1 f3_0_1 a3_0_2 f3_0_2 l3_1 a3_1_0 f3_1_0 a3_1_1 f3_1_1 a3_1_2 f3_1_2 l3_2 a3_2_0 f3_2_0 a3_2_1 f3_2_1 a3_2_2 f3_2_2 l3_3 a3_3_0 f3_3_0 a3_3_1 f3_3_1 a3_3_2 f3_3_2 l3_4 a3_4_0 f3_4_0 a3_4_1 f3_4_1 a3_4_2 f3_4_2
 have l4_0 := F7.out.1.lt
 have a4_0_0 := F7.out.1.cell 0 _ rfl
 have f4_0_0 := F7.out.1.fz 0
 have a4_0_1 := F7.out.1.cell 1 _ rfl
 have f4_0_1 := F7.out.1.fz 1
 have a4_0_2 := F7.out.1.cell 2 _ rfl
 have f4_0_2 := F7.out.1.fz 2
 have l4_1 := F7.out.2.1.lt
 have a4_1_0 := F7.out.2.1.cell 0 _ rfl
 have f4_1_0 := F7.out.2.1.fz 0
 have a4_1_1 := F7.out.2.1.cell 1 _ rfl
 have f4_1_1 := F7.out.2.1.fz 1
 have a4_1_2 := F7.out.2.1.cell 2 _ rfl
 have f4_1_2 := F7.out.2.1.fz 2
 have l4_2 := F7.out.2.2.1.lt
 have a4_2_0 := F7.out.2.2.1.cell 0 _ rfl
 have f4_2_0 := F7.out.2.2.1.fz 0
 have a4_2_1 := F7.out.2.2.1.cell 1 _ rfl
 have f4_2_1 := F7.out.2.2.1.fz 1
 have a4_2_2 := F7.out.2.2.1.cell 2 _ rfl
 have f4_2_2 := F7.out.2.2.1.fz 2
 have l4_3 := F7.out.2.2.2.1.lt
 have a4_3_0 := F7.out.2.2.2.1.cell 0 _ rfl
 have f4_3_0 := F7.out.2.2.2.1.fz 0
 have a4_3_1 := F7.out.2.2.2.1.cell 1 _ rfl
 have f4_3_1 := F7.out.2.2.2.1.fz 1
 have a4_3_2 := F7.out.2.2.2.1.cell 2 _ rfl
 have f4_3_2 := F7.out.2.2.2.1.fz 2
 have l4_4 := F7.out.2.2.2.2.1.lt
 have a4_4_0 := F7.out.2.2.2.2.1.cell 0 _ rfl
 have f4_4_0 := F7.out.2.2.2.2.1.fz 0
 have a4_4_1 := F7.out.2.2.2.2.1.cell 1 _ rfl
 have f4_4_1 := F7.out.2.2.2.2.1.fz 1
 have a4_4_2 := F7.out.2.2.2.2.1.cell 2 _ rfl
 have f4_4_2 := F7.out.2.2.2.2.1.fz 2
 have ne4_0_1 : ¬ w.heap.size = w.heap.size + 1 := by omega
 have ne4_0_2 : ¬ w.heap.size = w2.heap.size := by omega
 have ne4_0_3 : ¬ w.heap.size = w4.heap.size := by omega
 have ne4_0_4 : ¬ w.heap.size = w6.heap.size := by omega
 have ne4_1_0 : ¬ w.heap.size + 1 = w.heap.size := by omega
 have ne4_1_2 : ¬ w.heap.size + 1 = w2.heap.size := by omega
 have ne4_1_3 : ¬ w.heap.size + 1 = w4.heap.size := by omega
 have ne4_1_4 : ¬ w.heap.size + 1 = w6.heap.size := by omega
 have ne4_2_0 : ¬ w2.heap.size = w.heap.size := by omega
 have ne4_2_1 : ¬ w2.heap.size = w.heap.size + 1 := by omega
 have ne4_2_3 : ¬ w2.heap.size = w4.heap.size := by omega
 have ne4_2_4 : ¬ w2.heap.size = w6.heap.size := by omega
 have ne4_3_0 : ¬ w4.heap.size = w.heap.size := by omega
 have ne4_3_1 : ¬ w4.heap.size = w.heap.size + 1 := by omega
 have ne4_3_2 : ¬ w4.heap.size = w2.heap.size := by omega
 have ne4_3_4 : ¬ w4.heap.size = w6.heap.size := by omega
 have ne4_4_0 : ¬ w6.heap.size = w.heap.size := by omega
 have ne4_4_1 : ¬ w6.heap.size = w.heap.size + 1 := by omega
 have ne4_4_2 : ¬ w6.heap.size = w2.heap.size := by omega
 have ne4_4_3 : ¬ w6.heap.size = w4.heap.size := by omega
 go_wp2_with fail
 all_goals first | (exfalso; omega) | skip
 refine (H2 _).mono ?_
 rintro o9 w9 ⟨rfl, bb⟩
 have F8 : Hid (Bk w9 (w.heap.size) [.string ⟨#[]⟩, .int .i64 0, .bool false] ∧ Bk w9 (w.heap.size + 1) [.string ⟨#[]⟩, .int .i64 0, .bool false] ∧ Bk w9 (w2.heap.size) [.string u, .int .i64 o, .bool false] ∧ Bk w9 (w4.heap.size) [.string u1, .int .i64 o1, .bool false] ∧ Bk w9 (w6.heap.size) [.string u2, .int .i64 o2, .bool false] ∧ Below w.heap.size w w9) := ⟨(F7.out.1).step bb, (F7.out.2.1).step bb, (F7.out.2.2.1).step bb, (F7.out.2.2.2.1).step bb, (F7.out.2.2.2.2.1).step bb, (F7.out.2.2.2.2.2).trans (bb.mono (F7.out.2.2.2.2.2).size)⟩
 clear F7
 clear bb
 clear l4_0 a4_0_0 f4_0_0 a4_0_1 f4_0_1 a4_0_2 f4_0_2 l4_1 a4_1_0 f4_1_0 a4_1_1 f4_1_1 a4_1_2 f4_1_2 l4_2 a4_2_0 f4_2_0 a4_2_1 f4_2_1 a4_2_2 f4_2_2 l4_3 a4_3_0 f4_3_0 a4_3_1 f4_3_1 a4_3_2 f4_3_2 l4_4 a4_4_0 f4_4_0 a4_4_1 f4_4_1 a4_4_2 f4_4_2
 have l5_0 := F8.out.1.lt
 have a5_0_0 := F8.out.1.cell 0 _ rfl
 have f5_0_0 := F8.out.1.fz 0
 have a5_0_1 := F8.out.1.cell 1 _ rfl
 have f5_0_1 := F8.out.1.fz 1
 have a5_0_2 := F8.out.1.cell 2 _ rfl
 have f5_0_2 := F8.out.1.fz 2
 have l5_1 := F8.out.2.1.lt
 have a5_1_0 := F8.out.2.1.cell 0 _ rfl
 have f5_1_0 := F8.out.2.1.fz 0
 have a5_1_1 := F8.out.2.1.cell 1 _ rfl
 have f5_1_1 := F8.out.2.1.fz 1
 have a5_1_2 := F8.out.2.1.cell 2 _ rfl
 have f5_1_2 := F8.out.2.1.fz 2
 have l5_2 := F8.out.2.2.1.lt
 have a5_2_0 := F8.out.2.2.1.cell 0 _ rfl
 have f5_2_0 := F8.out.2.2.1.fz 0
 have a5_2_1 := F8.out.2.2.1.cell 1 _ rfl
 have f5_2_1 := F8.out.2.2.1.fz 1
 have a5_2_2 := F8.out.2.2.1.cell 2 _ rfl
 have f5_2_2 := F8.out.2.2.1.fz 2
 have l5_3 := F8.out.2.2.2.1.lt
 have a5_3_0 := F8.out.2.2.2.1.cell 0 _ rfl
 have f5_3_0 := F8.out.2.2.2.1.fz 0
 have a5_3_1 := F8.out.2.2.2.1.cell 1 _ rfl
 have f5_3_1 := F8.out.2.2.2.1.fz 1
 have a5_3_2 := F8.out.2.2.2.1.cell 2 _ rfl
 have f5_3_2 := F8.out.2.2.2.1.fz 2
 have l5_4 := F8.out.2.2.2.2.1.lt
 have a5_4_0 := F8.out.2.2.2.2.1.cell 0 _ rfl
 have f5_4_0 := F8.out.2.2.2.2.1.fz 0
 have a5_4_1 := F8.out.2.2.2.2.1.cell 1 _ rfl
 have f5_4_1 := F8.out.2.2.2.2.1.fz 1
 have a5_4_2 := F8.out.2.2.2.2.1.cell 2 _ rfl
 have f5_4_2 := F8.out.2.2.2.2.1.fz 2
 have ne5_0_1 : ¬ w.heap.size = w.heap.size + 1 := by omega
 have ne5_0_2 : ¬ w.heap.size = w2.heap.size := by omega
 have ne5_0_3 : ¬ w.heap.size = w4.heap.size := by omega
 have ne5_0_4 : ¬ w.heap.size = w6.heap.size := by omega
 have ne5_1_0 : ¬ w.heap.size + 1 = w.heap.size := by omega
 have ne5_1_2 : ¬ w.heap.size + 1 = w2.heap.size := by omega
 have ne5_1_3 : ¬ w.heap.size + 1 = w4.heap.size := by omega
 have ne5_1_4 : ¬ w.heap.size + 1 = w6.heap.size := by omega
 have ne5_2_0 : ¬ w2.heap.size = w.heap.size := by omega
 have ne5_2_1 : ¬ w2.heap.size = w.heap.size + 1 := by omega
 have ne5_2_3 : ¬ w2.heap.size = w4.heap.size := by omega
 have ne5_2_4 : ¬ w2.heap.size = w6.heap.size := by omega
 have ne5_3_0 : ¬ w4.heap.size = w.heap.size := by omega
 have ne5_3_1 : ¬ w4.heap.size = w.heap.size + 1 := by omega
 have ne5_3_2 : ¬ w4.heap.size = w2.heap.size := by omega
 have ne5_3_4 : ¬ w4.heap.size = w6.heap.size := by omega
 have ne5_4_0 : ¬ w6.heap.size = w.heap.size := by omega
 have ne5_4_1 : ¬ w6.heap.size = w.heap.size + 1 := by omega
 have ne5_4_2 : ¬ w6.heap.size = w2.heap.size := by omega
 have ne5_4_3 : ¬ w6.heap.size = w4.heap.size := by omega
 go_upto_region 6 with fail
 go_region_held3 (fun w' => w'.cell? ⟨w4.heap.size, 0, none⟩ = some (.string u1) ∧ w'.cell? ⟨w4.heap.size, 1, none⟩ = some (.int .i64 o1) ∧ w'.cell? ⟨w4.heap.size, 2, none⟩ = some (.bool false) ∧ w'.cell? ⟨w6.heap.size, 0, none⟩ = some (.string u2) ∧ w'.cell? ⟨w6.heap.size, 1, none⟩ = some (.int .i64 o2) ∧ w'.cell? ⟨w6.heap.size, 2, none⟩ = some (.bool false)) (simp [*, go_sem]) (fail)
 go_wp2
 refine bodyPost_ret (v := .tuple #[.agg #[.string u1, .int .i64 o1, .bool false], .bool r1, .agg #[.string u2, .int .i64 o2, .bool false], .bool r2]) (by simp [results, Tryz.results32, go_sem, World.cell?_setCell_same, World.cell?_setCell_other, *]) rfl ⟨rfl, ?_⟩
 refine Below.drew ?_
 repeat (first | refine Below.setCell ?_ (by first | exact Nat.le_refl _ | (dsimp only; omega)) _ | refine Below.alloc ?_ (by first | exact Nat.le_refl _ | omega | (simp; omega)) _ | refine Below.drew ?_)
 exact F8.out.2.2.2.2.2
theorem rbt_err {b z : Int} {n m : Int} (q0 : (m == 0) = false) (HC : ∀ W, Calls Tryz.prog 17 #[.int .u64 b, .int .i64 z] W fun e w' => e = .returned (.int .i64 m) ∧ Below W.heap.size W w') (w : World) :
 Calls Tryz.prog 14 #[.int .u64 b, .int .i64 z, .int .i64 n] w fun x w' => x = .returned (.tuple #[.bool false, .int .i64 m]) ∧ Below w.heap.size w w' := by
 have F0 : Hid (Below w.heap.size w w) := Below.refl _ _
 go_enter Tryz.func14, Tryz.ntmps14
 go_wp2_with fail
 all_goals first | (exfalso; omega) | skip
 refine (HC _).mono ?_
 rintro o1 w1 ⟨rfl, bb⟩
 have F1 : Hid (Below w.heap.size w w1) := (F0.out).trans (bb.mono (F0.out).size)
 clear F0
 clear bb
 go_wp2
 go_ret2
 exact ⟨rfl, F1.out⟩
theorem rbt_low {b z : Int} {n : Int} (q1 : n < 1) (HC : ∀ W, Calls Tryz.prog 17 #[.int .u64 b, .int .i64 z] W fun e w' => e = .returned (.int .i64 0) ∧ Below W.heap.size W w') (w : World) :
 Calls Tryz.prog 14 #[.int .u64 b, .int .i64 z, .int .i64 n] w fun x w' => x = .returned (.tuple #[.bool false, .int .i64 1]) ∧ Below w.heap.size w w' := by
 have F0 : Hid (Below w.heap.size w w) := Below.refl _ _
 go_enter Tryz.func14, Tryz.ntmps14
 go_wp2_with fail
 all_goals first | (exfalso; omega) | skip
 refine (HC _).mono ?_
 rintro o1 w1 ⟨rfl, bb⟩
 have F1 : Hid (Below w.heap.size w w1) := (F0.out).trans (bb.mono (F0.out).size)
 clear F0
 clear bb
 go_wp2
 go_ret2
 exact ⟨rfl, F1.out⟩
theorem rbt_high {b z : Int} {n : Int} (q1 : ¬ n < 1) (q2 : 17 < n) (HC : ∀ W, Calls Tryz.prog 17 #[.int .u64 b, .int .i64 z] W fun e w' => e = .returned (.int .i64 0) ∧ Below W.heap.size W w') (w : World) :
 Calls Tryz.prog 14 #[.int .u64 b, .int .i64 z, .int .i64 n] w fun x w' => x = .returned (.tuple #[.bool false, .int .i64 1]) ∧ Below w.heap.size w w' := by
 have F0 : Hid (Below w.heap.size w w) := Below.refl _ _
 go_enter Tryz.func14, Tryz.ntmps14
 go_wp2_with fail
 all_goals first | (exfalso; omega) | skip
 refine (HC _).mono ?_
 rintro o1 w1 ⟨rfl, bb⟩
 have F1 : Hid (Below w.heap.size w w1) := (F0.out).trans (bb.mono (F0.out).size)
 clear F0
 clear bb
 go_wp2
 go_ret2
 exact ⟨rfl, F1.out⟩
theorem rbt_mag {b z : Int} {n : Int} (q1 : ¬ n < 1) (q2 : ¬ 17 < n) (HC : ∀ W, Calls Tryz.prog 17 #[.int .u64 b, .int .i64 z] W fun e w' => e = .returned (.int .i64 0) ∧ Below W.heap.size W w') (HM : ∀ W, Calls Tryz.prog 24 #[.int .u64 b, .int .i64 z] W fun e w' => e = .returned (.int .u64 0) ∧ Below W.heap.size W w') (w : World) :
 Calls Tryz.prog 14 #[.int .u64 b, .int .i64 z, .int .i64 n] w fun x w' => x = .returned (.tuple #[.bool false, .int .i64 1]) ∧ Below w.heap.size w w' := by
 have F0 : Hid (Below w.heap.size w w) := Below.refl _ _
 go_enter Tryz.func14, Tryz.ntmps14
 go_wp2_with fail
 all_goals first | (exfalso; omega) | skip
 refine (HC _).mono ?_
 rintro o1 w1 ⟨rfl, bb⟩
 have F1 : Hid (Below w.heap.size w w1) := (F0.out).trans (bb.mono (F0.out).size)
 clear F0
 clear bb
 go_wp2_with fail
 all_goals first | (exfalso; omega) | skip
 refine (HM _).mono ?_
 rintro o2 w2 ⟨rfl, bb⟩
 have F2 : Hid (Below w.heap.size w w2) := (F1.out).trans (bb.mono (F1.out).size)
 clear F1
 clear bb
 go_wp2
 go_ret2
 exact ⟨rfl, F2.out⟩
theorem rbt_yes {b z : Int} {n : Int} {M : Int} {u1 u2 : ByteArray} {o1 o2 : Int} {r2 : Bool} (q1 : ¬ n < 1) (q2 : ¬ 17 < n) (q3 : (M == 0) = false) (HC : ∀ W, Calls Tryz.prog 17 #[.int .u64 b, .int .i64 z] W fun e w' => e = .returned (.int .i64 0) ∧ Below W.heap.size W w') (HM : ∀ W, Calls Tryz.prog 24 #[.int .u64 b, .int .i64 z] W fun e w' => e = .returned (.int .u64 M) ∧ Below W.heap.size W w') (HN : ∀ W, Calls Tryz.prog 32 #[.int .u64 b, .int .i64 z, .int .i64 n] W fun e w' => e = .returned (.tuple #[.agg #[.string u1, .int .i64 o1, .bool false], .bool true, .agg #[.string u2, .int .i64 o2, .bool false], .bool r2]) ∧ Below W.heap.size W w') (w : World) :
 Calls Tryz.prog 14 #[.int .u64 b, .int .i64 z, .int .i64 n] w fun x w' => x = .returned (.tuple #[.bool true, .int .i64 0]) ∧ Below w.heap.size w w' := by
 have F0 : Hid (Below w.heap.size w w) := Below.refl _ _
 go_enter Tryz.func14, Tryz.ntmps14
 go_wp2_with fail
 all_goals first | (exfalso; omega) | skip
 refine (HC _).mono ?_
 rintro o1 w1 ⟨rfl, bb⟩
 have F1 : Hid (Below w.heap.size w w1) := (F0.out).trans (bb.mono (F0.out).size)
 clear F0
 clear bb
 go_wp2_with fail
 all_goals first | (exfalso; omega) | skip
 refine (HM _).mono ?_
 rintro o2 w2 ⟨rfl, bb⟩
 have F2 : Hid (Below w.heap.size w w2) := (F1.out).trans (bb.mono (F1.out).size)
 clear F1
 clear bb
 go_wp2_with fail
 all_goals first | (exfalso; omega) | skip
 refine (HN _).mono ?_
 rintro o3 w3 ⟨rfl, bb⟩
 have F3 : Hid (Below w.heap.size w w3) := (F2.out).trans (bb.mono (F2.out).size)
 clear F2
 clear bb
 have le0 := (F3.out).size
 have F4 : Hid (Bk ((w3.alloc (.cells #[.string u1, .int .i64 o1, .bool false] 24)).alloc (.cells #[.string u2, .int .i64 o2, .bool false] 24)) (w3.heap.size) [.string u1, .int .i64 o1, .bool false] ∧ Bk ((w3.alloc (.cells #[.string u1, .int .i64 o1, .bool false] 24)).alloc (.cells #[.string u2, .int .i64 o2, .bool false] 24)) (w3.heap.size + 1) [.string u2, .int .i64 o2, .bool false] ∧ Below w.heap.size w ((w3.alloc (.cells #[.string u1, .int .i64 o1, .bool false] 24)).alloc (.cells #[.string u2, .int .i64 o2, .bool false] 24))) := ⟨(Bk.new3 w3 (.string u1) (.int .i64 o1) (.bool false) 24).step ((Below.refl _ _).alloc (Nat.le_refl _) _), ((by have q := Bk.new3 (w3.alloc (.cells #[.string u1, .int .i64 o1, .bool false] 24)) (.string u2) (.int .i64 o2) (.bool false) 24; simpa using q) : Bk ((w3.alloc (.cells #[.string u1, .int .i64 o1, .bool false] 24)).alloc (.cells #[.string u2, .int .i64 o2, .bool false] 24)) (w3.heap.size + 1) [.string u2, .int .i64 o2, .bool false]), ((F3.out).alloc ((F3.out).size) _).alloc (((F3.out).alloc ((F3.out).size) _).size) _⟩
 clear F3
 go_upto_region 7 with fail
 generalize ((w3.alloc (.cells #[.string u1, .int .i64 o1, .bool false] 24)).alloc (.cells #[.string u2, .int .i64 o2, .bool false] 24)) = w4 at *
 go_wp2
 go_ret2
 exact ⟨rfl, F4.out.2.2⟩
theorem rbt_no {b z : Int} {n : Int} {M : Int} {u1 u2 : ByteArray} {o1 o2 : Int} {r2 : Bool} (q1 : ¬ n < 1) (q2 : ¬ 17 < n) (q3 : (M == 0) = false) (HC : ∀ W, Calls Tryz.prog 17 #[.int .u64 b, .int .i64 z] W fun e w' => e = .returned (.int .i64 0) ∧ Below W.heap.size W w') (HM : ∀ W, Calls Tryz.prog 24 #[.int .u64 b, .int .i64 z] W fun e w' => e = .returned (.int .u64 M) ∧ Below W.heap.size W w') (HN : ∀ W, Calls Tryz.prog 32 #[.int .u64 b, .int .i64 z, .int .i64 n] W fun e w' => e = .returned (.tuple #[.agg #[.string u1, .int .i64 o1, .bool false], .bool false, .agg #[.string u2, .int .i64 o2, .bool false], .bool r2]) ∧ Below W.heap.size W w') (w : World) :
 Calls Tryz.prog 14 #[.int .u64 b, .int .i64 z, .int .i64 n] w fun x w' => x = .returned (.tuple #[.bool r2, .int .i64 0]) ∧ Below w.heap.size w w' := by
 have F0 : Hid (Below w.heap.size w w) := Below.refl _ _
 go_enter Tryz.func14, Tryz.ntmps14
 go_wp2_with fail
 all_goals first | (exfalso; omega) | skip
 refine (HC _).mono ?_
 rintro o1 w1 ⟨rfl, bb⟩
 have F1 : Hid (Below w.heap.size w w1) := (F0.out).trans (bb.mono (F0.out).size)
 clear F0
 clear bb
 go_wp2_with fail
 all_goals first | (exfalso; omega) | skip
 refine (HM _).mono ?_
 rintro o2 w2 ⟨rfl, bb⟩
 have F2 : Hid (Below w.heap.size w w2) := (F1.out).trans (bb.mono (F1.out).size)
 clear F1
 clear bb
 go_wp2_with fail
 all_goals first | (exfalso; omega) | skip
 refine (HN _).mono ?_
 rintro o3 w3 ⟨rfl, bb⟩
 have F3 : Hid (Below w.heap.size w w3) := (F2.out).trans (bb.mono (F2.out).size)
 clear F2
 clear bb
 have le0 := (F3.out).size
 have F4 : Hid (Bk ((w3.alloc (.cells #[.string u1, .int .i64 o1, .bool false] 24)).alloc (.cells #[.string u2, .int .i64 o2, .bool false] 24)) (w3.heap.size) [.string u1, .int .i64 o1, .bool false] ∧ Bk ((w3.alloc (.cells #[.string u1, .int .i64 o1, .bool false] 24)).alloc (.cells #[.string u2, .int .i64 o2, .bool false] 24)) (w3.heap.size + 1) [.string u2, .int .i64 o2, .bool false] ∧ Below w.heap.size w ((w3.alloc (.cells #[.string u1, .int .i64 o1, .bool false] 24)).alloc (.cells #[.string u2, .int .i64 o2, .bool false] 24))) := ⟨(Bk.new3 w3 (.string u1) (.int .i64 o1) (.bool false) 24).step ((Below.refl _ _).alloc (Nat.le_refl _) _), ((by have q := Bk.new3 (w3.alloc (.cells #[.string u1, .int .i64 o1, .bool false] 24)) (.string u2) (.int .i64 o2) (.bool false) 24; simpa using q) : Bk ((w3.alloc (.cells #[.string u1, .int .i64 o1, .bool false] 24)).alloc (.cells #[.string u2, .int .i64 o2, .bool false] 24)) (w3.heap.size + 1) [.string u2, .int .i64 o2, .bool false]), ((F3.out).alloc ((F3.out).size) _).alloc (((F3.out).alloc ((F3.out).size) _).size) _⟩
 clear F3
 go_upto_region 7 with fail
 generalize ((w3.alloc (.cells #[.string u1, .int .i64 o1, .bool false] 24)).alloc (.cells #[.string u2, .int .i64 o2, .bool false] 24)) = w4 at *
 go_wp2
 go_ret2
 exact ⟨rfl, F4.out.2.2⟩
end Go.Proofs.YtdfefjcobeopbaaGreatDoor
