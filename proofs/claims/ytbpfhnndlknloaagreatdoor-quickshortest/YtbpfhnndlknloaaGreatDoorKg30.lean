/-
  Holds: VPpO IvR IvQ SoHc QkE IvS IvV IvW.
-/
import Derived.Test.YtbpfhnndlknloaaGreatDoorRows
import Derived.Laws.Externs
import Derived.WalkKit
import Derived.WalkSpells
import Derived.WalkLawsBesides
import Derived.Lib.Mul64
import Derived.Stop.Asserts
import Derived.RowKitTokens
import Derived.Lib.Strings
import Derived.Lib.BufferWrite
import Derived.Deep.OwnRows
import Derived.Deep.RegionHeld3
import Derived.BigQuiet
import Derived.Lib.ConvBytes
import Derived.Laws.CopyOwn
import Derived.Lib.TrailingZeros
import Derived.Lib.ItoaNum
import Derived.Deep.LoopGhost
import Derived.Deep.AppendLies
import Derived.Deep.DeepCutAuto
import Derived.Test.YtbpfhnndlknloaaGreatDoorKg28
import Derived.Test.YtbpfhnndlknloaaGreatDoorKg29
set_option maxRecDepth 100000
set_option maxHeartbeats 4000000
namespace Go.Proofs.YtbpfhnndlknloaaGreatDoor
open Go.RowKit
theorem dsmall_word (x : Nat) (hx : x < 18446744073709551616) (w : World) :
 Calls Tryz.prog 50 #[.int .u64 (x : Int)] w fun e w' => ∃ v, e = .returned v ∧ Big.D.NatV w' v x ∧ Below w.heap.size w w' := by
 obtain ⟨a, ha⟩ : ∃ a, a = x % 4294967296 := ⟨_, rfl⟩
 obtain ⟨b, hb⟩ : ∃ b, b = x / 4294967296 := ⟨_, rfl⟩
 have e1 : (x : Int) % 4294967296 = (a : Int) := by omega
 have e2 : (x : Int) / 4294967296 = (b : Int) := by omega
 have l1 : a < 4294967296 := by omega
 have l2 : b < 4294967296 := by omega
 have hx2 : x = a + b * 4294967296 := by omega
 clear ha hb
 have S : Big.D.Sl (w.alloc (.cells #[.int .u64 (a : Int), .int .u64 (b : Int)] 22)) (some ⟨w.heap.size, 0, none⟩) 2 2 w.heap.size 0 (fun i => if i = 0 then a else if i = 1 then b else 0) := by
  refine ⟨Nat.le_refl _, by unfold maxLen; omega, fun _ => rfl, fun _ => by simp, fun i hi => ?_, fun i => ?_⟩
  · rcases (by omega : i = 0 ∨ i = 1) with rfl | rfl <;> simp
  · show (if i = 0 then a else if i = 1 then b else 0) < 4294967296
    split
    · exact l1
    · split
      · exact l2
      · decide
 have T := Big.D.trim_any S
 have hV : Big.V (fun i => if i = 0 then a else if i = 1 then b else 0) 2 = x := by
  rw [Big.V_succ, Big.V_succ, Big.V_zero, show Big.B ^ 0 = 1 from rfl, show Big.B ^ 1 = 4294967296 from rfl]
  simp
  omega
 have N := S.trimmed
 rw [hV] at N
 have HN : Hid _ := N
 clear N S hV hx2
 go_enter Tryz.func50, Tryz.ntmps50
 go_wp2_with fail
 refine T.mono ?_
 rintro e wa ⟨rfl, rfl⟩
 go_wp2
 go_ret
 exact ⟨_, rfl, HN.out, (Below.refl _ _).alloc (Nat.le_refl _) _⟩
theorem word_fits {m : Nat} (hm : m ≤ 18014398509481984) : Fits 2 m := Fits.word (n := 1) (by unfold B; omega)
theorem five_fit {k : Nat} (h : k ≤ 1075) : Fits 200 (5 ^ k) := by
 have a : 5 ^ k ≤ 8 ^ k := Nat.pow_le_pow_left (by omega) k
 rw [show 8 = 2 ^ 3 from rfl, ← Nat.pow_mul] at a
 exact (two_fits (s := 3 * k) (k := 200) (by omega)).le a
theorem rdec_up {m j : Nat} (h : Kj m 0 j) (m0 : 0 < m) {s : ByteArray} {q : Int} (D : Dx s q (fv m (j : Int))) {w : World} {va : Value} (ha : Big.D.NatV w va m) :
 Calls Tryz.prog 49 #[va, .int .i64 (j : Int)] w fun x w' => x = .returned (dcV s q false) ∧ Below w.heap.size w w' := by
 have hj := h.hj
 have ej : m * 2 ^ j = wh m 0 j := by unfold wh; rw [Nat.pow_zero, Nat.mul_one]
 have fW : Fits 400 (wh m 0 j) := by rw [← ej]; exact ((word_fits h.hm).mul (two_fits (s := j) (k := 100) (by omega))).up (by omega)
 have D' : Dx s q (fv m ((j : Int) - ((0 : Nat) : Int))) := by rw [show (j : Int) - ((0 : Nat) : Int) = (j : Int) by omega]; exact D
 have HX : Hid (wh m 0 j ≠ 0 ∧ Fits 400 (wh m 0 j) ∧ ∀ t, Tx (wh m 0 j) t → t.size ≤ 800 ∧ ∀ W, Calls Tryz.prog 86 #[.string t, .int .i64 (t.size : Int), .bool false] W fun e w' => e = .returned (.tuple #[dcV s q false, .int .i64 0]) ∧ Below W.heap.size W w') := by
  refine ⟨Nat.ne_of_gt (wh_pos m0 0 j), fW, fun t T => ?_⟩
  obtain ⟨a, b⟩ := h.lens m0 T
  refine ⟨b, fun W => ?_⟩
  have M := h.rmake m0 D' T W
  rw [show (t.size : Int) - ((0 : Nat) : Int) = (t.size : Int) by omega] at M
  exact M
 have F0 : Hid (Bk (w.alloc (.cells #[.string ⟨#[]⟩, .int .i64 0, .bool false] 24)) w.heap.size [.string ⟨#[]⟩, .int .i64 0, .bool false] ∧ Below w.heap.size w (w.alloc (.cells #[.string ⟨#[]⟩, .int .i64 0, .bool false] 24)) ∧ Big.D.NatV (w.alloc (.cells #[.string ⟨#[]⟩, .int .i64 0, .bool false] 24)) va m) := ⟨Bk.new3 w _ _ _ _, (Below.refl _ _).alloc (Nat.le_refl _) _, ha.below ((Below.refl _ _).alloc (Nat.le_refl _) _)⟩
 have SH : ∀ W v, Big.D.NatV W v m → Calls Tryz.prog 85 #[v, .int .i64 (j : Int)] W fun e w' => ∃ v, e = .returned v ∧ Big.D.NatV w' v (wh m 0 j) ∧ Below W.heap.size W w' := fun W v hv => by
  rw [← ej]
  exact (dshl_new hv ((word_fits h.hm).up (by omega)) j (by omega)).mono fun e w' ⟨x, a, b, c⟩ => ⟨x, a, b.nat, c⟩
 generalize wh m 0 j = X at *
 clear D D' fW ej h m0 ha
 unfold dcV at *
 go_enter Tryz.func49, Tryz.ntmps49
 go_wp2_with fail
 all_goals first | (exfalso; omega) | skip
 refine (SH _ _ F0.out.2.2).mono ?_
 rintro o w1 ⟨v1, rfl, n1, b1⟩
 have F1 : Hid (Bk w1 w.heap.size [.string ⟨#[]⟩, .int .i64 0, .bool false] ∧ Below w.heap.size w w1 ∧ Big.D.NatV w1 v1 X) := ⟨F0.out.1.step b1, F0.out.2.1.trans (b1.mono F0.out.2.1.size), n1⟩
 clear b1 n1 SH F0
 have DD := decimal_ok F1.out.2.2 HX.out.1 HX.out.2.1
 go_wp2_with fail
 all_goals first | (exfalso; omega) | skip
 refine DD.mono ?_
 rintro o w2 ⟨t, rfl, T, b2⟩
 obtain ⟨ts, MK⟩ := HX.out.2.2 t T
 have F2 : Hid (Bk w2 w.heap.size [.string ⟨#[]⟩, .int .i64 0, .bool false] ∧ Below w.heap.size w w2) := ⟨F1.out.1.step b2, F1.out.2.1.trans (b2.mono F1.out.2.1.size)⟩
 clear b2 T DD F1 HX
 go_wp2_with fail
 refine (MK _).mono ?_
 rintro o w6 ⟨rfl, b6⟩
 have F6 : Hid (Bk w6 w.heap.size [.string ⟨#[]⟩, .int .i64 0, .bool false] ∧ Below w.heap.size w w6) := ⟨F2.out.1.step b6, F2.out.2.trans (b6.mono F2.out.2.size)⟩
 clear b6 MK F2
 have l6 := F6.out.1.lt
 have a0 := F6.out.1.cell 0 _ rfl
 have a1 := F6.out.1.cell 1 _ rfl
 have a2 := F6.out.1.cell 2 _ rfl
 have f0 := F6.out.1.fz 0
 have f1 := F6.out.1.fz 1
 have f2 := F6.out.1.fz 2
 go_wp2
 exact bodyPost_ret (v := .agg #[.string s, .int .i64 q, .bool false]) (by simp [results, Tryz.results49, go_sem, World.cell?_setCell_same, World.cell?_setCell_other, *]) rfl ⟨rfl, (((F6.out.2.setCell (Nat.le_refl _) _).setCell (Nat.le_refl _) _).setCell (Nat.le_refl _) _).alloc (by simpa using F6.out.2.size) _⟩
theorem rdec_dn {m k : Nat} (h : Kj m k 0) (k0 : 0 < k) (m0 : 0 < m) {s : ByteArray} {q : Int} (D : Dx s q (fv m (-(k : Int)))) {w : World} {va : Value} (ha : Big.D.NatV w va m) :
 Calls Tryz.prog 49 #[va, .int .i64 (-(k : Int))] w fun x w' => x = .returned (dcV s q false) ∧ Below w.heap.size w w' := by
 have hk := h.hk
 have ej : m * 5 ^ k = wh m k 0 := by unfold wh; rw [Nat.pow_zero, Nat.mul_one]
 have fW : Fits 400 (wh m k 0) := by rw [← ej]; exact ((word_fits h.hm).mul (five_fit h.hk)).up (by omega)
 have D' : Dx s q (fv m (((0 : Nat) : Int) - (k : Int))) := by rw [show ((0 : Nat) : Int) - (k : Int) = -(k : Int) by omega]; exact D
 have HX : Hid (wh m k 0 ≠ 0 ∧ Fits 400 (wh m k 0) ∧ ∀ t, Tx (wh m k 0) t → t.size ≤ 800 ∧ ∀ W, Calls Tryz.prog 86 #[.string t, .int .i64 ((t.size : Int) - (k : Int)), .bool false] W fun e w' => e = .returned (.tuple #[dcV s q false, .int .i64 0]) ∧ Below W.heap.size W w') := by
  refine ⟨Nat.ne_of_gt (wh_pos m0 k 0), fW, fun t T => ?_⟩
  obtain ⟨a, b⟩ := h.lens m0 T
  exact ⟨b, fun W => h.rmake m0 D' T W⟩
 have F0 : Hid (Bk (w.alloc (.cells #[.string ⟨#[]⟩, .int .i64 0, .bool false] 24)) w.heap.size [.string ⟨#[]⟩, .int .i64 0, .bool false] ∧ Below w.heap.size w (w.alloc (.cells #[.string ⟨#[]⟩, .int .i64 0, .bool false] 24)) ∧ Big.D.NatV (w.alloc (.cells #[.string ⟨#[]⟩, .int .i64 0, .bool false] 24)) va m) := ⟨Bk.new3 w _ _ _ _, (Below.refl _ _).alloc (Nat.le_refl _) _, ha.below ((Below.refl _ _).alloc (Nat.le_refl _) _)⟩
 have PW := fun W => dpow_any 5 k (by decide) (by decide) (by omega) W
 simp only [Int.cast_ofNat_Int] at PW
 have MU : ∀ W v u, Big.D.NatV W v m → Big.D.NatV W u (5 ^ k) → Calls Tryz.prog 87 #[v, u] W fun e w' => ∃ v, e = .returned v ∧ Big.D.NatV w' v (wh m k 0) ∧ Below W.heap.size W w' := fun W v u hv hu => by
  rw [← ej]
  exact dmul_nat hv hu ((word_fits h.hm).up (by omega)) ((five_fit h.hk).up (by omega))
 generalize wh m k 0 = X at *
 clear D D' fW ej h m0 ha
 generalize 5 ^ k = F at *
 unfold dcV at *
 have kn : ¬ 0 ≤ -(k : Int) := by omega
 go_enter Tryz.func49, Tryz.ntmps49
 go_wp2_with fail
 all_goals first | (exfalso; omega) | skip
 try rw [Int.neg_neg]
 refine (PW _).mono ?_
 rintro o w0 ⟨v0, rfl, n0, b0⟩
 have F00 : Hid (Bk w0 w.heap.size [.string ⟨#[]⟩, .int .i64 0, .bool false] ∧ Below w.heap.size w w0 ∧ Big.D.NatV w0 va m ∧ Big.D.NatV w0 v0 F) := ⟨F0.out.1.step b0, F0.out.2.1.trans (b0.mono F0.out.2.1.size), F0.out.2.2.below b0, n0⟩
 clear b0 n0 PW F0
 go_wp2_with fail
 all_goals first | (exfalso; omega) | skip
 refine (MU _ _ _ F00.out.2.2.1 F00.out.2.2.2).mono ?_
 rintro o w1 ⟨v1, rfl, n1, b1⟩
 have F1 : Hid (Bk w1 w.heap.size [.string ⟨#[]⟩, .int .i64 0, .bool false] ∧ Below w.heap.size w w1 ∧ Big.D.NatV w1 v1 X) := ⟨F00.out.1.step b1, F00.out.2.1.trans (b1.mono F00.out.2.1.size), n1⟩
 clear b1 n1 MU F00
 have DD := decimal_ok F1.out.2.2 HX.out.1 HX.out.2.1
 go_wp2_with fail
 all_goals first | (exfalso; omega) | skip
 refine DD.mono ?_
 rintro o w2 ⟨t, rfl, T, b2⟩
 obtain ⟨ts, MK⟩ := HX.out.2.2 t T
 have F2 : Hid (Bk w2 w.heap.size [.string ⟨#[]⟩, .int .i64 0, .bool false] ∧ Below w.heap.size w w2) := ⟨F1.out.1.step b2, F1.out.2.1.trans (b2.mono F1.out.2.1.size)⟩
 clear b2 T DD F1 HX
 have e1 : (t.size : Int) + -(k : Int) = (t.size : Int) - (k : Int) := by omega
 go_wp2_with fail
 all_goals first | (exfalso; omega) | skip
 refine (MK _).mono ?_
 rintro o w6 ⟨rfl, b6⟩
 have F6 : Hid (Bk w6 w.heap.size [.string ⟨#[]⟩, .int .i64 0, .bool false] ∧ Below w.heap.size w w6) := ⟨F2.out.1.step b6, F2.out.2.trans (b6.mono F2.out.2.size)⟩
 clear b6 MK F2
 have l6 := F6.out.1.lt
 have a0 := F6.out.1.cell 0 _ rfl
 have a1 := F6.out.1.cell 1 _ rfl
 have a2 := F6.out.1.cell 2 _ rfl
 have f0 := F6.out.1.fz 0
 have f1 := F6.out.1.fz 1
 have f2 := F6.out.1.fz 2
 go_wp2
 exact bodyPost_ret (v := .agg #[.string s, .int .i64 q, .bool false]) (by simp [results, Tryz.results49, go_sem, World.cell?_setCell_same, World.cell?_setCell_other, *]) rfl ⟨rfl, (((F6.out.2.setCell (Nat.le_refl _) _).setCell (Nat.le_refl _) _).setCell (Nat.le_refl _) _).alloc (by simpa using F6.out.2.size) _⟩
theorem decimal_zero {w : World} {va : Value} (ha : Big.D.NatV w va 0) :
 Calls Tryz.prog 84 #[va] w fun e w' => e = .returned (.string ⟨#[48]⟩) ∧ Below w.heap.size w w' := by
 obtain ⟨ao, n, c, b, o, f, rfl, S, tp, hv⟩ := ha
 obtain rfl : n = 0 := by
  apply Nat.eq_zero_of_not_pos
  intro z
  have q := Big.Top_ge tp z
  have := Nat.pow_pos (n := n - 1) Big.B_pos
  omega
 obtain ⟨i0, hi, hz0, hz1, hz2⟩ := info_parts Big.D.info_u64
 have HS : Hid (c ≤ maxLen) := S.cap
 clear tp hv S
 cases ao
 all_goals
  go_enter Tryz.func84, Tryz.ntmps84
  go_wp2_with fail
  go_loop [3, 4, 5, 6, 7, 8] (fun sv bv _ _ _ _ => sv = .string ⟨#[]⟩ ∧ bv = .slice none 0 0) (fun _ _ _ _ _ _ => 0)
  case atStart => exact ⟨rfl, rfl⟩
  case round =>
   obtain ⟨rfl, rfl⟩ := hrel
   go_wp2
   go_ret
   exact ⟨rfl, Below.refl _ _⟩
theorem rdec_zero {k : Nat} (k0 : 0 < k) (hk : k ≤ 1075) {w : World} {va : Value} (ha : Big.D.NatV w va 0) :
 Calls Tryz.prog 49 #[va, .int .i64 (-(k : Int))] w fun x w' => x = .returned (dcV ⟨#[]⟩ 0 false) ∧ Below w.heap.size w w' := by
 have F0 : Hid (Bk (w.alloc (.cells #[.string ⟨#[]⟩, .int .i64 0, .bool false] 24)) w.heap.size [.string ⟨#[]⟩, .int .i64 0, .bool false] ∧ Below w.heap.size w (w.alloc (.cells #[.string ⟨#[]⟩, .int .i64 0, .bool false] 24)) ∧ Big.D.NatV (w.alloc (.cells #[.string ⟨#[]⟩, .int .i64 0, .bool false] 24)) va 0) := ⟨Bk.new3 w _ _ _ _, (Below.refl _ _).alloc (Nat.le_refl _) _, ha.below ((Below.refl _ _).alloc (Nat.le_refl _) _)⟩
 have PW := fun W => dpow_any 5 k (by decide) (by decide) (by omega) W
 simp only [Int.cast_ofNat_Int] at PW
 have MU : ∀ W v u, Big.D.NatV W v 0 → Big.D.NatV W u (5 ^ k) → Calls Tryz.prog 87 #[v, u] W fun e w' => ∃ v, e = .returned v ∧ Big.D.NatV w' v 0 ∧ Below W.heap.size W w' := fun W v u hv hu => by
  have q := dmul_nat hv hu ((word_fits (Nat.zero_le _)).up (by omega)) ((five_fit hk).up (by omega))
  rw [Nat.zero_mul] at q
  exact q
 have MK : ∀ W, Calls Tryz.prog 86 #[.string ⟨#[48]⟩, .int .i64 (1 - (k : Int)), .bool false] W fun e w' => e = .returned (.tuple #[dcV ⟨#[]⟩ 0 false, .int .i64 0]) ∧ Below W.heap.size W w' := fun W =>
  rmake_zero (t := ⟨#[48]⟩) (by decide) dg_nought (z := 1) rfl (fun i hi => by
   have : i = 0 := by omega
   subst this
   decide) W
 clear ha
 generalize 5 ^ k = F at *
 unfold dcV at *
 have kn : ¬ 0 ≤ -(k : Int) := by omega
 go_enter Tryz.func49, Tryz.ntmps49
 go_wp2_with fail
 all_goals first | (exfalso; omega) | skip
 try rw [Int.neg_neg]
 refine (PW _).mono ?_
 rintro o w0 ⟨v0, rfl, n0, b0⟩
 have F00 : Hid (Bk w0 w.heap.size [.string ⟨#[]⟩, .int .i64 0, .bool false] ∧ Below w.heap.size w w0 ∧ Big.D.NatV w0 va 0 ∧ Big.D.NatV w0 v0 F) := ⟨F0.out.1.step b0, F0.out.2.1.trans (b0.mono F0.out.2.1.size), F0.out.2.2.below b0, n0⟩
 clear b0 n0 PW F0
 go_wp2_with fail
 all_goals first | (exfalso; omega) | skip
 refine (MU _ _ _ F00.out.2.2.1 F00.out.2.2.2).mono ?_
 rintro o w1 ⟨v1, rfl, n1, b1⟩
 have F1 : Hid (Bk w1 w.heap.size [.string ⟨#[]⟩, .int .i64 0, .bool false] ∧ Below w.heap.size w w1 ∧ Big.D.NatV w1 v1 0) := ⟨F00.out.1.step b1, F00.out.2.1.trans (b1.mono F00.out.2.1.size), n1⟩
 clear b1 n1 MU F00
 have DD := decimal_zero F1.out.2.2
 go_wp2_with fail
 all_goals first | (exfalso; omega) | skip
 refine DD.mono ?_
 rintro o w2 ⟨rfl, b2⟩
 have F2 : Hid (Bk w2 w.heap.size [.string ⟨#[]⟩, .int .i64 0, .bool false] ∧ Below w.heap.size w w2) := ⟨F1.out.1.step b2, F1.out.2.1.trans (b2.mono F1.out.2.1.size)⟩
 clear b2 DD F1
 have e1 : (1 : Int) + -(k : Int) = 1 - (k : Int) := by omega
 go_wp2_with fail
 all_goals first | (exfalso; omega) | skip
 refine (MK _).mono ?_
 rintro o w6 ⟨rfl, b6⟩
 have F6 : Hid (Bk w6 w.heap.size [.string ⟨#[]⟩, .int .i64 0, .bool false] ∧ Below w.heap.size w w6) := ⟨F2.out.1.step b6, F2.out.2.trans (b6.mono F2.out.2.size)⟩
 clear b6 MK F2
 have l6 := F6.out.1.lt
 have a0 := F6.out.1.cell 0 _ rfl
 have a1 := F6.out.1.cell 1 _ rfl
 have a2 := F6.out.1.cell 2 _ rfl
 have f0 := F6.out.1.fz 0
 have f1 := F6.out.1.fz 1
 have f2 := F6.out.1.fz 2
 go_wp2
 exact bodyPost_ret (v := .agg #[.string ⟨#[]⟩, .int .i64 0, .bool false]) (by simp [results, Tryz.results49, go_sem, World.cell?_setCell_same, World.cell?_setCell_other, *]) rfl ⟨rfl, (((F6.out.2.setCell (Nat.le_refl _) _).setCell (Nat.le_refl _) _).setCell (Nat.le_refl _) _).alloc (by simpa using F6.out.2.size) _⟩
theorem rdec_any {m : Nat} {e : Int} (hm : m ≤ 18014398509481984) (h1 : -1075 ≤ e) (h2 : e ≤ 971) (h0 : 0 < m ∨ e < 0) {s : ByteArray} {q : Int} (D : Dx s q (fv m e)) {w : World} {va : Value} (ha : Big.D.NatV w va m) :
 Calls Tryz.prog 49 #[va, .int .i64 e] w fun x w' => x = .returned (dcV s q false) ∧ Below w.heap.size w w' := by
 rcases Int.lt_or_le e 0 with c | c
 · obtain ⟨k, rfl⟩ : ∃ k : Nat, e = -(k : Int) := ⟨(-e).toNat, by omega⟩
   by_cases m0 : 0 < m
   · exact rdec_dn ⟨hm, by omega, by omega, Or.inr rfl⟩ (by omega) m0 D ha
   · obtain rfl : m = 0 := by omega
     rw [fv_zero] at D
     obtain ⟨rfl, rfl⟩ := D.uniq dx_nought
     exact rdec_zero (by omega) (by omega) ha
 · obtain ⟨j, rfl⟩ : ∃ j : Nat, e = (j : Int) := ⟨e.toNat, by omega⟩
   exact rdec_up ⟨hm, by omega, by omega, Or.inl rfl⟩ (by omega) D ha
theorem chk_ok {b z : Int} {k : Int} (q1 : k < 3) (HC : ∀ W, Calls Tryz.prog 17 #[.int .u64 b, .int .i64 z] W fun e w' => e = .returned (.int .i64 0) ∧ Below W.heap.size W w') (HO : ∀ W, Calls Tryz.prog 18 #[.int .u64 b, .int .i64 z] W fun e w' => e = .returned (.int .i64 k) ∧ Below W.heap.size W w') (w : World) :
 Calls Tryz.prog 48 #[.int .u64 b, .int .i64 z] w fun x w' => x = .returned (.int .i64 0) ∧ Below w.heap.size w w' := by
 have F0 : Hid (Below w.heap.size w w) := Below.refl _ _
 go_enter Tryz.func48, Tryz.ntmps48
 go_wp2_with fail
 all_goals first | (exfalso; omega) | skip
 refine (HC _).mono ?_
 rintro o1 w1 ⟨rfl, bb⟩
 have F1 : Hid (Below w.heap.size w w1) := (F0.out).trans (bb.mono (F0.out).size)
 clear F0
 clear bb
 go_wp2_with fail
 all_goals first | (exfalso; omega) | skip
 refine (HO _).mono ?_
 rintro o2 w2 ⟨rfl, bb⟩
 have F2 : Hid (Below w.heap.size w w2) := (F1.out).trans (bb.mono (F1.out).size)
 clear F1
 clear bb
 go_wp2
 go_ret
 exact ⟨rfl, F2.out⟩
theorem rex_ok {b z : Int} {m : Nat} {E : Int} {s : ByteArray} {p : Int} (hm : m < 18446744073709551616) (HC : ∀ W, Calls Tryz.prog 48 #[.int .u64 b, .int .i64 z] W fun e w' => e = .returned (.int .i64 0) ∧ Below W.heap.size W w') (HP : ∀ W, Calls Tryz.prog 20 #[.int .u64 b, .int .i64 z] W fun e w' => e = .returned (.tuple #[.int .u64 (m : Int), .int .i64 E]) ∧ Below W.heap.size W w') (HD : ∀ W v, Big.D.NatV W v (m) → Calls Tryz.prog 49 #[v, .int .i64 E] W fun e w' => e = .returned (.agg #[.string s, .int .i64 p, .bool false]) ∧ Below W.heap.size W w') (w : World) :
 Calls Tryz.prog 21 #[.int .u64 b, .int .i64 z] w fun x w' => x = .returned (.tuple #[.agg #[.string s, .int .i64 p, .bool false], .int .i64 0]) ∧ Below w.heap.size w w' := by
 have F0 : Hid (Bk (w.alloc (.cells #[.string ⟨#[]⟩, .int .i64 0, .bool false] 24)) (w.heap.size) [.string ⟨#[]⟩, .int .i64 0, .bool false] ∧ Below w.heap.size w (w.alloc (.cells #[.string ⟨#[]⟩, .int .i64 0, .bool false] 24))) := ⟨Bk.new3 w (.string ⟨#[]⟩) (.int .i64 0) (.bool false) 24, ((Below.refl w.heap.size w)).alloc (Nat.le_refl _) _⟩
 go_enter Tryz.func21, Tryz.ntmps21
 go_upto_region 1 with fail
 generalize (w.alloc (.cells #[.string ⟨#[]⟩, .int .i64 0, .bool false] 24)) = w1 at *
 have SM := fun W => dsmall_word m hm W
 go_wp2_with fail
 all_goals first | (exfalso; omega) | skip
 refine (HC _).mono ?_
 rintro o2 w2 ⟨rfl, bb⟩
 have F1 : Hid (Bk w2 (w.heap.size) [.string ⟨#[]⟩, .int .i64 0, .bool false] ∧ Below w.heap.size w w2) := ⟨(F0.out.1).step bb, (F0.out.2).trans (bb.mono (F0.out.2).size)⟩
 clear F0
 clear bb
 go_wp2_with fail
 all_goals first | (exfalso; omega) | skip
 refine (HP _).mono ?_
 rintro o3 w3 ⟨rfl, bb⟩
 have F2 : Hid (Bk w3 (w.heap.size) [.string ⟨#[]⟩, .int .i64 0, .bool false] ∧ Below w.heap.size w w3) := ⟨(F1.out.1).step bb, (F1.out.2).trans (bb.mono (F1.out.2).size)⟩
 clear F1
 clear bb
 go_wp2_with fail
 all_goals first | (exfalso; omega) | skip
 refine (SM _).mono ?_
 rintro o4 w4 ⟨v1, rfl, nn, bb⟩
 have F3 : Hid (Bk w4 (w.heap.size) [.string ⟨#[]⟩, .int .i64 0, .bool false] ∧ Big.D.NatV w4 v1 (m) ∧ Below w.heap.size w w4) := ⟨(F2.out.1).step bb, nn, (F2.out.2).trans (bb.mono (F2.out.2).size)⟩
 clear F2
 clear bb nn
 go_wp2_with fail
 all_goals first | (exfalso; omega) | skip
 refine (HD _ _ (F3.out.2.1)).mono ?_
 rintro o5 w5 ⟨rfl, bb⟩
 have F4 : Hid (Bk w5 (w.heap.size) [.string ⟨#[]⟩, .int .i64 0, .bool false] ∧ Big.D.NatV w5 v1 (m) ∧ Below w.heap.size w w5) := ⟨(F3.out.1).step bb, (F3.out.2.1).below bb, (F3.out.2.2).trans (bb.mono (F3.out.2.2).size)⟩
 clear F3
 clear bb
 have l1_0 := F4.out.1.lt
 have a1_0_0 := F4.out.1.cell 0 _ rfl
 have f1_0_0 := F4.out.1.fz 0
 have a1_0_1 := F4.out.1.cell 1 _ rfl
 have f1_0_1 := F4.out.1.fz 1
 have a1_0_2 := F4.out.1.cell 2 _ rfl
 have f1_0_2 := F4.out.1.fz 2
 go_wp2
 refine bodyPost_ret (v := .tuple #[.agg #[.string s, .int .i64 p, .bool false], .int .i64 0]) (by simp [results, Tryz.results21, go_sem, World.cell?_setCell_same, World.cell?_setCell_other, *]) rfl ⟨rfl, ?_⟩
 repeat (first | refine Below.setCell ?_ (by first | exact Nat.le_refl _ | (dsimp only; omega)) _ | refine Below.alloc ?_ (by first | exact Nat.le_refl _ | omega | (simp; omega)) _ | refine Below.drew ?_)
 exact F4.out.2.2
theorem wi_0a {s t u : ByteArray} {p q o l h : Int} (q1 : ¬ l ≤ 0)  (HC : ∀ W, Calls Tryz.prog 124 #[.agg #[.string s, .int .i64 p, .bool false], .agg #[.string u, .int .i64 o, .bool false]] W fun e w' => e = .returned (.tuple #[.int .i64 l, .int .i64 0]) ∧ Below W.heap.size W w') (HD : ∀ W, Calls Tryz.prog 124 #[.agg #[.string u, .int .i64 o, .bool false], .agg #[.string t, .int .i64 q, .bool false]] W fun e w' => e = .returned (.tuple #[.int .i64 h, .int .i64 0]) ∧ Below W.heap.size W w') (w : World) :
 Calls Tryz.prog 91 #[.agg #[.string u, .int .i64 o, .bool false], .agg #[.string s, .int .i64 p, .bool false], .agg #[.string t, .int .i64 q, .bool false], .bool true] w fun x w' => x = .returned (.bool false) ∧ Below w.heap.size w w' := by
 have F0 : Hid (Bk (((w.alloc (.cells #[.string u, .int .i64 o, .bool false] 24)).alloc (.cells #[.string s, .int .i64 p, .bool false] 24)).alloc (.cells #[.string t, .int .i64 q, .bool false] 24)) (w.heap.size) [.string u, .int .i64 o, .bool false] ∧ Bk (((w.alloc (.cells #[.string u, .int .i64 o, .bool false] 24)).alloc (.cells #[.string s, .int .i64 p, .bool false] 24)).alloc (.cells #[.string t, .int .i64 q, .bool false] 24)) (w.heap.size + 1) [.string s, .int .i64 p, .bool false] ∧ Bk (((w.alloc (.cells #[.string u, .int .i64 o, .bool false] 24)).alloc (.cells #[.string s, .int .i64 p, .bool false] 24)).alloc (.cells #[.string t, .int .i64 q, .bool false] 24)) (w.heap.size + 1 + 1) [.string t, .int .i64 q, .bool false] ∧ Below w.heap.size w (((w.alloc (.cells #[.string u, .int .i64 o, .bool false] 24)).alloc (.cells #[.string s, .int .i64 p, .bool false] 24)).alloc (.cells #[.string t, .int .i64 q, .bool false] 24))) := ⟨((Bk.new3 w (.string u) (.int .i64 o) (.bool false) 24).step ((Below.refl _ _).alloc (Nat.le_refl _) _)).step ((Below.refl _ _).alloc (Nat.le_refl _) _), (((by have q := Bk.new3 (w.alloc (.cells #[.string u, .int .i64 o, .bool false] 24)) (.string s) (.int .i64 p) (.bool false) 24; simpa using q) : Bk ((w.alloc (.cells #[.string u, .int .i64 o, .bool false] 24)).alloc (.cells #[.string s, .int .i64 p, .bool false] 24)) (w.heap.size + 1) [.string s, .int .i64 p, .bool false])).step ((Below.refl _ _).alloc (Nat.le_refl _) _), ((by have q := Bk.new3 ((w.alloc (.cells #[.string u, .int .i64 o, .bool false] 24)).alloc (.cells #[.string s, .int .i64 p, .bool false] 24)) (.string t) (.int .i64 q) (.bool false) 24; simpa using q) : Bk (((w.alloc (.cells #[.string u, .int .i64 o, .bool false] 24)).alloc (.cells #[.string s, .int .i64 p, .bool false] 24)).alloc (.cells #[.string t, .int .i64 q, .bool false] 24)) (w.heap.size + 1 + 1) [.string t, .int .i64 q, .bool false]), ((((Below.refl w.heap.size w)).alloc (Nat.le_refl _) _).alloc ((((Below.refl w.heap.size w)).alloc (Nat.le_refl _) _).size) _).alloc (((((Below.refl w.heap.size w)).alloc (Nat.le_refl _) _).alloc ((((Below.refl w.heap.size w)).alloc (Nat.le_refl _) _).size) _).size) _⟩
 go_enter Tryz.func91, Tryz.ntmps91
 go_upto_region 1 with fail
 generalize (((w.alloc (.cells #[.string u, .int .i64 o, .bool false] 24)).alloc (.cells #[.string s, .int .i64 p, .bool false] 24)).alloc (.cells #[.string t, .int .i64 q, .bool false] 24)) = w1 at *
 have q0 : ¬ l < 0 := by omega
 have l1_0 := F0.out.1.lt
 have a1_0_0 := F0.out.1.cell 0 _ rfl
 have f1_0_0 := F0.out.1.fz 0
 have a1_0_1 := F0.out.1.cell 1 _ rfl
 have f1_0_1 := F0.out.1.fz 1
 have a1_0_2 := F0.out.1.cell 2 _ rfl
 have f1_0_2 := F0.out.1.fz 2
 have l1_1 := F0.out.2.1.lt
 have a1_1_0 := F0.out.2.1.cell 0 _ rfl
 have f1_1_0 := F0.out.2.1.fz 0
 have a1_1_1 := F0.out.2.1.cell 1 _ rfl
 have f1_1_1 := F0.out.2.1.fz 1
 have a1_1_2 := F0.out.2.1.cell 2 _ rfl
 have f1_1_2 := F0.out.2.1.fz 2
 have l1_2 := F0.out.2.2.1.lt
 have a1_2_0 := F0.out.2.2.1.cell 0 _ rfl
 have f1_2_0 := F0.out.2.2.1.fz 0
 have a1_2_1 := F0.out.2.2.1.cell 1 _ rfl
 have f1_2_1 := F0.out.2.2.1.fz 1
 have a1_2_2 := F0.out.2.2.1.cell 2 _ rfl
 have f1_2_2 := F0.out.2.2.1.fz 2
 have ne1_0_1 : ¬ w.heap.size = w.heap.size + 1 := by omega
 have ne1_0_2 : ¬ w.heap.size = w.heap.size + 1 + 1 := by omega
 have ne1_1_0 : ¬ w.heap.size + 1 = w.heap.size := by omega
 have ne1_1_2 : ¬ w.heap.size + 1 = w.heap.size + 1 + 1 := by omega
 have ne1_2_0 : ¬ w.heap.size + 1 + 1 = w.heap.size := by omega
 have ne1_2_1 : ¬ w.heap.size + 1 + 1 = w.heap.size + 1 := by omega
 go_wp2_with fail
 all_goals first | (exfalso; omega) | skip
 refine (HC _).mono ?_
 rintro o2 w2 ⟨rfl, bb⟩
 have F1 : Hid (Bk w2 (w.heap.size) [.string u, .int .i64 o, .bool false] ∧ Bk w2 (w.heap.size + 1) [.string s, .int .i64 p, .bool false] ∧ Bk w2 (w.heap.size + 1 + 1) [.string t, .int .i64 q, .bool false] ∧ Below w.heap.size w w2) := ⟨(F0.out.1).step bb, (F0.out.2.1).step bb, (F0.out.2.2.1).step bb, (F0.out.2.2.2).trans (bb.mono (F0.out.2.2.2).size)⟩
 clear F0
 clear bb
 clear l1_0 a1_0_0 f1_0_0 a1_0_1 f1_0_1 a1_0_2 f1_0_2 l1_1 a1_1_0 f1_1_0 a1_1_1 f1_1_1 a1_1_2 f1_1_2 l1_2 a1_2_0 f1_2_0 a1_2_1 f1_2_1 a1_2_2 f1_2_2
 have l2_0 := F1.out.1.lt
 have a2_0_0 := F1.out.1.cell 0 _ rfl
 have f2_0_0 := F1.out.1.fz 0
 have a2_0_1 := F1.out.1.cell 1 _ rfl
 have f2_0_1 := F1.out.1.fz 1
 have a2_0_2 := F1.out.1.cell 2 _ rfl
 have f2_0_2 := F1.out.1.fz 2
 have l2_1 := F1.out.2.1.lt
 have a2_1_0 := F1.out.2.1.cell 0 _ rfl
 have f2_1_0 := F1.out.2.1.fz 0
 have a2_1_1 := F1.out.2.1.cell 1 _ rfl
 have f2_1_1 := F1.out.2.1.fz 1
 have a2_1_2 := F1.out.2.1.cell 2 _ rfl
 have f2_1_2 := F1.out.2.1.fz 2
 have l2_2 := F1.out.2.2.1.lt
 have a2_2_0 := F1.out.2.2.1.cell 0 _ rfl
 have f2_2_0 := F1.out.2.2.1.fz 0
 have a2_2_1 := F1.out.2.2.1.cell 1 _ rfl
 have f2_2_1 := F1.out.2.2.1.fz 1
 have a2_2_2 := F1.out.2.2.1.cell 2 _ rfl
 have f2_2_2 := F1.out.2.2.1.fz 2
 have ne2_0_1 : ¬ w.heap.size = w.heap.size + 1 := by omega
 have ne2_0_2 : ¬ w.heap.size = w.heap.size + 1 + 1 := by omega
 have ne2_1_0 : ¬ w.heap.size + 1 = w.heap.size := by omega
 have ne2_1_2 : ¬ w.heap.size + 1 = w.heap.size + 1 + 1 := by omega
 have ne2_2_0 : ¬ w.heap.size + 1 + 1 = w.heap.size := by omega
 have ne2_2_1 : ¬ w.heap.size + 1 + 1 = w.heap.size + 1 := by omega
 go_wp2_with fail
 all_goals first | (exfalso; omega) | skip
 refine (HD _).mono ?_
 rintro o3 w3 ⟨rfl, bb⟩
 have F2 : Hid (Bk w3 (w.heap.size) [.string u, .int .i64 o, .bool false] ∧ Bk w3 (w.heap.size + 1) [.string s, .int .i64 p, .bool false] ∧ Bk w3 (w.heap.size + 1 + 1) [.string t, .int .i64 q, .bool false] ∧ Below w.heap.size w w3) := ⟨(F1.out.1).step bb, (F1.out.2.1).step bb, (F1.out.2.2.1).step bb, (F1.out.2.2.2).trans (bb.mono (F1.out.2.2.2).size)⟩
 clear F1
 clear bb
 clear l2_0 a2_0_0 f2_0_0 a2_0_1 f2_0_1 a2_0_2 f2_0_2 l2_1 a2_1_0 f2_1_0 a2_1_1 f2_1_1 a2_1_2 f2_1_2 l2_2 a2_2_0 f2_2_0 a2_2_1 f2_2_1 a2_2_2 f2_2_2
 have l3_0 := F2.out.1.lt
 have a3_0_0 := F2.out.1.cell 0 _ rfl
 have f3_0_0 := F2.out.1.fz 0
 have a3_0_1 := F2.out.1.cell 1 _ rfl
 have f3_0_1 := F2.out.1.fz 1
 have a3_0_2 := F2.out.1.cell 2 _ rfl
 have f3_0_2 := F2.out.1.fz 2
 have l3_1 := F2.out.2.1.lt
 have a3_1_0 := F2.out.2.1.cell 0 _ rfl
 have f3_1_0 := F2.out.2.1.fz 0
 have a3_1_1 := F2.out.2.1.cell 1 _ rfl
 have f3_1_1 := F2.out.2.1.fz 1
 have a3_1_2 := F2.out.2.1.cell 2 _ rfl
 have f3_1_2 := F2.out.2.1.fz 2
 have l3_2 := F2.out.2.2.1.lt
 have a3_2_0 := F2.out.2.2.1.cell 0 _ rfl
 have f3_2_0 := F2.out.2.2.1.fz 0
 have a3_2_1 := F2.out.2.2.1.cell 1 _ rfl
 have f3_2_1 := F2.out.2.2.1.fz 1
 have a3_2_2 := F2.out.2.2.1.cell 2 _ rfl
 have f3_2_2 := F2.out.2.2.1.fz 2
 have ne3_0_1 : ¬ w.heap.size = w.heap.size + 1 := by omega
 have ne3_0_2 : ¬ w.heap.size = w.heap.size + 1 + 1 := by omega
 have ne3_1_0 : ¬ w.heap.size + 1 = w.heap.size := by omega
 have ne3_1_2 : ¬ w.heap.size + 1 = w.heap.size + 1 + 1 := by omega
 have ne3_2_0 : ¬ w.heap.size + 1 + 1 = w.heap.size := by omega
 have ne3_2_1 : ¬ w.heap.size + 1 + 1 = w.heap.size + 1 := by omega
 go_wp2
 go_ret
 exact ⟨rfl, F2.out.2.2.2⟩
theorem wi_1a {s t u : ByteArray} {p q o l h : Int}  (q2 : l < 0) (q3 : h < 0) (HC : ∀ W, Calls Tryz.prog 124 #[.agg #[.string s, .int .i64 p, .bool false], .agg #[.string u, .int .i64 o, .bool false]] W fun e w' => e = .returned (.tuple #[.int .i64 l, .int .i64 0]) ∧ Below W.heap.size W w') (HD : ∀ W, Calls Tryz.prog 124 #[.agg #[.string u, .int .i64 o, .bool false], .agg #[.string t, .int .i64 q, .bool false]] W fun e w' => e = .returned (.tuple #[.int .i64 h, .int .i64 0]) ∧ Below W.heap.size W w') (w : World) :
 Calls Tryz.prog 91 #[.agg #[.string u, .int .i64 o, .bool false], .agg #[.string s, .int .i64 p, .bool false], .agg #[.string t, .int .i64 q, .bool false], .bool true] w fun x w' => x = .returned (.bool true) ∧ Below w.heap.size w w' := by
 have F0 : Hid (Bk (((w.alloc (.cells #[.string u, .int .i64 o, .bool false] 24)).alloc (.cells #[.string s, .int .i64 p, .bool false] 24)).alloc (.cells #[.string t, .int .i64 q, .bool false] 24)) (w.heap.size) [.string u, .int .i64 o, .bool false] ∧ Bk (((w.alloc (.cells #[.string u, .int .i64 o, .bool false] 24)).alloc (.cells #[.string s, .int .i64 p, .bool false] 24)).alloc (.cells #[.string t, .int .i64 q, .bool false] 24)) (w.heap.size + 1) [.string s, .int .i64 p, .bool false] ∧ Bk (((w.alloc (.cells #[.string u, .int .i64 o, .bool false] 24)).alloc (.cells #[.string s, .int .i64 p, .bool false] 24)).alloc (.cells #[.string t, .int .i64 q, .bool false] 24)) (w.heap.size + 1 + 1) [.string t, .int .i64 q, .bool false] ∧ Below w.heap.size w (((w.alloc (.cells #[.string u, .int .i64 o, .bool false] 24)).alloc (.cells #[.string s, .int .i64 p, .bool false] 24)).alloc (.cells #[.string t, .int .i64 q, .bool false] 24))) := ⟨((Bk.new3 w (.string u) (.int .i64 o) (.bool false) 24).step ((Below.refl _ _).alloc (Nat.le_refl _) _)).step ((Below.refl _ _).alloc (Nat.le_refl _) _), (((by have q := Bk.new3 (w.alloc (.cells #[.string u, .int .i64 o, .bool false] 24)) (.string s) (.int .i64 p) (.bool false) 24; simpa using q) : Bk ((w.alloc (.cells #[.string u, .int .i64 o, .bool false] 24)).alloc (.cells #[.string s, .int .i64 p, .bool false] 24)) (w.heap.size + 1) [.string s, .int .i64 p, .bool false])).step ((Below.refl _ _).alloc (Nat.le_refl _) _), ((by have q := Bk.new3 ((w.alloc (.cells #[.string u, .int .i64 o, .bool false] 24)).alloc (.cells #[.string s, .int .i64 p, .bool false] 24)) (.string t) (.int .i64 q) (.bool false) 24; simpa using q) : Bk (((w.alloc (.cells #[.string u, .int .i64 o, .bool false] 24)).alloc (.cells #[.string s, .int .i64 p, .bool false] 24)).alloc (.cells #[.string t, .int .i64 q, .bool false] 24)) (w.heap.size + 1 + 1) [.string t, .int .i64 q, .bool false]), ((((Below.refl w.heap.size w)).alloc (Nat.le_refl _) _).alloc ((((Below.refl w.heap.size w)).alloc (Nat.le_refl _) _).size) _).alloc (((((Below.refl w.heap.size w)).alloc (Nat.le_refl _) _).alloc ((((Below.refl w.heap.size w)).alloc (Nat.le_refl _) _).size) _).size) _⟩
 go_enter Tryz.func91, Tryz.ntmps91
 go_upto_region 1 with fail
 generalize (((w.alloc (.cells #[.string u, .int .i64 o, .bool false] 24)).alloc (.cells #[.string s, .int .i64 p, .bool false] 24)).alloc (.cells #[.string t, .int .i64 q, .bool false] 24)) = w1 at *
 have l1_0 := F0.out.1.lt
 have a1_0_0 := F0.out.1.cell 0 _ rfl
 have f1_0_0 := F0.out.1.fz 0
 have a1_0_1 := F0.out.1.cell 1 _ rfl
 have f1_0_1 := F0.out.1.fz 1
 have a1_0_2 := F0.out.1.cell 2 _ rfl
 have f1_0_2 := F0.out.1.fz 2
 have l1_1 := F0.out.2.1.lt
 have a1_1_0 := F0.out.2.1.cell 0 _ rfl
 have f1_1_0 := F0.out.2.1.fz 0
 have a1_1_1 := F0.out.2.1.cell 1 _ rfl
 have f1_1_1 := F0.out.2.1.fz 1
 have a1_1_2 := F0.out.2.1.cell 2 _ rfl
 have f1_1_2 := F0.out.2.1.fz 2
 have l1_2 := F0.out.2.2.1.lt
 have a1_2_0 := F0.out.2.2.1.cell 0 _ rfl
 have f1_2_0 := F0.out.2.2.1.fz 0
 have a1_2_1 := F0.out.2.2.1.cell 1 _ rfl
 have f1_2_1 := F0.out.2.2.1.fz 1
 have a1_2_2 := F0.out.2.2.1.cell 2 _ rfl
 have f1_2_2 := F0.out.2.2.1.fz 2
 have ne1_0_1 : ¬ w.heap.size = w.heap.size + 1 := by omega
 have ne1_0_2 : ¬ w.heap.size = w.heap.size + 1 + 1 := by omega
 have ne1_1_0 : ¬ w.heap.size + 1 = w.heap.size := by omega
 have ne1_1_2 : ¬ w.heap.size + 1 = w.heap.size + 1 + 1 := by omega
 have ne1_2_0 : ¬ w.heap.size + 1 + 1 = w.heap.size := by omega
 have ne1_2_1 : ¬ w.heap.size + 1 + 1 = w.heap.size + 1 := by omega
 go_wp2_with fail
 all_goals first | (exfalso; omega) | skip
 refine (HC _).mono ?_
 rintro o2 w2 ⟨rfl, bb⟩
 have F1 : Hid (Bk w2 (w.heap.size) [.string u, .int .i64 o, .bool false] ∧ Bk w2 (w.heap.size + 1) [.string s, .int .i64 p, .bool false] ∧ Bk w2 (w.heap.size + 1 + 1) [.string t, .int .i64 q, .bool false] ∧ Below w.heap.size w w2) := ⟨(F0.out.1).step bb, (F0.out.2.1).step bb, (F0.out.2.2.1).step bb, (F0.out.2.2.2).trans (bb.mono (F0.out.2.2.2).size)⟩
 clear F0
 clear bb
 clear l1_0 a1_0_0 f1_0_0 a1_0_1 f1_0_1 a1_0_2 f1_0_2 l1_1 a1_1_0 f1_1_0 a1_1_1 f1_1_1 a1_1_2 f1_1_2 l1_2 a1_2_0 f1_2_0 a1_2_1 f1_2_1 a1_2_2 f1_2_2
 have l2_0 := F1.out.1.lt
 have a2_0_0 := F1.out.1.cell 0 _ rfl
 have f2_0_0 := F1.out.1.fz 0
 have a2_0_1 := F1.out.1.cell 1 _ rfl
 have f2_0_1 := F1.out.1.fz 1
 have a2_0_2 := F1.out.1.cell 2 _ rfl
 have f2_0_2 := F1.out.1.fz 2
 have l2_1 := F1.out.2.1.lt
 have a2_1_0 := F1.out.2.1.cell 0 _ rfl
 have f2_1_0 := F1.out.2.1.fz 0
 have a2_1_1 := F1.out.2.1.cell 1 _ rfl
 have f2_1_1 := F1.out.2.1.fz 1
 have a2_1_2 := F1.out.2.1.cell 2 _ rfl
 have f2_1_2 := F1.out.2.1.fz 2
 have l2_2 := F1.out.2.2.1.lt
 have a2_2_0 := F1.out.2.2.1.cell 0 _ rfl
 have f2_2_0 := F1.out.2.2.1.fz 0
 have a2_2_1 := F1.out.2.2.1.cell 1 _ rfl
 have f2_2_1 := F1.out.2.2.1.fz 1
 have a2_2_2 := F1.out.2.2.1.cell 2 _ rfl
 have f2_2_2 := F1.out.2.2.1.fz 2
 have ne2_0_1 : ¬ w.heap.size = w.heap.size + 1 := by omega
 have ne2_0_2 : ¬ w.heap.size = w.heap.size + 1 + 1 := by omega
 have ne2_1_0 : ¬ w.heap.size + 1 = w.heap.size := by omega
 have ne2_1_2 : ¬ w.heap.size + 1 = w.heap.size + 1 + 1 := by omega
 have ne2_2_0 : ¬ w.heap.size + 1 + 1 = w.heap.size := by omega
 have ne2_2_1 : ¬ w.heap.size + 1 + 1 = w.heap.size + 1 := by omega
 go_wp2_with fail
 all_goals first | (exfalso; omega) | skip
 refine (HD _).mono ?_
 rintro o3 w3 ⟨rfl, bb⟩
 have F2 : Hid (Bk w3 (w.heap.size) [.string u, .int .i64 o, .bool false] ∧ Bk w3 (w.heap.size + 1) [.string s, .int .i64 p, .bool false] ∧ Bk w3 (w.heap.size + 1 + 1) [.string t, .int .i64 q, .bool false] ∧ Below w.heap.size w w3) := ⟨(F1.out.1).step bb, (F1.out.2.1).step bb, (F1.out.2.2.1).step bb, (F1.out.2.2.2).trans (bb.mono (F1.out.2.2.2).size)⟩
 clear F1
 clear bb
 clear l2_0 a2_0_0 f2_0_0 a2_0_1 f2_0_1 a2_0_2 f2_0_2 l2_1 a2_1_0 f2_1_0 a2_1_1 f2_1_1 a2_1_2 f2_1_2 l2_2 a2_2_0 f2_2_0 a2_2_1 f2_2_1 a2_2_2 f2_2_2
 have l3_0 := F2.out.1.lt
 have a3_0_0 := F2.out.1.cell 0 _ rfl
 have f3_0_0 := F2.out.1.fz 0
 have a3_0_1 := F2.out.1.cell 1 _ rfl
 have f3_0_1 := F2.out.1.fz 1
 have a3_0_2 := F2.out.1.cell 2 _ rfl
 have f3_0_2 := F2.out.1.fz 2
 have l3_1 := F2.out.2.1.lt
 have a3_1_0 := F2.out.2.1.cell 0 _ rfl
 have f3_1_0 := F2.out.2.1.fz 0
 have a3_1_1 := F2.out.2.1.cell 1 _ rfl
 have f3_1_1 := F2.out.2.1.fz 1
 have a3_1_2 := F2.out.2.1.cell 2 _ rfl
 have f3_1_2 := F2.out.2.1.fz 2
 have l3_2 := F2.out.2.2.1.lt
 have a3_2_0 := F2.out.2.2.1.cell 0 _ rfl
 have f3_2_0 := F2.out.2.2.1.fz 0
 have a3_2_1 := F2.out.2.2.1.cell 1 _ rfl
 have f3_2_1 := F2.out.2.2.1.fz 1
 have a3_2_2 := F2.out.2.2.1.cell 2 _ rfl
 have f3_2_2 := F2.out.2.2.1.fz 2
 have ne3_0_1 : ¬ w.heap.size = w.heap.size + 1 := by omega
 have ne3_0_2 : ¬ w.heap.size = w.heap.size + 1 + 1 := by omega
 have ne3_1_0 : ¬ w.heap.size + 1 = w.heap.size := by omega
 have ne3_1_2 : ¬ w.heap.size + 1 = w.heap.size + 1 + 1 := by omega
 have ne3_2_0 : ¬ w.heap.size + 1 + 1 = w.heap.size := by omega
 have ne3_2_1 : ¬ w.heap.size + 1 + 1 = w.heap.size + 1 := by omega
 go_wp2
 go_ret
 exact ⟨rfl, F2.out.2.2.2⟩
theorem wi_1b {s t u : ByteArray} {p q o l h : Int} (q1 : l ≤ 0) (q2 : l < 0) (q3 : ¬ h < 0) (HC : ∀ W, Calls Tryz.prog 124 #[.agg #[.string s, .int .i64 p, .bool false], .agg #[.string u, .int .i64 o, .bool false]] W fun e w' => e = .returned (.tuple #[.int .i64 l, .int .i64 0]) ∧ Below W.heap.size W w') (HD : ∀ W, Calls Tryz.prog 124 #[.agg #[.string u, .int .i64 o, .bool false], .agg #[.string t, .int .i64 q, .bool false]] W fun e w' => e = .returned (.tuple #[.int .i64 h, .int .i64 0]) ∧ Below W.heap.size W w') (w : World) :
 Calls Tryz.prog 91 #[.agg #[.string u, .int .i64 o, .bool false], .agg #[.string s, .int .i64 p, .bool false], .agg #[.string t, .int .i64 q, .bool false], .bool true] w fun x w' => x = .returned (.bool (decide (h < 0) || decide (h ≤ 0))) ∧ Below w.heap.size w w' := by
 have F0 : Hid (Bk (((w.alloc (.cells #[.string u, .int .i64 o, .bool false] 24)).alloc (.cells #[.string s, .int .i64 p, .bool false] 24)).alloc (.cells #[.string t, .int .i64 q, .bool false] 24)) (w.heap.size) [.string u, .int .i64 o, .bool false] ∧ Bk (((w.alloc (.cells #[.string u, .int .i64 o, .bool false] 24)).alloc (.cells #[.string s, .int .i64 p, .bool false] 24)).alloc (.cells #[.string t, .int .i64 q, .bool false] 24)) (w.heap.size + 1) [.string s, .int .i64 p, .bool false] ∧ Bk (((w.alloc (.cells #[.string u, .int .i64 o, .bool false] 24)).alloc (.cells #[.string s, .int .i64 p, .bool false] 24)).alloc (.cells #[.string t, .int .i64 q, .bool false] 24)) (w.heap.size + 1 + 1) [.string t, .int .i64 q, .bool false] ∧ Below w.heap.size w (((w.alloc (.cells #[.string u, .int .i64 o, .bool false] 24)).alloc (.cells #[.string s, .int .i64 p, .bool false] 24)).alloc (.cells #[.string t, .int .i64 q, .bool false] 24))) := ⟨((Bk.new3 w (.string u) (.int .i64 o) (.bool false) 24).step ((Below.refl _ _).alloc (Nat.le_refl _) _)).step ((Below.refl _ _).alloc (Nat.le_refl _) _), (((by have q := Bk.new3 (w.alloc (.cells #[.string u, .int .i64 o, .bool false] 24)) (.string s) (.int .i64 p) (.bool false) 24; simpa using q) : Bk ((w.alloc (.cells #[.string u, .int .i64 o, .bool false] 24)).alloc (.cells #[.string s, .int .i64 p, .bool false] 24)) (w.heap.size + 1) [.string s, .int .i64 p, .bool false])).step ((Below.refl _ _).alloc (Nat.le_refl _) _), ((by have q := Bk.new3 ((w.alloc (.cells #[.string u, .int .i64 o, .bool false] 24)).alloc (.cells #[.string s, .int .i64 p, .bool false] 24)) (.string t) (.int .i64 q) (.bool false) 24; simpa using q) : Bk (((w.alloc (.cells #[.string u, .int .i64 o, .bool false] 24)).alloc (.cells #[.string s, .int .i64 p, .bool false] 24)).alloc (.cells #[.string t, .int .i64 q, .bool false] 24)) (w.heap.size + 1 + 1) [.string t, .int .i64 q, .bool false]), ((((Below.refl w.heap.size w)).alloc (Nat.le_refl _) _).alloc ((((Below.refl w.heap.size w)).alloc (Nat.le_refl _) _).size) _).alloc (((((Below.refl w.heap.size w)).alloc (Nat.le_refl _) _).alloc ((((Below.refl w.heap.size w)).alloc (Nat.le_refl _) _).size) _).size) _⟩
 go_enter Tryz.func91, Tryz.ntmps91
 go_upto_region 1 with fail
 generalize (((w.alloc (.cells #[.string u, .int .i64 o, .bool false] 24)).alloc (.cells #[.string s, .int .i64 p, .bool false] 24)).alloc (.cells #[.string t, .int .i64 q, .bool false] 24)) = w1 at *
 have l1_0 := F0.out.1.lt
 have a1_0_0 := F0.out.1.cell 0 _ rfl
 have f1_0_0 := F0.out.1.fz 0
 have a1_0_1 := F0.out.1.cell 1 _ rfl
 have f1_0_1 := F0.out.1.fz 1
 have a1_0_2 := F0.out.1.cell 2 _ rfl
 have f1_0_2 := F0.out.1.fz 2
 have l1_1 := F0.out.2.1.lt
 have a1_1_0 := F0.out.2.1.cell 0 _ rfl
 have f1_1_0 := F0.out.2.1.fz 0
 have a1_1_1 := F0.out.2.1.cell 1 _ rfl
 have f1_1_1 := F0.out.2.1.fz 1
 have a1_1_2 := F0.out.2.1.cell 2 _ rfl
 have f1_1_2 := F0.out.2.1.fz 2
 have l1_2 := F0.out.2.2.1.lt
 have a1_2_0 := F0.out.2.2.1.cell 0 _ rfl
 have f1_2_0 := F0.out.2.2.1.fz 0
 have a1_2_1 := F0.out.2.2.1.cell 1 _ rfl
 have f1_2_1 := F0.out.2.2.1.fz 1
 have a1_2_2 := F0.out.2.2.1.cell 2 _ rfl
 have f1_2_2 := F0.out.2.2.1.fz 2
 have ne1_0_1 : ¬ w.heap.size = w.heap.size + 1 := by omega
 have ne1_0_2 : ¬ w.heap.size = w.heap.size + 1 + 1 := by omega
 have ne1_1_0 : ¬ w.heap.size + 1 = w.heap.size := by omega
 have ne1_1_2 : ¬ w.heap.size + 1 = w.heap.size + 1 + 1 := by omega
 have ne1_2_0 : ¬ w.heap.size + 1 + 1 = w.heap.size := by omega
 have ne1_2_1 : ¬ w.heap.size + 1 + 1 = w.heap.size + 1 := by omega
 go_wp2_with fail
 all_goals first | (exfalso; omega) | skip
 refine (HC _).mono ?_
 rintro o2 w2 ⟨rfl, bb⟩
 have F1 : Hid (Bk w2 (w.heap.size) [.string u, .int .i64 o, .bool false] ∧ Bk w2 (w.heap.size + 1) [.string s, .int .i64 p, .bool false] ∧ Bk w2 (w.heap.size + 1 + 1) [.string t, .int .i64 q, .bool false] ∧ Below w.heap.size w w2) := ⟨(F0.out.1).step bb, (F0.out.2.1).step bb, (F0.out.2.2.1).step bb, (F0.out.2.2.2).trans (bb.mono (F0.out.2.2.2).size)⟩
 clear F0
 clear bb
 clear l1_0 a1_0_0 f1_0_0 a1_0_1 f1_0_1 a1_0_2 f1_0_2 l1_1 a1_1_0 f1_1_0 a1_1_1 f1_1_1 a1_1_2 f1_1_2 l1_2 a1_2_0 f1_2_0 a1_2_1 f1_2_1 a1_2_2 f1_2_2
 have l2_0 := F1.out.1.lt
 have a2_0_0 := F1.out.1.cell 0 _ rfl
 have f2_0_0 := F1.out.1.fz 0
 have a2_0_1 := F1.out.1.cell 1 _ rfl
 have f2_0_1 := F1.out.1.fz 1
 have a2_0_2 := F1.out.1.cell 2 _ rfl
 have f2_0_2 := F1.out.1.fz 2
 have l2_1 := F1.out.2.1.lt
 have a2_1_0 := F1.out.2.1.cell 0 _ rfl
 have f2_1_0 := F1.out.2.1.fz 0
 have a2_1_1 := F1.out.2.1.cell 1 _ rfl
 have f2_1_1 := F1.out.2.1.fz 1
 have a2_1_2 := F1.out.2.1.cell 2 _ rfl
 have f2_1_2 := F1.out.2.1.fz 2
 have l2_2 := F1.out.2.2.1.lt
 have a2_2_0 := F1.out.2.2.1.cell 0 _ rfl
 have f2_2_0 := F1.out.2.2.1.fz 0
 have a2_2_1 := F1.out.2.2.1.cell 1 _ rfl
 have f2_2_1 := F1.out.2.2.1.fz 1
 have a2_2_2 := F1.out.2.2.1.cell 2 _ rfl
 have f2_2_2 := F1.out.2.2.1.fz 2
 have ne2_0_1 : ¬ w.heap.size = w.heap.size + 1 := by omega
 have ne2_0_2 : ¬ w.heap.size = w.heap.size + 1 + 1 := by omega
 have ne2_1_0 : ¬ w.heap.size + 1 = w.heap.size := by omega
 have ne2_1_2 : ¬ w.heap.size + 1 = w.heap.size + 1 + 1 := by omega
 have ne2_2_0 : ¬ w.heap.size + 1 + 1 = w.heap.size := by omega
 have ne2_2_1 : ¬ w.heap.size + 1 + 1 = w.heap.size + 1 := by omega
 go_wp2_with fail
 all_goals first | (exfalso; omega) | skip
 refine (HD _).mono ?_
 rintro o3 w3 ⟨rfl, bb⟩
 have F2 : Hid (Bk w3 (w.heap.size) [.string u, .int .i64 o, .bool false] ∧ Bk w3 (w.heap.size + 1) [.string s, .int .i64 p, .bool false] ∧ Bk w3 (w.heap.size + 1 + 1) [.string t, .int .i64 q, .bool false] ∧ Below w.heap.size w w3) := ⟨(F1.out.1).step bb, (F1.out.2.1).step bb, (F1.out.2.2.1).step bb, (F1.out.2.2.2).trans (bb.mono (F1.out.2.2.2).size)⟩
 clear F1
 clear bb
 clear l2_0 a2_0_0 f2_0_0 a2_0_1 f2_0_1 a2_0_2 f2_0_2 l2_1 a2_1_0 f2_1_0 a2_1_1 f2_1_1 a2_1_2 f2_1_2 l2_2 a2_2_0 f2_2_0 a2_2_1 f2_2_1 a2_2_2 f2_2_2
 have l3_0 := F2.out.1.lt
 have a3_0_0 := F2.out.1.cell 0 _ rfl
 have f3_0_0 := F2.out.1.fz 0
 have a3_0_1 := F2.out.1.cell 1 _ rfl
 have f3_0_1 := F2.out.1.fz 1
 have a3_0_2 := F2.out.1.cell 2 _ rfl
 have f3_0_2 := F2.out.1.fz 2
 have l3_1 := F2.out.2.1.lt
 have a3_1_0 := F2.out.2.1.cell 0 _ rfl
 have f3_1_0 := F2.out.2.1.fz 0
 have a3_1_1 := F2.out.2.1.cell 1 _ rfl
 have f3_1_1 := F2.out.2.1.fz 1
 have a3_1_2 := F2.out.2.1.cell 2 _ rfl
 have f3_1_2 := F2.out.2.1.fz 2
 have l3_2 := F2.out.2.2.1.lt
 have a3_2_0 := F2.out.2.2.1.cell 0 _ rfl
 have f3_2_0 := F2.out.2.2.1.fz 0
 have a3_2_1 := F2.out.2.2.1.cell 1 _ rfl
 have f3_2_1 := F2.out.2.2.1.fz 1
 have a3_2_2 := F2.out.2.2.1.cell 2 _ rfl
 have f3_2_2 := F2.out.2.2.1.fz 2
 have ne3_0_1 : ¬ w.heap.size = w.heap.size + 1 := by omega
 have ne3_0_2 : ¬ w.heap.size = w.heap.size + 1 + 1 := by omega
 have ne3_1_0 : ¬ w.heap.size + 1 = w.heap.size := by omega
 have ne3_1_2 : ¬ w.heap.size + 1 = w.heap.size + 1 + 1 := by omega
 have ne3_2_0 : ¬ w.heap.size + 1 + 1 = w.heap.size := by omega
 have ne3_2_1 : ¬ w.heap.size + 1 + 1 = w.heap.size + 1 := by omega
 go_wp2
 go_ret
 exact ⟨rfl, F2.out.2.2.2⟩
theorem wi_1c {s t u : ByteArray} {p q o l h : Int} (q1 : l ≤ 0) (q2 : ¬ l < 0) (HC : ∀ W, Calls Tryz.prog 124 #[.agg #[.string s, .int .i64 p, .bool false], .agg #[.string u, .int .i64 o, .bool false]] W fun e w' => e = .returned (.tuple #[.int .i64 l, .int .i64 0]) ∧ Below W.heap.size W w') (HD : ∀ W, Calls Tryz.prog 124 #[.agg #[.string u, .int .i64 o, .bool false], .agg #[.string t, .int .i64 q, .bool false]] W fun e w' => e = .returned (.tuple #[.int .i64 h, .int .i64 0]) ∧ Below W.heap.size W w') (w : World) :
 Calls Tryz.prog 91 #[.agg #[.string u, .int .i64 o, .bool false], .agg #[.string s, .int .i64 p, .bool false], .agg #[.string t, .int .i64 q, .bool false], .bool true] w fun x w' => x = .returned (.bool (decide (h ≤ 0))) ∧ Below w.heap.size w w' := by
 have F0 : Hid (Bk (((w.alloc (.cells #[.string u, .int .i64 o, .bool false] 24)).alloc (.cells #[.string s, .int .i64 p, .bool false] 24)).alloc (.cells #[.string t, .int .i64 q, .bool false] 24)) (w.heap.size) [.string u, .int .i64 o, .bool false] ∧ Bk (((w.alloc (.cells #[.string u, .int .i64 o, .bool false] 24)).alloc (.cells #[.string s, .int .i64 p, .bool false] 24)).alloc (.cells #[.string t, .int .i64 q, .bool false] 24)) (w.heap.size + 1) [.string s, .int .i64 p, .bool false] ∧ Bk (((w.alloc (.cells #[.string u, .int .i64 o, .bool false] 24)).alloc (.cells #[.string s, .int .i64 p, .bool false] 24)).alloc (.cells #[.string t, .int .i64 q, .bool false] 24)) (w.heap.size + 1 + 1) [.string t, .int .i64 q, .bool false] ∧ Below w.heap.size w (((w.alloc (.cells #[.string u, .int .i64 o, .bool false] 24)).alloc (.cells #[.string s, .int .i64 p, .bool false] 24)).alloc (.cells #[.string t, .int .i64 q, .bool false] 24))) := ⟨((Bk.new3 w (.string u) (.int .i64 o) (.bool false) 24).step ((Below.refl _ _).alloc (Nat.le_refl _) _)).step ((Below.refl _ _).alloc (Nat.le_refl _) _), (((by have q := Bk.new3 (w.alloc (.cells #[.string u, .int .i64 o, .bool false] 24)) (.string s) (.int .i64 p) (.bool false) 24; simpa using q) : Bk ((w.alloc (.cells #[.string u, .int .i64 o, .bool false] 24)).alloc (.cells #[.string s, .int .i64 p, .bool false] 24)) (w.heap.size + 1) [.string s, .int .i64 p, .bool false])).step ((Below.refl _ _).alloc (Nat.le_refl _) _), ((by have q := Bk.new3 ((w.alloc (.cells #[.string u, .int .i64 o, .bool false] 24)).alloc (.cells #[.string s, .int .i64 p, .bool false] 24)) (.string t) (.int .i64 q) (.bool false) 24; simpa using q) : Bk (((w.alloc (.cells #[.string u, .int .i64 o, .bool false] 24)).alloc (.cells #[.string s, .int .i64 p, .bool false] 24)).alloc (.cells #[.string t, .int .i64 q, .bool false] 24)) (w.heap.size + 1 + 1) [.string t, .int .i64 q, .bool false]), ((((Below.refl w.heap.size w)).alloc (Nat.le_refl _) _).alloc ((((Below.refl w.heap.size w)).alloc (Nat.le_refl _) _).size) _).alloc (((((Below.refl w.heap.size w)).alloc (Nat.le_refl _) _).alloc ((((Below.refl w.heap.size w)).alloc (Nat.le_refl _) _).size) _).size) _⟩
 go_enter Tryz.func91, Tryz.ntmps91
 go_upto_region 1 with fail
 generalize (((w.alloc (.cells #[.string u, .int .i64 o, .bool false] 24)).alloc (.cells #[.string s, .int .i64 p, .bool false] 24)).alloc (.cells #[.string t, .int .i64 q, .bool false] 24)) = w1 at *
 have l1_0 := F0.out.1.lt
 have a1_0_0 := F0.out.1.cell 0 _ rfl
 have f1_0_0 := F0.out.1.fz 0
 have a1_0_1 := F0.out.1.cell 1 _ rfl
 have f1_0_1 := F0.out.1.fz 1
 have a1_0_2 := F0.out.1.cell 2 _ rfl
 have f1_0_2 := F0.out.1.fz 2
 have l1_1 := F0.out.2.1.lt
 have a1_1_0 := F0.out.2.1.cell 0 _ rfl
 have f1_1_0 := F0.out.2.1.fz 0
 have a1_1_1 := F0.out.2.1.cell 1 _ rfl
 have f1_1_1 := F0.out.2.1.fz 1
 have a1_1_2 := F0.out.2.1.cell 2 _ rfl
 have f1_1_2 := F0.out.2.1.fz 2
 have l1_2 := F0.out.2.2.1.lt
 have a1_2_0 := F0.out.2.2.1.cell 0 _ rfl
 have f1_2_0 := F0.out.2.2.1.fz 0
 have a1_2_1 := F0.out.2.2.1.cell 1 _ rfl
 have f1_2_1 := F0.out.2.2.1.fz 1
 have a1_2_2 := F0.out.2.2.1.cell 2 _ rfl
 have f1_2_2 := F0.out.2.2.1.fz 2
 have ne1_0_1 : ¬ w.heap.size = w.heap.size + 1 := by omega
 have ne1_0_2 : ¬ w.heap.size = w.heap.size + 1 + 1 := by omega
 have ne1_1_0 : ¬ w.heap.size + 1 = w.heap.size := by omega
 have ne1_1_2 : ¬ w.heap.size + 1 = w.heap.size + 1 + 1 := by omega
 have ne1_2_0 : ¬ w.heap.size + 1 + 1 = w.heap.size := by omega
 have ne1_2_1 : ¬ w.heap.size + 1 + 1 = w.heap.size + 1 := by omega
 go_wp2_with fail
 all_goals first | (exfalso; omega) | skip
 refine (HC _).mono ?_
 rintro o2 w2 ⟨rfl, bb⟩
 have F1 : Hid (Bk w2 (w.heap.size) [.string u, .int .i64 o, .bool false] ∧ Bk w2 (w.heap.size + 1) [.string s, .int .i64 p, .bool false] ∧ Bk w2 (w.heap.size + 1 + 1) [.string t, .int .i64 q, .bool false] ∧ Below w.heap.size w w2) := ⟨(F0.out.1).step bb, (F0.out.2.1).step bb, (F0.out.2.2.1).step bb, (F0.out.2.2.2).trans (bb.mono (F0.out.2.2.2).size)⟩
 clear F0
 clear bb
 clear l1_0 a1_0_0 f1_0_0 a1_0_1 f1_0_1 a1_0_2 f1_0_2 l1_1 a1_1_0 f1_1_0 a1_1_1 f1_1_1 a1_1_2 f1_1_2 l1_2 a1_2_0 f1_2_0 a1_2_1 f1_2_1 a1_2_2 f1_2_2
 have l2_0 := F1.out.1.lt
 have a2_0_0 := F1.out.1.cell 0 _ rfl
 have f2_0_0 := F1.out.1.fz 0
 have a2_0_1 := F1.out.1.cell 1 _ rfl
 have f2_0_1 := F1.out.1.fz 1
 have a2_0_2 := F1.out.1.cell 2 _ rfl
 have f2_0_2 := F1.out.1.fz 2
 have l2_1 := F1.out.2.1.lt
 have a2_1_0 := F1.out.2.1.cell 0 _ rfl
 have f2_1_0 := F1.out.2.1.fz 0
 have a2_1_1 := F1.out.2.1.cell 1 _ rfl
 have f2_1_1 := F1.out.2.1.fz 1
 have a2_1_2 := F1.out.2.1.cell 2 _ rfl
 have f2_1_2 := F1.out.2.1.fz 2
 have l2_2 := F1.out.2.2.1.lt
 have a2_2_0 := F1.out.2.2.1.cell 0 _ rfl
 have f2_2_0 := F1.out.2.2.1.fz 0
 have a2_2_1 := F1.out.2.2.1.cell 1 _ rfl
 have f2_2_1 := F1.out.2.2.1.fz 1
 have a2_2_2 := F1.out.2.2.1.cell 2 _ rfl
 have f2_2_2 := F1.out.2.2.1.fz 2
 have ne2_0_1 : ¬ w.heap.size = w.heap.size + 1 := by omega
 have ne2_0_2 : ¬ w.heap.size = w.heap.size + 1 + 1 := by omega
 have ne2_1_0 : ¬ w.heap.size + 1 = w.heap.size := by omega
 have ne2_1_2 : ¬ w.heap.size + 1 = w.heap.size + 1 + 1 := by omega
 have ne2_2_0 : ¬ w.heap.size + 1 + 1 = w.heap.size := by omega
 have ne2_2_1 : ¬ w.heap.size + 1 + 1 = w.heap.size + 1 := by omega
 go_wp2_with fail
 all_goals first | (exfalso; omega) | skip
 refine (HD _).mono ?_
 rintro o3 w3 ⟨rfl, bb⟩
 have F2 : Hid (Bk w3 (w.heap.size) [.string u, .int .i64 o, .bool false] ∧ Bk w3 (w.heap.size + 1) [.string s, .int .i64 p, .bool false] ∧ Bk w3 (w.heap.size + 1 + 1) [.string t, .int .i64 q, .bool false] ∧ Below w.heap.size w w3) := ⟨(F1.out.1).step bb, (F1.out.2.1).step bb, (F1.out.2.2.1).step bb, (F1.out.2.2.2).trans (bb.mono (F1.out.2.2.2).size)⟩
 clear F1
 clear bb
 clear l2_0 a2_0_0 f2_0_0 a2_0_1 f2_0_1 a2_0_2 f2_0_2 l2_1 a2_1_0 f2_1_0 a2_1_1 f2_1_1 a2_1_2 f2_1_2 l2_2 a2_2_0 f2_2_0 a2_2_1 f2_2_1 a2_2_2 f2_2_2
 have l3_0 := F2.out.1.lt
 have a3_0_0 := F2.out.1.cell 0 _ rfl
 have f3_0_0 := F2.out.1.fz 0
 have a3_0_1 := F2.out.1.cell 1 _ rfl
 have f3_0_1 := F2.out.1.fz 1
 have a3_0_2 := F2.out.1.cell 2 _ rfl
 have f3_0_2 := F2.out.1.fz 2
 have l3_1 := F2.out.2.1.lt
 have a3_1_0 := F2.out.2.1.cell 0 _ rfl
 have f3_1_0 := F2.out.2.1.fz 0
 have a3_1_1 := F2.out.2.1.cell 1 _ rfl
 have f3_1_1 := F2.out.2.1.fz 1
 have a3_1_2 := F2.out.2.1.cell 2 _ rfl
 have f3_1_2 := F2.out.2.1.fz 2
 have l3_2 := F2.out.2.2.1.lt
 have a3_2_0 := F2.out.2.2.1.cell 0 _ rfl
 have f3_2_0 := F2.out.2.2.1.fz 0
 have a3_2_1 := F2.out.2.2.1.cell 1 _ rfl
 have f3_2_1 := F2.out.2.2.1.fz 1
 have a3_2_2 := F2.out.2.2.1.cell 2 _ rfl
 have f3_2_2 := F2.out.2.2.1.fz 2
 have ne3_0_1 : ¬ w.heap.size = w.heap.size + 1 := by omega
 have ne3_0_2 : ¬ w.heap.size = w.heap.size + 1 + 1 := by omega
 have ne3_1_0 : ¬ w.heap.size + 1 = w.heap.size := by omega
 have ne3_1_2 : ¬ w.heap.size + 1 = w.heap.size + 1 + 1 := by omega
 have ne3_2_0 : ¬ w.heap.size + 1 + 1 = w.heap.size := by omega
 have ne3_2_1 : ¬ w.heap.size + 1 + 1 = w.heap.size + 1 := by omega
 go_wp2
 go_ret
 exact ⟨rfl, F2.out.2.2.2⟩
theorem wi_2a {s t u : ByteArray} {p q o l h : Int} (q1 : l < 0) (q3 : h < 0) (HC : ∀ W, Calls Tryz.prog 124 #[.agg #[.string s, .int .i64 p, .bool false], .agg #[.string u, .int .i64 o, .bool false]] W fun e w' => e = .returned (.tuple #[.int .i64 l, .int .i64 0]) ∧ Below W.heap.size W w') (HD : ∀ W, Calls Tryz.prog 124 #[.agg #[.string u, .int .i64 o, .bool false], .agg #[.string t, .int .i64 q, .bool false]] W fun e w' => e = .returned (.tuple #[.int .i64 h, .int .i64 0]) ∧ Below W.heap.size W w') (w : World) :
 Calls Tryz.prog 91 #[.agg #[.string u, .int .i64 o, .bool false], .agg #[.string s, .int .i64 p, .bool false], .agg #[.string t, .int .i64 q, .bool false], .bool false] w fun x w' => x = .returned (.bool true) ∧ Below w.heap.size w w' := by
 have F0 : Hid (Bk (((w.alloc (.cells #[.string u, .int .i64 o, .bool false] 24)).alloc (.cells #[.string s, .int .i64 p, .bool false] 24)).alloc (.cells #[.string t, .int .i64 q, .bool false] 24)) (w.heap.size) [.string u, .int .i64 o, .bool false] ∧ Bk (((w.alloc (.cells #[.string u, .int .i64 o, .bool false] 24)).alloc (.cells #[.string s, .int .i64 p, .bool false] 24)).alloc (.cells #[.string t, .int .i64 q, .bool false] 24)) (w.heap.size + 1) [.string s, .int .i64 p, .bool false] ∧ Bk (((w.alloc (.cells #[.string u, .int .i64 o, .bool false] 24)).alloc (.cells #[.string s, .int .i64 p, .bool false] 24)).alloc (.cells #[.string t, .int .i64 q, .bool false] 24)) (w.heap.size + 1 + 1) [.string t, .int .i64 q, .bool false] ∧ Below w.heap.size w (((w.alloc (.cells #[.string u, .int .i64 o, .bool false] 24)).alloc (.cells #[.string s, .int .i64 p, .bool false] 24)).alloc (.cells #[.string t, .int .i64 q, .bool false] 24))) := ⟨((Bk.new3 w (.string u) (.int .i64 o) (.bool false) 24).step ((Below.refl _ _).alloc (Nat.le_refl _) _)).step ((Below.refl _ _).alloc (Nat.le_refl _) _), (((by have q := Bk.new3 (w.alloc (.cells #[.string u, .int .i64 o, .bool false] 24)) (.string s) (.int .i64 p) (.bool false) 24; simpa using q) : Bk ((w.alloc (.cells #[.string u, .int .i64 o, .bool false] 24)).alloc (.cells #[.string s, .int .i64 p, .bool false] 24)) (w.heap.size + 1) [.string s, .int .i64 p, .bool false])).step ((Below.refl _ _).alloc (Nat.le_refl _) _), ((by have q := Bk.new3 ((w.alloc (.cells #[.string u, .int .i64 o, .bool false] 24)).alloc (.cells #[.string s, .int .i64 p, .bool false] 24)) (.string t) (.int .i64 q) (.bool false) 24; simpa using q) : Bk (((w.alloc (.cells #[.string u, .int .i64 o, .bool false] 24)).alloc (.cells #[.string s, .int .i64 p, .bool false] 24)).alloc (.cells #[.string t, .int .i64 q, .bool false] 24)) (w.heap.size + 1 + 1) [.string t, .int .i64 q, .bool false]), ((((Below.refl w.heap.size w)).alloc (Nat.le_refl _) _).alloc ((((Below.refl w.heap.size w)).alloc (Nat.le_refl _) _).size) _).alloc (((((Below.refl w.heap.size w)).alloc (Nat.le_refl _) _).alloc ((((Below.refl w.heap.size w)).alloc (Nat.le_refl _) _).size) _).size) _⟩
 go_enter Tryz.func91, Tryz.ntmps91
 go_upto_region 1 with fail
 generalize (((w.alloc (.cells #[.string u, .int .i64 o, .bool false] 24)).alloc (.cells #[.string s, .int .i64 p, .bool false] 24)).alloc (.cells #[.string t, .int .i64 q, .bool false] 24)) = w1 at *
 have l1_0 := F0.out.1.lt
 have a1_0_0 := F0.out.1.cell 0 _ rfl
 have f1_0_0 := F0.out.1.fz 0
 have a1_0_1 := F0.out.1.cell 1 _ rfl
 have f1_0_1 := F0.out.1.fz 1
 have a1_0_2 := F0.out.1.cell 2 _ rfl
 have f1_0_2 := F0.out.1.fz 2
 have l1_1 := F0.out.2.1.lt
 have a1_1_0 := F0.out.2.1.cell 0 _ rfl
 have f1_1_0 := F0.out.2.1.fz 0
 have a1_1_1 := F0.out.2.1.cell 1 _ rfl
 have f1_1_1 := F0.out.2.1.fz 1
 have a1_1_2 := F0.out.2.1.cell 2 _ rfl
 have f1_1_2 := F0.out.2.1.fz 2
 have l1_2 := F0.out.2.2.1.lt
 have a1_2_0 := F0.out.2.2.1.cell 0 _ rfl
 have f1_2_0 := F0.out.2.2.1.fz 0
 have a1_2_1 := F0.out.2.2.1.cell 1 _ rfl
 have f1_2_1 := F0.out.2.2.1.fz 1
 have a1_2_2 := F0.out.2.2.1.cell 2 _ rfl
 have f1_2_2 := F0.out.2.2.1.fz 2
 have ne1_0_1 : ¬ w.heap.size = w.heap.size + 1 := by omega
 have ne1_0_2 : ¬ w.heap.size = w.heap.size + 1 + 1 := by omega
 have ne1_1_0 : ¬ w.heap.size + 1 = w.heap.size := by omega
 have ne1_1_2 : ¬ w.heap.size + 1 = w.heap.size + 1 + 1 := by omega
 have ne1_2_0 : ¬ w.heap.size + 1 + 1 = w.heap.size := by omega
 have ne1_2_1 : ¬ w.heap.size + 1 + 1 = w.heap.size + 1 := by omega
 go_wp2_with fail
 all_goals first | (exfalso; omega) | skip
 refine (HC _).mono ?_
 rintro o2 w2 ⟨rfl, bb⟩
 have F1 : Hid (Bk w2 (w.heap.size) [.string u, .int .i64 o, .bool false] ∧ Bk w2 (w.heap.size + 1) [.string s, .int .i64 p, .bool false] ∧ Bk w2 (w.heap.size + 1 + 1) [.string t, .int .i64 q, .bool false] ∧ Below w.heap.size w w2) := ⟨(F0.out.1).step bb, (F0.out.2.1).step bb, (F0.out.2.2.1).step bb, (F0.out.2.2.2).trans (bb.mono (F0.out.2.2.2).size)⟩
 clear F0
 clear bb
 clear l1_0 a1_0_0 f1_0_0 a1_0_1 f1_0_1 a1_0_2 f1_0_2 l1_1 a1_1_0 f1_1_0 a1_1_1 f1_1_1 a1_1_2 f1_1_2 l1_2 a1_2_0 f1_2_0 a1_2_1 f1_2_1 a1_2_2 f1_2_2
 have l2_0 := F1.out.1.lt
 have a2_0_0 := F1.out.1.cell 0 _ rfl
 have f2_0_0 := F1.out.1.fz 0
 have a2_0_1 := F1.out.1.cell 1 _ rfl
 have f2_0_1 := F1.out.1.fz 1
 have a2_0_2 := F1.out.1.cell 2 _ rfl
 have f2_0_2 := F1.out.1.fz 2
 have l2_1 := F1.out.2.1.lt
 have a2_1_0 := F1.out.2.1.cell 0 _ rfl
 have f2_1_0 := F1.out.2.1.fz 0
 have a2_1_1 := F1.out.2.1.cell 1 _ rfl
 have f2_1_1 := F1.out.2.1.fz 1
 have a2_1_2 := F1.out.2.1.cell 2 _ rfl
 have f2_1_2 := F1.out.2.1.fz 2
 have l2_2 := F1.out.2.2.1.lt
 have a2_2_0 := F1.out.2.2.1.cell 0 _ rfl
 have f2_2_0 := F1.out.2.2.1.fz 0
 have a2_2_1 := F1.out.2.2.1.cell 1 _ rfl
 have f2_2_1 := F1.out.2.2.1.fz 1
 have a2_2_2 := F1.out.2.2.1.cell 2 _ rfl
 have f2_2_2 := F1.out.2.2.1.fz 2
 have ne2_0_1 : ¬ w.heap.size = w.heap.size + 1 := by omega
 have ne2_0_2 : ¬ w.heap.size = w.heap.size + 1 + 1 := by omega
 have ne2_1_0 : ¬ w.heap.size + 1 = w.heap.size := by omega
 have ne2_1_2 : ¬ w.heap.size + 1 = w.heap.size + 1 + 1 := by omega
 have ne2_2_0 : ¬ w.heap.size + 1 + 1 = w.heap.size := by omega
 have ne2_2_1 : ¬ w.heap.size + 1 + 1 = w.heap.size + 1 := by omega
 go_wp2_with fail
 all_goals first | (exfalso; omega) | skip
 refine (HD _).mono ?_
 rintro o3 w3 ⟨rfl, bb⟩
 have F2 : Hid (Bk w3 (w.heap.size) [.string u, .int .i64 o, .bool false] ∧ Bk w3 (w.heap.size + 1) [.string s, .int .i64 p, .bool false] ∧ Bk w3 (w.heap.size + 1 + 1) [.string t, .int .i64 q, .bool false] ∧ Below w.heap.size w w3) := ⟨(F1.out.1).step bb, (F1.out.2.1).step bb, (F1.out.2.2.1).step bb, (F1.out.2.2.2).trans (bb.mono (F1.out.2.2.2).size)⟩
 clear F1
 clear bb
 clear l2_0 a2_0_0 f2_0_0 a2_0_1 f2_0_1 a2_0_2 f2_0_2 l2_1 a2_1_0 f2_1_0 a2_1_1 f2_1_1 a2_1_2 f2_1_2 l2_2 a2_2_0 f2_2_0 a2_2_1 f2_2_1 a2_2_2 f2_2_2
 have l3_0 := F2.out.1.lt
 have a3_0_0 := F2.out.1.cell 0 _ rfl
 have f3_0_0 := F2.out.1.fz 0
 have a3_0_1 := F2.out.1.cell 1 _ rfl
 have f3_0_1 := F2.out.1.fz 1
 have a3_0_2 := F2.out.1.cell 2 _ rfl
 have f3_0_2 := F2.out.1.fz 2
 have l3_1 := F2.out.2.1.lt
 have a3_1_0 := F2.out.2.1.cell 0 _ rfl
 have f3_1_0 := F2.out.2.1.fz 0
 have a3_1_1 := F2.out.2.1.cell 1 _ rfl
 have f3_1_1 := F2.out.2.1.fz 1
 have a3_1_2 := F2.out.2.1.cell 2 _ rfl
 have f3_1_2 := F2.out.2.1.fz 2
 have l3_2 := F2.out.2.2.1.lt
 have a3_2_0 := F2.out.2.2.1.cell 0 _ rfl
 have f3_2_0 := F2.out.2.2.1.fz 0
 have a3_2_1 := F2.out.2.2.1.cell 1 _ rfl
 have f3_2_1 := F2.out.2.2.1.fz 1
 have a3_2_2 := F2.out.2.2.1.cell 2 _ rfl
 have f3_2_2 := F2.out.2.2.1.fz 2
 have ne3_0_1 : ¬ w.heap.size = w.heap.size + 1 := by omega
 have ne3_0_2 : ¬ w.heap.size = w.heap.size + 1 + 1 := by omega
 have ne3_1_0 : ¬ w.heap.size + 1 = w.heap.size := by omega
 have ne3_1_2 : ¬ w.heap.size + 1 = w.heap.size + 1 + 1 := by omega
 have ne3_2_0 : ¬ w.heap.size + 1 + 1 = w.heap.size := by omega
 have ne3_2_1 : ¬ w.heap.size + 1 + 1 = w.heap.size + 1 := by omega
 go_wp2
 go_ret
 exact ⟨rfl, F2.out.2.2.2⟩
theorem wi_2b {s t u : ByteArray} {p q o l h : Int} (q1 : l < 0) (q3 : ¬ h < 0) (HC : ∀ W, Calls Tryz.prog 124 #[.agg #[.string s, .int .i64 p, .bool false], .agg #[.string u, .int .i64 o, .bool false]] W fun e w' => e = .returned (.tuple #[.int .i64 l, .int .i64 0]) ∧ Below W.heap.size W w') (HD : ∀ W, Calls Tryz.prog 124 #[.agg #[.string u, .int .i64 o, .bool false], .agg #[.string t, .int .i64 q, .bool false]] W fun e w' => e = .returned (.tuple #[.int .i64 h, .int .i64 0]) ∧ Below W.heap.size W w') (w : World) :
 Calls Tryz.prog 91 #[.agg #[.string u, .int .i64 o, .bool false], .agg #[.string s, .int .i64 p, .bool false], .agg #[.string t, .int .i64 q, .bool false], .bool false] w fun x w' => x = .returned (.bool (decide (h < 0))) ∧ Below w.heap.size w w' := by
 have F0 : Hid (Bk (((w.alloc (.cells #[.string u, .int .i64 o, .bool false] 24)).alloc (.cells #[.string s, .int .i64 p, .bool false] 24)).alloc (.cells #[.string t, .int .i64 q, .bool false] 24)) (w.heap.size) [.string u, .int .i64 o, .bool false] ∧ Bk (((w.alloc (.cells #[.string u, .int .i64 o, .bool false] 24)).alloc (.cells #[.string s, .int .i64 p, .bool false] 24)).alloc (.cells #[.string t, .int .i64 q, .bool false] 24)) (w.heap.size + 1) [.string s, .int .i64 p, .bool false] ∧ Bk (((w.alloc (.cells #[.string u, .int .i64 o, .bool false] 24)).alloc (.cells #[.string s, .int .i64 p, .bool false] 24)).alloc (.cells #[.string t, .int .i64 q, .bool false] 24)) (w.heap.size + 1 + 1) [.string t, .int .i64 q, .bool false] ∧ Below w.heap.size w (((w.alloc (.cells #[.string u, .int .i64 o, .bool false] 24)).alloc (.cells #[.string s, .int .i64 p, .bool false] 24)).alloc (.cells #[.string t, .int .i64 q, .bool false] 24))) := ⟨((Bk.new3 w (.string u) (.int .i64 o) (.bool false) 24).step ((Below.refl _ _).alloc (Nat.le_refl _) _)).step ((Below.refl _ _).alloc (Nat.le_refl _) _), (((by have q := Bk.new3 (w.alloc (.cells #[.string u, .int .i64 o, .bool false] 24)) (.string s) (.int .i64 p) (.bool false) 24; simpa using q) : Bk ((w.alloc (.cells #[.string u, .int .i64 o, .bool false] 24)).alloc (.cells #[.string s, .int .i64 p, .bool false] 24)) (w.heap.size + 1) [.string s, .int .i64 p, .bool false])).step ((Below.refl _ _).alloc (Nat.le_refl _) _), ((by have q := Bk.new3 ((w.alloc (.cells #[.string u, .int .i64 o, .bool false] 24)).alloc (.cells #[.string s, .int .i64 p, .bool false] 24)) (.string t) (.int .i64 q) (.bool false) 24; simpa using q) : Bk (((w.alloc (.cells #[.string u, .int .i64 o, .bool false] 24)).alloc (.cells #[.string s, .int .i64 p, .bool false] 24)).alloc (.cells #[.string t, .int .i64 q, .bool false] 24)) (w.heap.size + 1 + 1) [.string t, .int .i64 q, .bool false]), ((((Below.refl w.heap.size w)).alloc (Nat.le_refl _) _).alloc ((((Below.refl w.heap.size w)).alloc (Nat.le_refl _) _).size) _).alloc (((((Below.refl w.heap.size w)).alloc (Nat.le_refl _) _).alloc ((((Below.refl w.heap.size w)).alloc (Nat.le_refl _) _).size) _).size) _⟩
 go_enter Tryz.func91, Tryz.ntmps91
 go_upto_region 1 with fail
 generalize (((w.alloc (.cells #[.string u, .int .i64 o, .bool false] 24)).alloc (.cells #[.string s, .int .i64 p, .bool false] 24)).alloc (.cells #[.string t, .int .i64 q, .bool false] 24)) = w1 at *
 have l1_0 := F0.out.1.lt
 have a1_0_0 := F0.out.1.cell 0 _ rfl
 have f1_0_0 := F0.out.1.fz 0
 have a1_0_1 := F0.out.1.cell 1 _ rfl
 have f1_0_1 := F0.out.1.fz 1
 have a1_0_2 := F0.out.1.cell 2 _ rfl
 have f1_0_2 := F0.out.1.fz 2
 have l1_1 := F0.out.2.1.lt
 have a1_1_0 := F0.out.2.1.cell 0 _ rfl
 have f1_1_0 := F0.out.2.1.fz 0
 have a1_1_1 := F0.out.2.1.cell 1 _ rfl
 have f1_1_1 := F0.out.2.1.fz 1
 have a1_1_2 := F0.out.2.1.cell 2 _ rfl
 have f1_1_2 := F0.out.2.1.fz 2
 have l1_2 := F0.out.2.2.1.lt
 have a1_2_0 := F0.out.2.2.1.cell 0 _ rfl
 have f1_2_0 := F0.out.2.2.1.fz 0
 have a1_2_1 := F0.out.2.2.1.cell 1 _ rfl
 have f1_2_1 := F0.out.2.2.1.fz 1
 have a1_2_2 := F0.out.2.2.1.cell 2 _ rfl
 have f1_2_2 := F0.out.2.2.1.fz 2
 have ne1_0_1 : ¬ w.heap.size = w.heap.size + 1 := by omega
 have ne1_0_2 : ¬ w.heap.size = w.heap.size + 1 + 1 := by omega
 have ne1_1_0 : ¬ w.heap.size + 1 = w.heap.size := by omega
 have ne1_1_2 : ¬ w.heap.size + 1 = w.heap.size + 1 + 1 := by omega
 have ne1_2_0 : ¬ w.heap.size + 1 + 1 = w.heap.size := by omega
 have ne1_2_1 : ¬ w.heap.size + 1 + 1 = w.heap.size + 1 := by omega
 go_wp2_with fail
 all_goals first | (exfalso; omega) | skip
 refine (HC _).mono ?_
 rintro o2 w2 ⟨rfl, bb⟩
 have F1 : Hid (Bk w2 (w.heap.size) [.string u, .int .i64 o, .bool false] ∧ Bk w2 (w.heap.size + 1) [.string s, .int .i64 p, .bool false] ∧ Bk w2 (w.heap.size + 1 + 1) [.string t, .int .i64 q, .bool false] ∧ Below w.heap.size w w2) := ⟨(F0.out.1).step bb, (F0.out.2.1).step bb, (F0.out.2.2.1).step bb, (F0.out.2.2.2).trans (bb.mono (F0.out.2.2.2).size)⟩
 clear F0
 clear bb
 clear l1_0 a1_0_0 f1_0_0 a1_0_1 f1_0_1 a1_0_2 f1_0_2 l1_1 a1_1_0 f1_1_0 a1_1_1 f1_1_1 a1_1_2 f1_1_2 l1_2 a1_2_0 f1_2_0 a1_2_1 f1_2_1 a1_2_2 f1_2_2
 have l2_0 := F1.out.1.lt
 have a2_0_0 := F1.out.1.cell 0 _ rfl
 have f2_0_0 := F1.out.1.fz 0
 have a2_0_1 := F1.out.1.cell 1 _ rfl
 have f2_0_1 := F1.out.1.fz 1
 have a2_0_2 := F1.out.1.cell 2 _ rfl
 have f2_0_2 := F1.out.1.fz 2
 have l2_1 := F1.out.2.1.lt
 have a2_1_0 := F1.out.2.1.cell 0 _ rfl
 have f2_1_0 := F1.out.2.1.fz 0
 have a2_1_1 := F1.out.2.1.cell 1 _ rfl
 have f2_1_1 := F1.out.2.1.fz 1
 have a2_1_2 := F1.out.2.1.cell 2 _ rfl
 have f2_1_2 := F1.out.2.1.fz 2
 have l2_2 := F1.out.2.2.1.lt
 have a2_2_0 := F1.out.2.2.1.cell 0 _ rfl
 have f2_2_0 := F1.out.2.2.1.fz 0
 have a2_2_1 := F1.out.2.2.1.cell 1 _ rfl
 have f2_2_1 := F1.out.2.2.1.fz 1
 have a2_2_2 := F1.out.2.2.1.cell 2 _ rfl
 have f2_2_2 := F1.out.2.2.1.fz 2
 have ne2_0_1 : ¬ w.heap.size = w.heap.size + 1 := by omega
 have ne2_0_2 : ¬ w.heap.size = w.heap.size + 1 + 1 := by omega
 have ne2_1_0 : ¬ w.heap.size + 1 = w.heap.size := by omega
 have ne2_1_2 : ¬ w.heap.size + 1 = w.heap.size + 1 + 1 := by omega
 have ne2_2_0 : ¬ w.heap.size + 1 + 1 = w.heap.size := by omega
 have ne2_2_1 : ¬ w.heap.size + 1 + 1 = w.heap.size + 1 := by omega
 go_wp2_with fail
 all_goals first | (exfalso; omega) | skip
 refine (HD _).mono ?_
 rintro o3 w3 ⟨rfl, bb⟩
 have F2 : Hid (Bk w3 (w.heap.size) [.string u, .int .i64 o, .bool false] ∧ Bk w3 (w.heap.size + 1) [.string s, .int .i64 p, .bool false] ∧ Bk w3 (w.heap.size + 1 + 1) [.string t, .int .i64 q, .bool false] ∧ Below w.heap.size w w3) := ⟨(F1.out.1).step bb, (F1.out.2.1).step bb, (F1.out.2.2.1).step bb, (F1.out.2.2.2).trans (bb.mono (F1.out.2.2.2).size)⟩
 clear F1
 clear bb
 clear l2_0 a2_0_0 f2_0_0 a2_0_1 f2_0_1 a2_0_2 f2_0_2 l2_1 a2_1_0 f2_1_0 a2_1_1 f2_1_1 a2_1_2 f2_1_2 l2_2 a2_2_0 f2_2_0 a2_2_1 f2_2_1 a2_2_2 f2_2_2
 have l3_0 := F2.out.1.lt
 have a3_0_0 := F2.out.1.cell 0 _ rfl
 have f3_0_0 := F2.out.1.fz 0
 have a3_0_1 := F2.out.1.cell 1 _ rfl
 have f3_0_1 := F2.out.1.fz 1
 have a3_0_2 := F2.out.1.cell 2 _ rfl
 have f3_0_2 := F2.out.1.fz 2
 have l3_1 := F2.out.2.1.lt
 have a3_1_0 := F2.out.2.1.cell 0 _ rfl
 have f3_1_0 := F2.out.2.1.fz 0
 have a3_1_1 := F2.out.2.1.cell 1 _ rfl
 have f3_1_1 := F2.out.2.1.fz 1
 have a3_1_2 := F2.out.2.1.cell 2 _ rfl
 have f3_1_2 := F2.out.2.1.fz 2
 have l3_2 := F2.out.2.2.1.lt
 have a3_2_0 := F2.out.2.2.1.cell 0 _ rfl
 have f3_2_0 := F2.out.2.2.1.fz 0
 have a3_2_1 := F2.out.2.2.1.cell 1 _ rfl
 have f3_2_1 := F2.out.2.2.1.fz 1
 have a3_2_2 := F2.out.2.2.1.cell 2 _ rfl
 have f3_2_2 := F2.out.2.2.1.fz 2
 have ne3_0_1 : ¬ w.heap.size = w.heap.size + 1 := by omega
 have ne3_0_2 : ¬ w.heap.size = w.heap.size + 1 + 1 := by omega
 have ne3_1_0 : ¬ w.heap.size + 1 = w.heap.size := by omega
 have ne3_1_2 : ¬ w.heap.size + 1 = w.heap.size + 1 + 1 := by omega
 have ne3_2_0 : ¬ w.heap.size + 1 + 1 = w.heap.size := by omega
 have ne3_2_1 : ¬ w.heap.size + 1 + 1 = w.heap.size + 1 := by omega
 go_wp2
 go_ret
 exact ⟨rfl, F2.out.2.2.2⟩
theorem wi_3 {s t u : ByteArray} {p q o l h : Int} (q1 : ¬ l < 0)  (HC : ∀ W, Calls Tryz.prog 124 #[.agg #[.string s, .int .i64 p, .bool false], .agg #[.string u, .int .i64 o, .bool false]] W fun e w' => e = .returned (.tuple #[.int .i64 l, .int .i64 0]) ∧ Below W.heap.size W w') (HD : ∀ W, Calls Tryz.prog 124 #[.agg #[.string u, .int .i64 o, .bool false], .agg #[.string t, .int .i64 q, .bool false]] W fun e w' => e = .returned (.tuple #[.int .i64 h, .int .i64 0]) ∧ Below W.heap.size W w') (w : World) :
 Calls Tryz.prog 91 #[.agg #[.string u, .int .i64 o, .bool false], .agg #[.string s, .int .i64 p, .bool false], .agg #[.string t, .int .i64 q, .bool false], .bool false] w fun x w' => x = .returned (.bool false) ∧ Below w.heap.size w w' := by
 have F0 : Hid (Bk (((w.alloc (.cells #[.string u, .int .i64 o, .bool false] 24)).alloc (.cells #[.string s, .int .i64 p, .bool false] 24)).alloc (.cells #[.string t, .int .i64 q, .bool false] 24)) (w.heap.size) [.string u, .int .i64 o, .bool false] ∧ Bk (((w.alloc (.cells #[.string u, .int .i64 o, .bool false] 24)).alloc (.cells #[.string s, .int .i64 p, .bool false] 24)).alloc (.cells #[.string t, .int .i64 q, .bool false] 24)) (w.heap.size + 1) [.string s, .int .i64 p, .bool false] ∧ Bk (((w.alloc (.cells #[.string u, .int .i64 o, .bool false] 24)).alloc (.cells #[.string s, .int .i64 p, .bool false] 24)).alloc (.cells #[.string t, .int .i64 q, .bool false] 24)) (w.heap.size + 1 + 1) [.string t, .int .i64 q, .bool false] ∧ Below w.heap.size w (((w.alloc (.cells #[.string u, .int .i64 o, .bool false] 24)).alloc (.cells #[.string s, .int .i64 p, .bool false] 24)).alloc (.cells #[.string t, .int .i64 q, .bool false] 24))) := ⟨((Bk.new3 w (.string u) (.int .i64 o) (.bool false) 24).step ((Below.refl _ _).alloc (Nat.le_refl _) _)).step ((Below.refl _ _).alloc (Nat.le_refl _) _), (((by have q := Bk.new3 (w.alloc (.cells #[.string u, .int .i64 o, .bool false] 24)) (.string s) (.int .i64 p) (.bool false) 24; simpa using q) : Bk ((w.alloc (.cells #[.string u, .int .i64 o, .bool false] 24)).alloc (.cells #[.string s, .int .i64 p, .bool false] 24)) (w.heap.size + 1) [.string s, .int .i64 p, .bool false])).step ((Below.refl _ _).alloc (Nat.le_refl _) _), ((by have q := Bk.new3 ((w.alloc (.cells #[.string u, .int .i64 o, .bool false] 24)).alloc (.cells #[.string s, .int .i64 p, .bool false] 24)) (.string t) (.int .i64 q) (.bool false) 24; simpa using q) : Bk (((w.alloc (.cells #[.string u, .int .i64 o, .bool false] 24)).alloc (.cells #[.string s, .int .i64 p, .bool false] 24)).alloc (.cells #[.string t, .int .i64 q, .bool false] 24)) (w.heap.size + 1 + 1) [.string t, .int .i64 q, .bool false]), ((((Below.refl w.heap.size w)).alloc (Nat.le_refl _) _).alloc ((((Below.refl w.heap.size w)).alloc (Nat.le_refl _) _).size) _).alloc (((((Below.refl w.heap.size w)).alloc (Nat.le_refl _) _).alloc ((((Below.refl w.heap.size w)).alloc (Nat.le_refl _) _).size) _).size) _⟩
 go_enter Tryz.func91, Tryz.ntmps91
 go_upto_region 1 with fail
 generalize (((w.alloc (.cells #[.string u, .int .i64 o, .bool false] 24)).alloc (.cells #[.string s, .int .i64 p, .bool false] 24)).alloc (.cells #[.string t, .int .i64 q, .bool false] 24)) = w1 at *
 have l1_0 := F0.out.1.lt
 have a1_0_0 := F0.out.1.cell 0 _ rfl
 have f1_0_0 := F0.out.1.fz 0
 have a1_0_1 := F0.out.1.cell 1 _ rfl
 have f1_0_1 := F0.out.1.fz 1
 have a1_0_2 := F0.out.1.cell 2 _ rfl
 have f1_0_2 := F0.out.1.fz 2
 have l1_1 := F0.out.2.1.lt
 have a1_1_0 := F0.out.2.1.cell 0 _ rfl
 have f1_1_0 := F0.out.2.1.fz 0
 have a1_1_1 := F0.out.2.1.cell 1 _ rfl
 have f1_1_1 := F0.out.2.1.fz 1
 have a1_1_2 := F0.out.2.1.cell 2 _ rfl
 have f1_1_2 := F0.out.2.1.fz 2
 have l1_2 := F0.out.2.2.1.lt
 have a1_2_0 := F0.out.2.2.1.cell 0 _ rfl
 have f1_2_0 := F0.out.2.2.1.fz 0
 have a1_2_1 := F0.out.2.2.1.cell 1 _ rfl
 have f1_2_1 := F0.out.2.2.1.fz 1
 have a1_2_2 := F0.out.2.2.1.cell 2 _ rfl
 have f1_2_2 := F0.out.2.2.1.fz 2
 have ne1_0_1 : ¬ w.heap.size = w.heap.size + 1 := by omega
 have ne1_0_2 : ¬ w.heap.size = w.heap.size + 1 + 1 := by omega
 have ne1_1_0 : ¬ w.heap.size + 1 = w.heap.size := by omega
 have ne1_1_2 : ¬ w.heap.size + 1 = w.heap.size + 1 + 1 := by omega
 have ne1_2_0 : ¬ w.heap.size + 1 + 1 = w.heap.size := by omega
 have ne1_2_1 : ¬ w.heap.size + 1 + 1 = w.heap.size + 1 := by omega
 go_wp2_with fail
 all_goals first | (exfalso; omega) | skip
 refine (HC _).mono ?_
 rintro o2 w2 ⟨rfl, bb⟩
 have F1 : Hid (Bk w2 (w.heap.size) [.string u, .int .i64 o, .bool false] ∧ Bk w2 (w.heap.size + 1) [.string s, .int .i64 p, .bool false] ∧ Bk w2 (w.heap.size + 1 + 1) [.string t, .int .i64 q, .bool false] ∧ Below w.heap.size w w2) := ⟨(F0.out.1).step bb, (F0.out.2.1).step bb, (F0.out.2.2.1).step bb, (F0.out.2.2.2).trans (bb.mono (F0.out.2.2.2).size)⟩
 clear F0
 clear bb
 clear l1_0 a1_0_0 f1_0_0 a1_0_1 f1_0_1 a1_0_2 f1_0_2 l1_1 a1_1_0 f1_1_0 a1_1_1 f1_1_1 a1_1_2 f1_1_2 l1_2 a1_2_0 f1_2_0 a1_2_1 f1_2_1 a1_2_2 f1_2_2
 have l2_0 := F1.out.1.lt
 have a2_0_0 := F1.out.1.cell 0 _ rfl
 have f2_0_0 := F1.out.1.fz 0
 have a2_0_1 := F1.out.1.cell 1 _ rfl
 have f2_0_1 := F1.out.1.fz 1
 have a2_0_2 := F1.out.1.cell 2 _ rfl
 have f2_0_2 := F1.out.1.fz 2
 have l2_1 := F1.out.2.1.lt
 have a2_1_0 := F1.out.2.1.cell 0 _ rfl
 have f2_1_0 := F1.out.2.1.fz 0
 have a2_1_1 := F1.out.2.1.cell 1 _ rfl
 have f2_1_1 := F1.out.2.1.fz 1
 have a2_1_2 := F1.out.2.1.cell 2 _ rfl
 have f2_1_2 := F1.out.2.1.fz 2
 have l2_2 := F1.out.2.2.1.lt
 have a2_2_0 := F1.out.2.2.1.cell 0 _ rfl
 have f2_2_0 := F1.out.2.2.1.fz 0
 have a2_2_1 := F1.out.2.2.1.cell 1 _ rfl
 have f2_2_1 := F1.out.2.2.1.fz 1
 have a2_2_2 := F1.out.2.2.1.cell 2 _ rfl
 have f2_2_2 := F1.out.2.2.1.fz 2
 have ne2_0_1 : ¬ w.heap.size = w.heap.size + 1 := by omega
 have ne2_0_2 : ¬ w.heap.size = w.heap.size + 1 + 1 := by omega
 have ne2_1_0 : ¬ w.heap.size + 1 = w.heap.size := by omega
 have ne2_1_2 : ¬ w.heap.size + 1 = w.heap.size + 1 + 1 := by omega
 have ne2_2_0 : ¬ w.heap.size + 1 + 1 = w.heap.size := by omega
 have ne2_2_1 : ¬ w.heap.size + 1 + 1 = w.heap.size + 1 := by omega
 go_wp2_with fail
 all_goals first | (exfalso; omega) | skip
 refine (HD _).mono ?_
 rintro o3 w3 ⟨rfl, bb⟩
 have F2 : Hid (Bk w3 (w.heap.size) [.string u, .int .i64 o, .bool false] ∧ Bk w3 (w.heap.size + 1) [.string s, .int .i64 p, .bool false] ∧ Bk w3 (w.heap.size + 1 + 1) [.string t, .int .i64 q, .bool false] ∧ Below w.heap.size w w3) := ⟨(F1.out.1).step bb, (F1.out.2.1).step bb, (F1.out.2.2.1).step bb, (F1.out.2.2.2).trans (bb.mono (F1.out.2.2.2).size)⟩
 clear F1
 clear bb
 clear l2_0 a2_0_0 f2_0_0 a2_0_1 f2_0_1 a2_0_2 f2_0_2 l2_1 a2_1_0 f2_1_0 a2_1_1 f2_1_1 a2_1_2 f2_1_2 l2_2 a2_2_0 f2_2_0 a2_2_1 f2_2_1 a2_2_2 f2_2_2
 have l3_0 := F2.out.1.lt
 have a3_0_0 := F2.out.1.cell 0 _ rfl
 have f3_0_0 := F2.out.1.fz 0
 have a3_0_1 := F2.out.1.cell 1 _ rfl
 have f3_0_1 := F2.out.1.fz 1
 have a3_0_2 := F2.out.1.cell 2 _ rfl
 have f3_0_2 := F2.out.1.fz 2
 have l3_1 := F2.out.2.1.lt
 have a3_1_0 := F2.out.2.1.cell 0 _ rfl
 have f3_1_0 := F2.out.2.1.fz 0
 have a3_1_1 := F2.out.2.1.cell 1 _ rfl
 have f3_1_1 := F2.out.2.1.fz 1
 have a3_1_2 := F2.out.2.1.cell 2 _ rfl
 have f3_1_2 := F2.out.2.1.fz 2
 have l3_2 := F2.out.2.2.1.lt
 have a3_2_0 := F2.out.2.2.1.cell 0 _ rfl
 have f3_2_0 := F2.out.2.2.1.fz 0
 have a3_2_1 := F2.out.2.2.1.cell 1 _ rfl
 have f3_2_1 := F2.out.2.2.1.fz 1
 have a3_2_2 := F2.out.2.2.1.cell 2 _ rfl
 have f3_2_2 := F2.out.2.2.1.fz 2
 have ne3_0_1 : ¬ w.heap.size = w.heap.size + 1 := by omega
 have ne3_0_2 : ¬ w.heap.size = w.heap.size + 1 + 1 := by omega
 have ne3_1_0 : ¬ w.heap.size + 1 = w.heap.size := by omega
 have ne3_1_2 : ¬ w.heap.size + 1 = w.heap.size + 1 + 1 := by omega
 have ne3_2_0 : ¬ w.heap.size + 1 + 1 = w.heap.size := by omega
 have ne3_2_1 : ¬ w.heap.size + 1 + 1 = w.heap.size + 1 := by omega
 go_wp2
 go_ret
 exact ⟨rfl, F2.out.2.2.2⟩
theorem within_any {s t u : ByteArray} {p q o l h : Int} {c : Bool} (HC : ∀ W, Calls Tryz.prog 124 #[.agg #[.string s, .int .i64 p, .bool false], .agg #[.string u, .int .i64 o, .bool false]] W fun e w' => e = .returned (.tuple #[.int .i64 l, .int .i64 0]) ∧ Below W.heap.size W w') (HD : ∀ W, Calls Tryz.prog 124 #[.agg #[.string u, .int .i64 o, .bool false], .agg #[.string t, .int .i64 q, .bool false]] W fun e w' => e = .returned (.tuple #[.int .i64 h, .int .i64 0]) ∧ Below W.heap.size W w') (w : World) :
 Calls Tryz.prog 91 #[.agg #[.string u, .int .i64 o, .bool false], .agg #[.string s, .int .i64 p, .bool false], .agg #[.string t, .int .i64 q, .bool false], .bool c] w fun x w' => x = .returned (.bool (inB c (-l) h)) ∧ Below w.heap.size w w' := by
 unfold inB
 cases c
 · rw [if_neg (by decide)]
   by_cases q1 : l < 0
   · rw [decide_eq_true (show 0 < -l by omega), Bool.true_and]
     by_cases q3 : h < 0
     · rw [decide_eq_true q3]; exact wi_2a q1 q3 HC HD w
     · exact wi_2b q1 q3 HC HD w
   · rw [decide_eq_false (show ¬ 0 < -l by omega), Bool.false_and]; exact wi_3 q1 HC HD w
 · rw [if_pos rfl]
   by_cases q1 : l ≤ 0
   · rw [decide_eq_true (show 0 ≤ -l by omega), Bool.true_and]
     by_cases q2 : l < 0
     · have e : decide (h ≤ 0) = (decide (h < 0) || decide (h ≤ 0)) := by
        by_cases q3 : h < 0
        · rw [decide_eq_true q3, Bool.true_or]; exact decide_eq_true (by omega)
        · rw [decide_eq_false q3, Bool.false_or]
       by_cases q3 : h < 0
       · rw [decide_eq_true (show h ≤ 0 by omega)]; exact wi_1a q2 q3 HC HD w
       · rw [e]; exact wi_1b q1 q2 q3 HC HD w
     · exact wi_1c q1 q2 HC HD w
   · rw [decide_eq_false (show ¬ 0 ≤ -l by omega), Bool.false_and]; exact wi_0a q1 HC HD w
def firstF (f : Nat → Option Dp) : Nat → Nat → Option Dp
  | _, 0 => none
  | n, k + 1 => match f n with
    | some d => some d
    | none => firstF f (n + 1) k
theorem Fl.first21 {z : Int} {f T : Nat} {L : Int} {S I b : Nat} {u : ByteArray} {o : Int} {s : ByteArray} {p : Int} {t : ByteArray} {q : Int} {A : Nat} {d1 d2 : Nat → Dp} (h : Fl z f T L S I b u o s p t q A d1 d2) (c : Bool) : ∃ N d, firstF (fD c s p t q u d1 d2) 1 17 = some d ∧ 1 ≤ N ∧ N ≤ (if z = 32 then 9 else 17) ∧ fD c s p t q u d1 d2 N = some d ∧ ∀ m, 1 ≤ m → m < N → fD c s p t q u d1 d2 m = none := by
  obtain ⟨M, hM, M1, dM, eM⟩ : ∃ M : Nat, M = (if z = 32 then 9 else 17) ∧ M ≤ 17 ∧ ∃ d, fD c s p t q u d1 d2 M = some d := by
    rcases h.fn.sf with ⟨rfl, rfl, rfl, rfl, rfl, rfl⟩ | ⟨rfl, rfl, rfl, rfl, rfl, rfl⟩
    · obtain ⟨d, e⟩ := h.there c (N := 9) (by decide) (by decide) (by decide)
      exact ⟨9, rfl, by decide, d, e⟩
    · obtain ⟨d, e⟩ := h.there c (N := 17) (by decide) (by decide) (by decide)
      exact ⟨17, rfl, by decide, d, e⟩
  have key : ∀ k n, n ≤ M → M < n + k → (∀ m, 1 ≤ m → m < n → fD c s p t q u d1 d2 m = none) → 1 ≤ n → ∃ N d, firstF (fD c s p t q u d1 d2) n k = some d ∧ 1 ≤ N ∧ N ≤ M ∧ fD c s p t q u d1 d2 N = some d ∧ ∀ m, 1 ≤ m → m < N → fD c s p t q u d1 d2 m = none := by
    intro k
    induction k with
    | zero => intro n a b _ _; omega
    | succ k ih =>
      intro n a b hn n1
      unfold firstF
      cases e : fD c s p t q u d1 d2 n with
      | some d => exact ⟨n, d, rfl, n1, a, e, hn⟩
      | none =>
        have nM : n ≠ M := by
          rintro rfl
          rw [e] at eM
          cases eM
        exact ih (n + 1) (by omega) (by omega) (fun m m1 m2 => by
          rcases Nat.lt_or_ge m n with q | q
          · exact hn m m1 q
          · rw [show m = n by omega]; exact e) (by omega)
  obtain ⟨N, d, k1, k2, k3, k4, k5⟩ := key 17 1 (by rw [hM]; split <;> omega) (by omega) (fun m a b => by omega) (Nat.le_refl 1)
  exact ⟨N, d, k1, k2, by rw [← hM]; exact k3, k4, k5⟩
def smOk (f : Nat) (L : Int) (m A : Nat) : Bool := decide (10 ^ (A - 1) ≤ vlF f L m) && decide (vlF f L m < 10 ^ A) && (decide (hiF f L m < 10 ^ A) || (decide (pickU true (loF f L m) (hiF f L m) (vlF f L m) (10 ^ (A - 1)) = some (10 ^ A)) && decide (pickU false (loF f L m) (hiF f L m) (vlF f L m) (10 ^ (A - 1)) = some (10 ^ A))))
theorem sm23 : [(1, 1056), (2, 1056), (3, 1056), (4, 1056), (5, 1056), (6, 1056), (7, 1056), (8, 1057), (9, 1057)].all (fun x => smOk 23 (-149) x.1 x.2) = true := by decide +kernel
theorem sm52 : [(1, 777), (2, 777), (3, 778), (4, 778), (5, 778), (6, 778), (7, 778), (8, 778), (9, 778)].all (fun x => smOk 52 (-1074) x.1 x.2) = true := by decide +kernel
theorem place_eq {X A B : Nat} (A0 : 0 < A) (B0 : 0 < B) (a1 : 10 ^ (A - 1) ≤ X) (a2 : X < 10 ^ A) (b1 : 10 ^ (B - 1) ≤ X) (b2 : X < 10 ^ B) : A = B := by
 have x1 := (Nat.pow_lt_pow_iff_right (a := 10) (by decide)).1 (Nat.lt_of_le_of_lt a1 b2)
 have x2 := (Nat.pow_lt_pow_iff_right (a := 10) (by decide)).1 (Nat.lt_of_le_of_lt b1 a2)
 omega
theorem sm_use {f : Nat} {L : Int} {m B A : Nat} (B0 : 0 < B) (A0 : 0 < A) (h : smOk f L m B = true) (c : Bool) (a1 : 10 ^ (A - 1) ≤ vlF f L m) (a2 : vlF f L m < 10 ^ A) (hh : 10 ^ A ≤ hiF f L m) :
 pickU c (loF f L m) (hiF f L m) (vlF f L m) (10 ^ (A - 1)) = some (10 ^ A) := by
 unfold smOk at h
 simp only [Bool.and_eq_true, Bool.or_eq_true, decide_eq_true_eq] at h
 obtain ⟨⟨h1, h2⟩, h3⟩ := h
 obtain rfl := place_eq A0 B0 a1 a2 h1 h2
 rcases h3 with h3 | ⟨h3, h4⟩
 · omega
 · cases c
   · exact h4
   · exact h3
theorem sm_pick {f T : Nat} {L : Int} (fs : Fs f T L) {m A : Nat} (m0 : m ≠ 0) (m10 : m < 10) (A0 : 0 < A) (c : Bool) (a1 : 10 ^ (A - 1) ≤ vlF f L m) (a2 : vlF f L m < 10 ^ A) (hh : 10 ^ A ≤ hiF f L m) :
 pickU c (loF f L m) (hiF f L m) (vlF f L m) (10 ^ (A - 1)) = some (10 ^ A) := by
 rcases fs with ⟨rfl, rfl, rfl⟩ | ⟨rfl, rfl, rfl⟩
 · have k := List.all_eq_true.1 sm23
   rcases (by omega : m = 1 ∨ m = 2 ∨ m = 3 ∨ m = 4 ∨ m = 5 ∨ m = 6 ∨ m = 7 ∨ m = 8 ∨ m = 9) with rfl | rfl | rfl | rfl | rfl | rfl | rfl | rfl | rfl
   · exact sm_use (by decide) A0 (k (1, 1056) (by simp)) c a1 a2 hh
   · exact sm_use (by decide) A0 (k (2, 1056) (by simp)) c a1 a2 hh
   · exact sm_use (by decide) A0 (k (3, 1056) (by simp)) c a1 a2 hh
   · exact sm_use (by decide) A0 (k (4, 1056) (by simp)) c a1 a2 hh
   · exact sm_use (by decide) A0 (k (5, 1056) (by simp)) c a1 a2 hh
   · exact sm_use (by decide) A0 (k (6, 1056) (by simp)) c a1 a2 hh
   · exact sm_use (by decide) A0 (k (7, 1056) (by simp)) c a1 a2 hh
   · exact sm_use (by decide) A0 (k (8, 1057) (by simp)) c a1 a2 hh
   · exact sm_use (by decide) A0 (k (9, 1057) (by simp)) c a1 a2 hh
 · have k := List.all_eq_true.1 sm52
   rcases (by omega : m = 1 ∨ m = 2 ∨ m = 3 ∨ m = 4 ∨ m = 5 ∨ m = 6 ∨ m = 7 ∨ m = 8 ∨ m = 9) with rfl | rfl | rfl | rfl | rfl | rfl | rfl | rfl | rfl
   · exact sm_use (by decide) A0 (k (1, 777) (by simp)) c a1 a2 hh
   · exact sm_use (by decide) A0 (k (2, 777) (by simp)) c a1 a2 hh
   · exact sm_use (by decide) A0 (k (3, 778) (by simp)) c a1 a2 hh
   · exact sm_use (by decide) A0 (k (4, 778) (by simp)) c a1 a2 hh
   · exact sm_use (by decide) A0 (k (5, 778) (by simp)) c a1 a2 hh
   · exact sm_use (by decide) A0 (k (6, 778) (by simp)) c a1 a2 hh
   · exact sm_use (by decide) A0 (k (7, 778) (by simp)) c a1 a2 hh
   · exact sm_use (by decide) A0 (k (8, 778) (by simp)) c a1 a2 hh
   · exact sm_use (by decide) A0 (k (9, 778) (by simp)) c a1 a2 hh
theorem big_pick {c : Bool} {lo X hi S : Nat} (S0 : 0 < S) (s2 : X < 10 * S) (hz : hitB c lo hi (10 * S) = true) (near : 20 * hi ≤ 21 * X) : pickU c lo hi X S = some (10 * S) := by
 have up : 10 * S ≤ hi := by
  rw [hitB_iff] at hz
  rcases hz with ⟨_, _, q⟩ | ⟨_, _, q⟩ <;> omega
 have dv : X / S = 9 := Nat.div_eq_of_lt_le (by omega) (by omega)
 have dm := Nat.div_add_mod X S
 rw [dv] at dm
 have r : rnB X S = true := by
  unfold rnB
  exact decide_eq_true (Or.inl (by omega))
 have ue : upU X S = 10 * S := by
  rw [up_is S0 (by omega)]
  unfold dnU
  rw [dv]
  omega
 unfold pickU rnU
 rw [r, if_pos rfl, ue, if_pos hz]
theorem top_pick {c : Bool} {lo X hi S : Nat} (s2 : X < S) (x0 : 0 < X) (hz : hitB c lo hi S = true) (near : S < 2 * X) : pickU c lo hi X S = some S := by
 have dv : X / S = 0 := Nat.div_eq_of_lt s2
 have dm : X % S = X := Nat.mod_eq_of_lt s2
 have r : rnB X S = true := by
  unfold rnB
  rw [dm]
  exact decide_eq_true (Or.inl near)
 have ue : upU X S = S := by
  rw [up_is (by omega) (by omega)]
  unfold dnU
  rw [dv]
  omega
 unfold pickU rnU
 rw [r, if_pos rfl, ue, if_pos hz]
theorem lo_pos {f : Nat} {L : Int} {m : Nat} (h0 : m ≠ 0) : 0 < loF f L m := by
 obtain ⟨k, rfl⟩ : ∃ k, m = k + 1 := ⟨m - 1, by omega⟩
 exact fv_pos (by omega)
theorem mt_small {f m : Nat} (hf : 4 ≤ f) (h : mt f m < 10) : m < 10 := by
 have p : 2 ^ 4 ≤ 2 ^ f := Nat.pow_le_pow_right (by decide) hf
 unfold mt at h
 split at h
 · rename_i q
   have dm := Nat.div_add_mod m (2 ^ f)
   rw [q, Nat.mul_zero] at dm
   omega
 · omega
theorem Fl.quick {z : Int} {f T : Nat} {L : Int} {S I b : Nat} {u : ByteArray} {o : Int} {s : ByteArray} {p : Int} {t : ByteArray} {q : Int} {A : Nat} {d1 d2 : Nat → Dp} (h : Fl z f T L S I b u o s p t q A d1 d2) (c : Bool) {j : Nat}
    (hk : anyB c (loF f L (mg S b)) (hiF f L (mg S b)) (vlF f L (mg S b)) (10 ^ j) = true) (hn : anyB c (loF f L (mg S b)) (hiF f L (mg S b)) (vlF f L (mg S b)) (10 ^ (j + 1)) = false) :
    ∃ N d Z, firstF (fD c s p t q u d1 d2) 1 17 = some d ∧ 1 ≤ N ∧ N ≤ (if z = 32 then 9 else 17) ∧ fD c s p t q u d1 d2 N = some d ∧ (∀ m, 1 ≤ m → m < N → fD c s p t q u d1 d2 m = none) ∧
      pickU c (loF f L (mg S b)) (hiF f L (mg S b)) (vlF f L (mg S b)) (10 ^ j) = some Z ∧ Dx d.1 d.2 Z := by
  obtain ⟨N, d, f1, n0, n1, f2, f3⟩ := h.first21 c
  have n17 : N ≤ 17 := by
    split at n1 <;> omega
  obtain ⟨_, low, high⟩ := h.g.some h.pos
  rw [h.hA, show ((A : Int) - 1).toNat = A - 1 by omega] at low
  rw [h.hA, show ((A : Int)).toNat = A by omega] at high
  have fs := h.fn.sf.fs.1
  have r := h.rm
  have A0 : 0 < A := by
    apply Nat.pos_of_ne_zero
    intro e
    rw [e] at high low
    have := vl_pos (f := f) L h.m0
    simp at high
    omega
  rcases Nat.lt_or_ge j A with q1 | q1
  · have hN : N = A - j := by
      apply Nat.le_antisymm
      · apply Nat.le_of_not_lt
        intro e
        have x := f3 (A - j) (by omega) e
        rw [h.none_iff c (by omega) (by omega), show A - (A - j) = j by omega, hk] at x
        cases x
      · apply Nat.le_of_not_lt
        intro e
        cases x : anyB c (loF f L (mg S b)) (hiF f L (mg S b)) (vlF f L (mg S b)) (10 ^ (A - N)) with
        | false =>
          rw [(h.none_iff c n0 n17).2 x] at f2
          cases f2
        | true =>
          rw [any_mono r (ten_pos (j + 1)) (Nat.pow_dvd_pow 10 (by omega)) x] at hn
          cases hn
    rcases h.pick c n0 n17 with ⟨x, _⟩ | ⟨d', Z, e1, e2, e3, _⟩
    · rw [f2] at x; cases x
    · rw [f2] at e1
      cases e1
      rw [hN, show A - (A - j) = j by omega] at e2
      exact ⟨N, d, Z, f1, n0, n1, f2, f3, e2, e3⟩
  · obtain ⟨Z, z1, z2⟩ := any_ex hk
    have m0 := h.m0
    have lp := lo_pos (f := f) (L := L) m0
    have vg := vl_g fs h.fn.m
    have hg := hi_g fs h.fn.m
    have mp := mt_some (f := f) m0
    have g0 := gF_pos f L (mg S b)
    have ms := @mt_small f (mg S b) (by rcases fs with ⟨rfl, _⟩ | ⟨rfl, _⟩ <;> omega)
    have ni := h.none_iff c (n := 1) (by omega) (by omega)
    have pk := h.pick c (n := 1) (by omega) (by omega)
    have sp := fun (m10 : mg S b < 10) => sm_pick fs m0 m10 A0 c low high
    generalize hiF f L (mg S b) = hi at *
    generalize loF f L (mg S b) = lo at *
    generalize vlF f L (mg S b) = X at *
    generalize gF f L (mg S b) = g at *
    have two : 2 * g ≤ X := by
      rw [vg, Nat.mul_assoc]
      have := Nat.le_mul_of_pos_left g mp
      omega
    have zp : 0 < Z := by
      rw [hitB_iff] at z1
      rcases z1 with ⟨_, a, _⟩ | ⟨_, a, _⟩ <;> omega
    have zj : 10 ^ j ≤ Z := Nat.le_of_dvd zp (Nat.dvd_of_mod_eq_zero z2)
    have aj : 10 ^ A ≤ 10 ^ j := Nat.pow_le_pow_right (by decide) q1
    have hit := hit_up r z1 (Nat.le_of_lt high) (Nat.le_trans aj zj)
    have zh : Z ≤ hi := by
      rw [hitB_iff] at z1
      rcases z1 with ⟨_, _, a⟩ | ⟨_, _, a⟩ <;> omega
    have jA : j = A := by
      apply Nat.le_antisymm _ q1
      apply Nat.le_of_not_lt
      intro e
      have a1 : 10 ^ (A + 1) ≤ 10 ^ j := Nat.pow_le_pow_right (by decide) e
      rw [Nat.pow_succ] at a1
      omega
    subst jA
    have top := top_pick (c := c) (lo := lo) (hi := hi) high (by omega) hit (by omega)
    have ten : 10 ^ j = 10 * 10 ^ (j - 1) := by rw [← Nat.pow_succ']; congr 1; omega
    have nz := any_mono r (ten_pos (j - 1)) (Nat.pow_dvd_pow 10 (Nat.sub_le j 1)) hk
    have one : N = 1 := by
      apply Nat.le_antisymm _ n0
      apply Nat.le_of_not_lt
      intro e
      have x := f3 1 (Nat.le_refl 1) e
      rw [ni.1 x] at nz
      cases nz
    subst one
    have hh : 10 ^ j ≤ hi := by
      rw [hitB_iff] at hit
      rcases hit with ⟨_, _, a⟩ | ⟨_, _, a⟩ <;> omega
    have p1 : pickU c lo hi X (10 ^ (j - 1)) = some (10 ^ j) := by
      by_cases m10 : mt f (mg S b) < 10
      · exact sp (ms m10) hh
      · have e20 : 20 * g ≤ X := by
          rw [vg]
          exact Nat.mul_le_mul_right g (by omega)
        rw [ten] at hit high ⊢
        exact big_pick (ten_pos _) high hit (by omega)
    rcases pk with ⟨x, _⟩ | ⟨d', Z', e1, e2, e3, _⟩
    · rw [f2] at x; cases x
    · rw [f2] at e1
      cases e1
      rw [p1] at e2
      cases e2
      exact ⟨1, d, _, f1, n0, n1, f2, f3, top, e3⟩
theorem dshl_nat2 {w : World} {va : Value} {X : Nat} (ha : Big.D.NatV w va X) (hX : Fits 1000 X) (s : Nat) (hs : s ≤ 32000) :
 Calls Tryz.prog 85 #[va, .int .i64 (s : Int)] w fun e w' => ∃ v, e = .returned v ∧ Big.D.NatV w' v (X * 2 ^ s) ∧ Below w.heap.size w w' :=
 (dshl_new ha hX s hs).mono fun _ _ ⟨v, a, b, c⟩ => ⟨v, a, b.nat, c⟩
theorem dadd_nat2 {w : World} {va vb : Value} {X Y : Nat} (ha : Big.D.NatV w va X) (hb : Big.D.NatV w vb Y) (hX : Fits 1000 X) (hY : Fits 1000 Y) :
 Calls Tryz.prog 123 #[va, vb] w fun e w' => ∃ v, e = .returned v ∧ Big.D.NatV w' v (X + Y) ∧ Below w.heap.size w w' :=
 (dadd_new ha hb hX hY).mono fun _ _ ⟨v, a, b, c⟩ => ⟨v, a, b.nat, c⟩
theorem rbd_zero {b z : Int} {m : Nat} {E : Int} {t : ByteArray} {q : Int} (hm : m < 18446744073709551616) (he1 : -1074 ≤ E) (he2 : E ≤ 971) (HC : ∀ W, Calls Tryz.prog 48 #[.int .u64 b, .int .i64 z] W fun e w' => e = .returned (.int .i64 0) ∧ Below W.heap.size W w') (HP : ∀ W, Calls Tryz.prog 20 #[.int .u64 b, .int .i64 z] W fun e w' => e = .returned (.tuple #[.int .u64 (m : Int), .int .i64 E]) ∧ Below W.heap.size W w') (HD : ∀ W v, Big.D.NatV W v (2 * m + 1) → Calls Tryz.prog 49 #[v, .int .i64 (E - 1)] W fun e w' => e = .returned (.agg #[.string t, .int .i64 q, .bool false]) ∧ Below W.heap.size W w') (HM : ∀ W, Calls Tryz.prog 40 #[.int .u64 b, .int .i64 z] W fun e w' => e = .returned (.int .u64 0) ∧ Below W.heap.size W w') (w : World) :
 Calls Tryz.prog 90 #[.int .u64 b, .int .i64 z] w fun x w' => x = .returned (.tuple #[.agg #[.string ⟨#[]⟩, .int .i64 0, .bool false], .agg #[.string t, .int .i64 q, .bool false], .bool true, .int .i64 0]) ∧ Below w.heap.size w w' := by
 have F0 : Hid (Bk ((w.alloc (.cells #[.string ⟨#[]⟩, .int .i64 0, .bool false] 24)).alloc (.cells #[.string ⟨#[]⟩, .int .i64 0, .bool false] 24)) (w.heap.size) [.string ⟨#[]⟩, .int .i64 0, .bool false] ∧ Bk ((w.alloc (.cells #[.string ⟨#[]⟩, .int .i64 0, .bool false] 24)).alloc (.cells #[.string ⟨#[]⟩, .int .i64 0, .bool false] 24)) (w.heap.size + 1) [.string ⟨#[]⟩, .int .i64 0, .bool false] ∧ Below w.heap.size w ((w.alloc (.cells #[.string ⟨#[]⟩, .int .i64 0, .bool false] 24)).alloc (.cells #[.string ⟨#[]⟩, .int .i64 0, .bool false] 24))) := ⟨(Bk.new3 w (.string ⟨#[]⟩) (.int .i64 0) (.bool false) 24).step ((Below.refl _ _).alloc (Nat.le_refl _) _), ((by have q := Bk.new3 (w.alloc (.cells #[.string ⟨#[]⟩, .int .i64 0, .bool false] 24)) (.string ⟨#[]⟩) (.int .i64 0) (.bool false) 24; simpa using q) : Bk ((w.alloc (.cells #[.string ⟨#[]⟩, .int .i64 0, .bool false] 24)).alloc (.cells #[.string ⟨#[]⟩, .int .i64 0, .bool false] 24)) (w.heap.size + 1) [.string ⟨#[]⟩, .int .i64 0, .bool false]), (((Below.refl w.heap.size w)).alloc (Nat.le_refl _) _).alloc ((((Below.refl w.heap.size w)).alloc (Nat.le_refl _) _).size) _⟩
 go_enter Tryz.func90, Tryz.ntmps90
 go_upto_region 1 with fail
 generalize ((w.alloc (.cells #[.string ⟨#[]⟩, .int .i64 0, .bool false] 24)).alloc (.cells #[.string ⟨#[]⟩, .int .i64 0, .bool false] 24)) = w1 at *
 have SM := fun W => dsmall_word m hm W
 have fm : Fits 2 m := Fits.word (n := 1) (by unfold B; omega)
 have HFM : Hid (Fits 2 m) := fm
 clear fm
 go_wp2_with fail
 all_goals first | (exfalso; omega) | skip
 refine (HC _).mono ?_
 rintro o2 w2 ⟨rfl, bb⟩
 have F1 : Hid (Bk w2 (w.heap.size) [.string ⟨#[]⟩, .int .i64 0, .bool false] ∧ Bk w2 (w.heap.size + 1) [.string ⟨#[]⟩, .int .i64 0, .bool false] ∧ Below w.heap.size w w2) := ⟨(F0.out.1).step bb, (F0.out.2.1).step bb, (F0.out.2.2).trans (bb.mono (F0.out.2.2).size)⟩
 clear F0
 clear bb
 go_wp2_with fail
 all_goals first | (exfalso; omega) | skip
 refine (HP _).mono ?_
 rintro o3 w3 ⟨rfl, bb⟩
 have F2 : Hid (Bk w3 (w.heap.size) [.string ⟨#[]⟩, .int .i64 0, .bool false] ∧ Bk w3 (w.heap.size + 1) [.string ⟨#[]⟩, .int .i64 0, .bool false] ∧ Below w.heap.size w w3) := ⟨(F1.out.1).step bb, (F1.out.2.1).step bb, (F1.out.2.2).trans (bb.mono (F1.out.2.2).size)⟩
 clear F1
 clear bb
 go_wp2_with fail
 all_goals first | (exfalso; omega) | skip
 refine (SM _).mono ?_
 rintro o4 w4 ⟨v1, rfl, nn, bb⟩
 have F3 : Hid (Bk w4 (w.heap.size) [.string ⟨#[]⟩, .int .i64 0, .bool false] ∧ Bk w4 (w.heap.size + 1) [.string ⟨#[]⟩, .int .i64 0, .bool false] ∧ Big.D.NatV w4 v1 (m) ∧ Below w.heap.size w w4) := ⟨(F2.out.1).step bb, (F2.out.2.1).step bb, nn, (F2.out.2.2).trans (bb.mono (F2.out.2.2).size)⟩
 clear F2
 clear bb nn
 have SH := dshl_nat2 (F3.out.2.2.1) (HFM.out.up (by omega)) 1 (by omega)
 simp only [Int.cast_ofNat_Int] at SH
 go_wp2_with fail
 all_goals first | (exfalso; omega) | skip
 refine (SH).mono ?_
 rintro o5 w5 ⟨v2, rfl, nn, bb⟩
 have F4 : Hid (Bk w5 (w.heap.size) [.string ⟨#[]⟩, .int .i64 0, .bool false] ∧ Bk w5 (w.heap.size + 1) [.string ⟨#[]⟩, .int .i64 0, .bool false] ∧ Big.D.NatV w5 v1 (m) ∧ Big.D.NatV w5 v2 (m * 2 ^ 1) ∧ Below w.heap.size w w5) := ⟨(F3.out.1).step bb, (F3.out.2.1).step bb, (F3.out.2.2.1).below bb, nn, (F3.out.2.2.2).trans (bb.mono (F3.out.2.2.2).size)⟩
 clear F3
 clear bb nn
 clear SH
 go_wp2_with fail
 have F5 : Hid (Bk (w5.alloc (.cells #[.int .u64 1] 22)) (w.heap.size) [.string ⟨#[]⟩, .int .i64 0, .bool false] ∧ Bk (w5.alloc (.cells #[.int .u64 1] 22)) (w.heap.size + 1) [.string ⟨#[]⟩, .int .i64 0, .bool false] ∧ Big.D.NatV (w5.alloc (.cells #[.int .u64 1] 22)) v1 (m) ∧ Big.D.NatV (w5.alloc (.cells #[.int .u64 1] 22)) v2 (m * 2 ^ 1) ∧ Big.D.NatV (w5.alloc (.cells #[.int .u64 1] 22)) (.slice (some ⟨w5.heap.size, 0, none⟩) 1 1) (1) ∧ Below w.heap.size w (w5.alloc (.cells #[.int .u64 1] 22))) := ⟨(F4.out.1).step ((Below.refl _ _).alloc (Nat.le_refl _) _), (F4.out.2.1).step ((Below.refl _ _).alloc (Nat.le_refl _) _), (F4.out.2.2.1).below ((Below.refl _ _).alloc (Nat.le_refl _) _), (F4.out.2.2.2.1).below ((Below.refl _ _).alloc (Nat.le_refl _) _), dnat_one w5, (F4.out.2.2.2.2).alloc ((F4.out.2.2.2.2).size) _⟩
 clear F4
 go_wp2_with fail
 generalize (w5.alloc (.cells #[.int .u64 1] 22)) = w6 at *
 have SA := dadd_nat2 (F5.out.2.2.2.1) (F5.out.2.2.2.2.1) ((HFM.out.mul (two_fits (s := 1) (k := 1) (by omega))).up (by omega)) ((two_fits (s := 0) (k := 1) (by omega)).up (by omega))
 rw [show m * 2 ^ 1 + 1 = 2 * m + 1 by omega] at SA
 go_wp2_with fail
 all_goals first | (exfalso; omega) | skip
 refine (SA).mono ?_
 rintro o7 w7 ⟨v3, rfl, nn, bb⟩
 have F6 : Hid (Bk w7 (w.heap.size) [.string ⟨#[]⟩, .int .i64 0, .bool false] ∧ Bk w7 (w.heap.size + 1) [.string ⟨#[]⟩, .int .i64 0, .bool false] ∧ Big.D.NatV w7 v1 (m) ∧ Big.D.NatV w7 v2 (m * 2 ^ 1) ∧ Big.D.NatV w7 (.slice (some ⟨w5.heap.size, 0, none⟩) 1 1) (1) ∧ Big.D.NatV w7 v3 (2 * m + 1) ∧ Below w.heap.size w w7) := ⟨(F5.out.1).step bb, (F5.out.2.1).step bb, (F5.out.2.2.1).below bb, (F5.out.2.2.2.1).below bb, (F5.out.2.2.2.2.1).below bb, nn, (F5.out.2.2.2.2.2).trans (bb.mono (F5.out.2.2.2.2.2).size)⟩
 clear F5
 clear bb nn
 clear SA
 go_wp2_with fail
 all_goals first | (exfalso; omega) | skip
 refine (HD _ _ (F6.out.2.2.2.2.2.1)).mono ?_
 rintro o8 w8 ⟨rfl, bb⟩
 have F7 : Hid (Bk w8 (w.heap.size) [.string ⟨#[]⟩, .int .i64 0, .bool false] ∧ Bk w8 (w.heap.size + 1) [.string ⟨#[]⟩, .int .i64 0, .bool false] ∧ Big.D.NatV w8 v1 (m) ∧ Big.D.NatV w8 v2 (m * 2 ^ 1) ∧ Big.D.NatV w8 (.slice (some ⟨w5.heap.size, 0, none⟩) 1 1) (1) ∧ Big.D.NatV w8 v3 (2 * m + 1) ∧ Below w.heap.size w w8) := ⟨(F6.out.1).step bb, (F6.out.2.1).step bb, (F6.out.2.2.1).below bb, (F6.out.2.2.2.1).below bb, (F6.out.2.2.2.2.1).below bb, (F6.out.2.2.2.2.2.1).below bb, (F6.out.2.2.2.2.2.2).trans (bb.mono (F6.out.2.2.2.2.2.2).size)⟩
 clear F6
 clear bb
 have F8 : Hid (Bk w8 (w.heap.size) [.string ⟨#[]⟩, .int .i64 0, .bool false] ∧ Bk w8 (w.heap.size + 1) [.string ⟨#[]⟩, .int .i64 0, .bool false] ∧ Below w.heap.size w w8) := ⟨F7.out.1, F7.out.2.1, F7.out.2.2.2.2.2.2⟩
 clear F7
 have lt0_2 := (F8.out.1).lt
 have lt1_2 := (F8.out.2.1).lt
 have le2 := (F8.out.2.2).size
 have F9 : Hid (Bk ((w8.alloc (.cells #[.string t, .int .i64 q, .bool false] 24)).alloc (.cells #[.string ⟨#[]⟩, .int .i64 0, .bool false] 24)) (w.heap.size) [.string ⟨#[]⟩, .int .i64 0, .bool false] ∧ Bk ((w8.alloc (.cells #[.string t, .int .i64 q, .bool false] 24)).alloc (.cells #[.string ⟨#[]⟩, .int .i64 0, .bool false] 24)) (w.heap.size + 1) [.string ⟨#[]⟩, .int .i64 0, .bool false] ∧ Bk ((w8.alloc (.cells #[.string t, .int .i64 q, .bool false] 24)).alloc (.cells #[.string ⟨#[]⟩, .int .i64 0, .bool false] 24)) (w8.heap.size) [.string t, .int .i64 q, .bool false] ∧ Bk ((w8.alloc (.cells #[.string t, .int .i64 q, .bool false] 24)).alloc (.cells #[.string ⟨#[]⟩, .int .i64 0, .bool false] 24)) (w8.heap.size + 1) [.string ⟨#[]⟩, .int .i64 0, .bool false] ∧ Below w.heap.size w ((w8.alloc (.cells #[.string t, .int .i64 q, .bool false] 24)).alloc (.cells #[.string ⟨#[]⟩, .int .i64 0, .bool false] 24))) := ⟨((F8.out.1).step ((Below.refl _ _).alloc (Nat.le_refl _) _)).step ((Below.refl _ _).alloc (Nat.le_refl _) _), ((F8.out.2.1).step ((Below.refl _ _).alloc (Nat.le_refl _) _)).step ((Below.refl _ _).alloc (Nat.le_refl _) _), (Bk.new3 w8 (.string t) (.int .i64 q) (.bool false) 24).step ((Below.refl _ _).alloc (Nat.le_refl _) _), ((by have q := Bk.new3 (w8.alloc (.cells #[.string t, .int .i64 q, .bool false] 24)) (.string ⟨#[]⟩) (.int .i64 0) (.bool false) 24; simpa using q) : Bk ((w8.alloc (.cells #[.string t, .int .i64 q, .bool false] 24)).alloc (.cells #[.string ⟨#[]⟩, .int .i64 0, .bool false] 24)) (w8.heap.size + 1) [.string ⟨#[]⟩, .int .i64 0, .bool false]), ((F8.out.2.2).alloc ((F8.out.2.2).size) _).alloc (((F8.out.2.2).alloc ((F8.out.2.2).size) _).size) _⟩
 clear F8
 go_upto_region 7 with fail
 generalize ((w8.alloc (.cells #[.string t, .int .i64 q, .bool false] 24)).alloc (.cells #[.string ⟨#[]⟩, .int .i64 0, .bool false] 24)) = w9 at *
 have l1_0 := F9.out.1.lt
 have a1_0_0 := F9.out.1.cell 0 _ rfl
 have f1_0_0 := F9.out.1.fz 0
 have a1_0_1 := F9.out.1.cell 1 _ rfl
 have f1_0_1 := F9.out.1.fz 1
 have a1_0_2 := F9.out.1.cell 2 _ rfl
 have f1_0_2 := F9.out.1.fz 2
 have l1_1 := F9.out.2.1.lt
 have a1_1_0 := F9.out.2.1.cell 0 _ rfl
 have f1_1_0 := F9.out.2.1.fz 0
 have a1_1_1 := F9.out.2.1.cell 1 _ rfl
 have f1_1_1 := F9.out.2.1.fz 1
 have a1_1_2 := F9.out.2.1.cell 2 _ rfl
 have f1_1_2 := F9.out.2.1.fz 2
 have l1_2 := F9.out.2.2.1.lt
 have a1_2_0 := F9.out.2.2.1.cell 0 _ rfl
 have f1_2_0 := F9.out.2.2.1.fz 0
 have a1_2_1 := F9.out.2.2.1.cell 1 _ rfl
 have f1_2_1 := F9.out.2.2.1.fz 1
 have a1_2_2 := F9.out.2.2.1.cell 2 _ rfl
 have f1_2_2 := F9.out.2.2.1.fz 2
 have l1_3 := F9.out.2.2.2.1.lt
 have a1_3_0 := F9.out.2.2.2.1.cell 0 _ rfl
 have f1_3_0 := F9.out.2.2.2.1.fz 0
 have a1_3_1 := F9.out.2.2.2.1.cell 1 _ rfl
 have f1_3_1 := F9.out.2.2.2.1.fz 1
 have a1_3_2 := F9.out.2.2.2.1.cell 2 _ rfl
 have f1_3_2 := F9.out.2.2.2.1.fz 2
 have ne1_0_1 : ¬ w.heap.size = w.heap.size + 1 := by omega
 have ne1_0_2 : ¬ w.heap.size = w8.heap.size := by omega
 have ne1_0_3 : ¬ w.heap.size = w8.heap.size + 1 := by omega
 have ne1_1_0 : ¬ w.heap.size + 1 = w.heap.size := by omega
 have ne1_1_2 : ¬ w.heap.size + 1 = w8.heap.size := by omega
 have ne1_1_3 : ¬ w.heap.size + 1 = w8.heap.size + 1 := by omega
 have ne1_2_0 : ¬ w8.heap.size = w.heap.size := by omega
 have ne1_2_1 : ¬ w8.heap.size = w.heap.size + 1 := by omega
 have ne1_2_3 : ¬ w8.heap.size = w8.heap.size + 1 := by omega
 have ne1_3_0 : ¬ w8.heap.size + 1 = w.heap.size := by omega
 have ne1_3_1 : ¬ w8.heap.size + 1 = w.heap.size + 1 := by omega
 have ne1_3_2 : ¬ w8.heap.size + 1 = w8.heap.size := by omega
 go_wp2_with fail
 all_goals first | (exfalso; omega) | skip
 refine (HM _).mono ?_
 rintro o10 w10 ⟨rfl, bb⟩
 have F10 : Hid (Bk w10 (w.heap.size) [.string ⟨#[]⟩, .int .i64 0, .bool false] ∧ Bk w10 (w.heap.size + 1) [.string ⟨#[]⟩, .int .i64 0, .bool false] ∧ Bk w10 (w8.heap.size) [.string t, .int .i64 q, .bool false] ∧ Bk w10 (w8.heap.size + 1) [.string ⟨#[]⟩, .int .i64 0, .bool false] ∧ Below w.heap.size w w10) := ⟨(F9.out.1).step bb, (F9.out.2.1).step bb, (F9.out.2.2.1).step bb, (F9.out.2.2.2.1).step bb, (F9.out.2.2.2.2).trans (bb.mono (F9.out.2.2.2.2).size)⟩
 clear F9
 clear bb
 clear l1_0 a1_0_0 f1_0_0 a1_0_1 f1_0_1 a1_0_2 f1_0_2 l1_1 a1_1_0 f1_1_0 a1_1_1 f1_1_1 a1_1_2 f1_1_2 l1_2 a1_2_0 f1_2_0 a1_2_1 f1_2_1 a1_2_2 f1_2_2 l1_3 a1_3_0 f1_3_0 a1_3_1 f1_3_1 a1_3_2 f1_3_2
 have l2_0 := F10.out.1.lt
 have a2_0_0 := F10.out.1.cell 0 _ rfl
 have f2_0_0 := F10.out.1.fz 0
 have a2_0_1 := F10.out.1.cell 1 _ rfl
 have f2_0_1 := F10.out.1.fz 1
 have a2_0_2 := F10.out.1.cell 2 _ rfl
 have f2_0_2 := F10.out.1.fz 2
 have l2_1 := F10.out.2.1.lt
 have a2_1_0 := F10.out.2.1.cell 0 _ rfl
 have f2_1_0 := F10.out.2.1.fz 0
 have a2_1_1 := F10.out.2.1.cell 1 _ rfl
 have f2_1_1 := F10.out.2.1.fz 1
 have a2_1_2 := F10.out.2.1.cell 2 _ rfl
 have f2_1_2 := F10.out.2.1.fz 2
 have l2_2 := F10.out.2.2.1.lt
 have a2_2_0 := F10.out.2.2.1.cell 0 _ rfl
 have f2_2_0 := F10.out.2.2.1.fz 0
 have a2_2_1 := F10.out.2.2.1.cell 1 _ rfl
 have f2_2_1 := F10.out.2.2.1.fz 1
 have a2_2_2 := F10.out.2.2.1.cell 2 _ rfl
 have f2_2_2 := F10.out.2.2.1.fz 2
 have l2_3 := F10.out.2.2.2.1.lt
 have a2_3_0 := F10.out.2.2.2.1.cell 0 _ rfl
 have f2_3_0 := F10.out.2.2.2.1.fz 0
 have a2_3_1 := F10.out.2.2.2.1.cell 1 _ rfl
 have f2_3_1 := F10.out.2.2.2.1.fz 1
 have a2_3_2 := F10.out.2.2.2.1.cell 2 _ rfl
 have f2_3_2 := F10.out.2.2.2.1.fz 2
 have ne2_0_1 : ¬ w.heap.size = w.heap.size + 1 := by omega
 have ne2_0_2 : ¬ w.heap.size = w8.heap.size := by omega
 have ne2_0_3 : ¬ w.heap.size = w8.heap.size + 1 := by omega
 have ne2_1_0 : ¬ w.heap.size + 1 = w.heap.size := by omega
 have ne2_1_2 : ¬ w.heap.size + 1 = w8.heap.size := by omega
 have ne2_1_3 : ¬ w.heap.size + 1 = w8.heap.size + 1 := by omega
 have ne2_2_0 : ¬ w8.heap.size = w.heap.size := by omega
 have ne2_2_1 : ¬ w8.heap.size = w.heap.size + 1 := by omega
 have ne2_2_3 : ¬ w8.heap.size = w8.heap.size + 1 := by omega
 have ne2_3_0 : ¬ w8.heap.size + 1 = w.heap.size := by omega
 have ne2_3_1 : ¬ w8.heap.size + 1 = w.heap.size + 1 := by omega
 have ne2_3_2 : ¬ w8.heap.size + 1 = w8.heap.size := by omega
 go_upto_region 11 with fail
 go_region_held3 (fun w' => w'.cell? ⟨w8.heap.size, 0, none⟩ = some (.string t) ∧ w'.cell? ⟨w8.heap.size, 1, none⟩ = some (.int .i64 q) ∧ w'.cell? ⟨w8.heap.size, 2, none⟩ = some (.bool false) ∧ w'.cell? ⟨w8.heap.size + 1, 0, none⟩ = some (.string ⟨#[]⟩) ∧ w'.cell? ⟨w8.heap.size + 1, 1, none⟩ = some (.int .i64 0) ∧ w'.cell? ⟨w8.heap.size + 1, 2, none⟩ = some (.bool false)) (simp [*, go_sem]) (fail)
 go_wp2
 refine bodyPost_ret (v := .tuple #[.agg #[.string ⟨#[]⟩, .int .i64 0, .bool false], .agg #[.string t, .int .i64 q, .bool false], .bool true, .int .i64 0]) (by simp [results, Tryz.results90, go_sem, World.cell?_setCell_same, World.cell?_setCell_other, *]) rfl ⟨rfl, ?_⟩
 refine Below.drew ?_
 repeat (first | refine Below.setCell ?_ (by first | exact Nat.le_refl _ | (dsimp only; omega)) _ | refine Below.alloc ?_ (by first | exact Nat.le_refl _ | omega | (simp; omega)) _ | refine Below.drew ?_)
 exact F10.out.2.2.2.2
theorem rbd_ok {b z : Int} {m m2 M D : Nat} {E E2 : Int} {s t : ByteArray} {p q : Int} (hm : m < 18446744073709551616) (hm2 : m2 < 18446744073709551616) (he1 : -1074 ≤ E) (he2 : E ≤ 971) (hf1 : -1074 ≤ E2) (hf2 : E2 ≤ 971) (M0 : 0 < M) (M1 : M < 18446744073709551616) (hD : D ≤ 1) (eD : E - E2 = (D : Int)) (HC : ∀ W, Calls Tryz.prog 48 #[.int .u64 b, .int .i64 z] W fun e w' => e = .returned (.int .i64 0) ∧ Below W.heap.size W w') (HP : ∀ W, Calls Tryz.prog 20 #[.int .u64 b, .int .i64 z] W fun e w' => e = .returned (.tuple #[.int .u64 (m : Int), .int .i64 E]) ∧ Below W.heap.size W w') (HD : ∀ W v, Big.D.NatV W v (2 * m + 1) → Calls Tryz.prog 49 #[v, .int .i64 (E - 1)] W fun e w' => e = .returned (.agg #[.string t, .int .i64 q, .bool false]) ∧ Below W.heap.size W w') (HM : ∀ W, Calls Tryz.prog 40 #[.int .u64 b, .int .i64 z] W fun e w' => e = .returned (.int .u64 (M : Int)) ∧ Below W.heap.size W w') (HP2 : ∀ W, Calls Tryz.prog 20 #[.int .u64 ((M : Int) - 1), .int .i64 z] W fun e w' => e = .returned (.tuple #[.int .u64 (m2 : Int), .int .i64 E2]) ∧ Below W.heap.size W w') (HD2 : ∀ W v, Big.D.NatV W v (m * 2 ^ D + m2) → Calls Tryz.prog 49 #[v, .int .i64 (E2 - 1)] W fun e w' => e = .returned (.agg #[.string s, .int .i64 p, .bool false]) ∧ Below W.heap.size W w') (w : World) :
 Calls Tryz.prog 90 #[.int .u64 b, .int .i64 z] w fun x w' => x = .returned (.tuple #[.agg #[.string s, .int .i64 p, .bool false], .agg #[.string t, .int .i64 q, .bool false], .bool (decide (M % 2 = 0)), .int .i64 0]) ∧ Below w.heap.size w w' := by
 have eb : ((M : Int).tmod 2 == 0) = decide (M % 2 = 0) := by
  rw [Int.tmod_eq_emod_of_nonneg (by omega)]
  by_cases h : M % 2 = 0
  · rw [decide_eq_true h]; exact beq_iff_eq.mpr (by omega)
  · rw [decide_eq_false h]; exact beq_eq_false_iff_ne.mpr (by omega)
 generalize decide (M % 2 = 0) = cB at *
 have F0 : Hid (Bk ((w.alloc (.cells #[.string ⟨#[]⟩, .int .i64 0, .bool false] 24)).alloc (.cells #[.string ⟨#[]⟩, .int .i64 0, .bool false] 24)) (w.heap.size) [.string ⟨#[]⟩, .int .i64 0, .bool false] ∧ Bk ((w.alloc (.cells #[.string ⟨#[]⟩, .int .i64 0, .bool false] 24)).alloc (.cells #[.string ⟨#[]⟩, .int .i64 0, .bool false] 24)) (w.heap.size + 1) [.string ⟨#[]⟩, .int .i64 0, .bool false] ∧ Below w.heap.size w ((w.alloc (.cells #[.string ⟨#[]⟩, .int .i64 0, .bool false] 24)).alloc (.cells #[.string ⟨#[]⟩, .int .i64 0, .bool false] 24))) := ⟨(Bk.new3 w (.string ⟨#[]⟩) (.int .i64 0) (.bool false) 24).step ((Below.refl _ _).alloc (Nat.le_refl _) _), ((by have q := Bk.new3 (w.alloc (.cells #[.string ⟨#[]⟩, .int .i64 0, .bool false] 24)) (.string ⟨#[]⟩) (.int .i64 0) (.bool false) 24; simpa using q) : Bk ((w.alloc (.cells #[.string ⟨#[]⟩, .int .i64 0, .bool false] 24)).alloc (.cells #[.string ⟨#[]⟩, .int .i64 0, .bool false] 24)) (w.heap.size + 1) [.string ⟨#[]⟩, .int .i64 0, .bool false]), (((Below.refl w.heap.size w)).alloc (Nat.le_refl _) _).alloc ((((Below.refl w.heap.size w)).alloc (Nat.le_refl _) _).size) _⟩
 go_enter Tryz.func90, Tryz.ntmps90
 go_upto_region 1 with fail
 generalize ((w.alloc (.cells #[.string ⟨#[]⟩, .int .i64 0, .bool false] 24)).alloc (.cells #[.string ⟨#[]⟩, .int .i64 0, .bool false] 24)) = w1 at *
 have SM := fun W => dsmall_word m hm W
 have fm : Fits 2 m := Fits.word (n := 1) (by unfold B; omega)
 have HFM : Hid (Fits 2 m) := fm
 clear fm
 go_wp2_with fail
 all_goals first | (exfalso; omega) | skip
 refine (HC _).mono ?_
 rintro o2 w2 ⟨rfl, bb⟩
 have F1 : Hid (Bk w2 (w.heap.size) [.string ⟨#[]⟩, .int .i64 0, .bool false] ∧ Bk w2 (w.heap.size + 1) [.string ⟨#[]⟩, .int .i64 0, .bool false] ∧ Below w.heap.size w w2) := ⟨(F0.out.1).step bb, (F0.out.2.1).step bb, (F0.out.2.2).trans (bb.mono (F0.out.2.2).size)⟩
 clear F0
 clear bb
 go_wp2_with fail
 all_goals first | (exfalso; omega) | skip
 refine (HP _).mono ?_
 rintro o3 w3 ⟨rfl, bb⟩
 have F2 : Hid (Bk w3 (w.heap.size) [.string ⟨#[]⟩, .int .i64 0, .bool false] ∧ Bk w3 (w.heap.size + 1) [.string ⟨#[]⟩, .int .i64 0, .bool false] ∧ Below w.heap.size w w3) := ⟨(F1.out.1).step bb, (F1.out.2.1).step bb, (F1.out.2.2).trans (bb.mono (F1.out.2.2).size)⟩
 clear F1
 clear bb
 go_wp2_with fail
 all_goals first | (exfalso; omega) | skip
 refine (SM _).mono ?_
 rintro o4 w4 ⟨v1, rfl, nn, bb⟩
 have F3 : Hid (Bk w4 (w.heap.size) [.string ⟨#[]⟩, .int .i64 0, .bool false] ∧ Bk w4 (w.heap.size + 1) [.string ⟨#[]⟩, .int .i64 0, .bool false] ∧ Big.D.NatV w4 v1 (m) ∧ Below w.heap.size w w4) := ⟨(F2.out.1).step bb, (F2.out.2.1).step bb, nn, (F2.out.2.2).trans (bb.mono (F2.out.2.2).size)⟩
 clear F2
 clear bb nn
 have SH := dshl_nat2 (F3.out.2.2.1) (HFM.out.up (by omega)) 1 (by omega)
 simp only [Int.cast_ofNat_Int] at SH
 go_wp2_with fail
 all_goals first | (exfalso; omega) | skip
 refine (SH).mono ?_
 rintro o5 w5 ⟨v2, rfl, nn, bb⟩
 have F4 : Hid (Bk w5 (w.heap.size) [.string ⟨#[]⟩, .int .i64 0, .bool false] ∧ Bk w5 (w.heap.size + 1) [.string ⟨#[]⟩, .int .i64 0, .bool false] ∧ Big.D.NatV w5 v1 (m) ∧ Big.D.NatV w5 v2 (m * 2 ^ 1) ∧ Below w.heap.size w w5) := ⟨(F3.out.1).step bb, (F3.out.2.1).step bb, (F3.out.2.2.1).below bb, nn, (F3.out.2.2.2).trans (bb.mono (F3.out.2.2.2).size)⟩
 clear F3
 clear bb nn
 clear SH
 go_wp2_with fail
 have F5 : Hid (Bk (w5.alloc (.cells #[.int .u64 1] 22)) (w.heap.size) [.string ⟨#[]⟩, .int .i64 0, .bool false] ∧ Bk (w5.alloc (.cells #[.int .u64 1] 22)) (w.heap.size + 1) [.string ⟨#[]⟩, .int .i64 0, .bool false] ∧ Big.D.NatV (w5.alloc (.cells #[.int .u64 1] 22)) v1 (m) ∧ Big.D.NatV (w5.alloc (.cells #[.int .u64 1] 22)) v2 (m * 2 ^ 1) ∧ Big.D.NatV (w5.alloc (.cells #[.int .u64 1] 22)) (.slice (some ⟨w5.heap.size, 0, none⟩) 1 1) (1) ∧ Below w.heap.size w (w5.alloc (.cells #[.int .u64 1] 22))) := ⟨(F4.out.1).step ((Below.refl _ _).alloc (Nat.le_refl _) _), (F4.out.2.1).step ((Below.refl _ _).alloc (Nat.le_refl _) _), (F4.out.2.2.1).below ((Below.refl _ _).alloc (Nat.le_refl _) _), (F4.out.2.2.2.1).below ((Below.refl _ _).alloc (Nat.le_refl _) _), dnat_one w5, (F4.out.2.2.2.2).alloc ((F4.out.2.2.2.2).size) _⟩
 clear F4
 go_wp2_with fail
 generalize (w5.alloc (.cells #[.int .u64 1] 22)) = w6 at *
 have SA := dadd_nat2 (F5.out.2.2.2.1) (F5.out.2.2.2.2.1) ((HFM.out.mul (two_fits (s := 1) (k := 1) (by omega))).up (by omega)) ((two_fits (s := 0) (k := 1) (by omega)).up (by omega))
 rw [show m * 2 ^ 1 + 1 = 2 * m + 1 by omega] at SA
 go_wp2_with fail
 all_goals first | (exfalso; omega) | skip
 refine (SA).mono ?_
 rintro o7 w7 ⟨v3, rfl, nn, bb⟩
 have F6 : Hid (Bk w7 (w.heap.size) [.string ⟨#[]⟩, .int .i64 0, .bool false] ∧ Bk w7 (w.heap.size + 1) [.string ⟨#[]⟩, .int .i64 0, .bool false] ∧ Big.D.NatV w7 v1 (m) ∧ Big.D.NatV w7 v2 (m * 2 ^ 1) ∧ Big.D.NatV w7 (.slice (some ⟨w5.heap.size, 0, none⟩) 1 1) (1) ∧ Big.D.NatV w7 v3 (2 * m + 1) ∧ Below w.heap.size w w7) := ⟨(F5.out.1).step bb, (F5.out.2.1).step bb, (F5.out.2.2.1).below bb, (F5.out.2.2.2.1).below bb, (F5.out.2.2.2.2.1).below bb, nn, (F5.out.2.2.2.2.2).trans (bb.mono (F5.out.2.2.2.2.2).size)⟩
 clear F5
 clear bb nn
 clear SA
 go_wp2_with fail
 all_goals first | (exfalso; omega) | skip
 refine (HD _ _ (F6.out.2.2.2.2.2.1)).mono ?_
 rintro o8 w8 ⟨rfl, bb⟩
 have F7 : Hid (Bk w8 (w.heap.size) [.string ⟨#[]⟩, .int .i64 0, .bool false] ∧ Bk w8 (w.heap.size + 1) [.string ⟨#[]⟩, .int .i64 0, .bool false] ∧ Big.D.NatV w8 v1 (m) ∧ Big.D.NatV w8 v2 (m * 2 ^ 1) ∧ Big.D.NatV w8 (.slice (some ⟨w5.heap.size, 0, none⟩) 1 1) (1) ∧ Big.D.NatV w8 v3 (2 * m + 1) ∧ Below w.heap.size w w8) := ⟨(F6.out.1).step bb, (F6.out.2.1).step bb, (F6.out.2.2.1).below bb, (F6.out.2.2.2.1).below bb, (F6.out.2.2.2.2.1).below bb, (F6.out.2.2.2.2.2.1).below bb, (F6.out.2.2.2.2.2.2).trans (bb.mono (F6.out.2.2.2.2.2.2).size)⟩
 clear F6
 clear bb
 have F8 : Hid (Bk w8 (w.heap.size) [.string ⟨#[]⟩, .int .i64 0, .bool false] ∧ Bk w8 (w.heap.size + 1) [.string ⟨#[]⟩, .int .i64 0, .bool false] ∧ Below w.heap.size w w8) := ⟨F7.out.1, F7.out.2.1, F7.out.2.2.2.2.2.2⟩
 clear F7
 have lt0_2 := (F8.out.1).lt
 have lt1_2 := (F8.out.2.1).lt
 have le2 := (F8.out.2.2).size
 have F9 : Hid (Bk ((w8.alloc (.cells #[.string t, .int .i64 q, .bool false] 24)).alloc (.cells #[.string ⟨#[]⟩, .int .i64 0, .bool false] 24)) (w.heap.size) [.string ⟨#[]⟩, .int .i64 0, .bool false] ∧ Bk ((w8.alloc (.cells #[.string t, .int .i64 q, .bool false] 24)).alloc (.cells #[.string ⟨#[]⟩, .int .i64 0, .bool false] 24)) (w.heap.size + 1) [.string ⟨#[]⟩, .int .i64 0, .bool false] ∧ Bk ((w8.alloc (.cells #[.string t, .int .i64 q, .bool false] 24)).alloc (.cells #[.string ⟨#[]⟩, .int .i64 0, .bool false] 24)) (w8.heap.size) [.string t, .int .i64 q, .bool false] ∧ Bk ((w8.alloc (.cells #[.string t, .int .i64 q, .bool false] 24)).alloc (.cells #[.string ⟨#[]⟩, .int .i64 0, .bool false] 24)) (w8.heap.size + 1) [.string ⟨#[]⟩, .int .i64 0, .bool false] ∧ Below w.heap.size w ((w8.alloc (.cells #[.string t, .int .i64 q, .bool false] 24)).alloc (.cells #[.string ⟨#[]⟩, .int .i64 0, .bool false] 24))) := ⟨((F8.out.1).step ((Below.refl _ _).alloc (Nat.le_refl _) _)).step ((Below.refl _ _).alloc (Nat.le_refl _) _), ((F8.out.2.1).step ((Below.refl _ _).alloc (Nat.le_refl _) _)).step ((Below.refl _ _).alloc (Nat.le_refl _) _), (Bk.new3 w8 (.string t) (.int .i64 q) (.bool false) 24).step ((Below.refl _ _).alloc (Nat.le_refl _) _), ((by have q := Bk.new3 (w8.alloc (.cells #[.string t, .int .i64 q, .bool false] 24)) (.string ⟨#[]⟩) (.int .i64 0) (.bool false) 24; simpa using q) : Bk ((w8.alloc (.cells #[.string t, .int .i64 q, .bool false] 24)).alloc (.cells #[.string ⟨#[]⟩, .int .i64 0, .bool false] 24)) (w8.heap.size + 1) [.string ⟨#[]⟩, .int .i64 0, .bool false]), ((F8.out.2.2).alloc ((F8.out.2.2).size) _).alloc (((F8.out.2.2).alloc ((F8.out.2.2).size) _).size) _⟩
 clear F8
 go_upto_region 7 with fail
 generalize ((w8.alloc (.cells #[.string t, .int .i64 q, .bool false] 24)).alloc (.cells #[.string ⟨#[]⟩, .int .i64 0, .bool false] 24)) = w9 at *
 have l1_0 := F9.out.1.lt
 have a1_0_0 := F9.out.1.cell 0 _ rfl
 have f1_0_0 := F9.out.1.fz 0
 have a1_0_1 := F9.out.1.cell 1 _ rfl
 have f1_0_1 := F9.out.1.fz 1
 have a1_0_2 := F9.out.1.cell 2 _ rfl
 have f1_0_2 := F9.out.1.fz 2
 have l1_1 := F9.out.2.1.lt
 have a1_1_0 := F9.out.2.1.cell 0 _ rfl
 have f1_1_0 := F9.out.2.1.fz 0
 have a1_1_1 := F9.out.2.1.cell 1 _ rfl
 have f1_1_1 := F9.out.2.1.fz 1
 have a1_1_2 := F9.out.2.1.cell 2 _ rfl
 have f1_1_2 := F9.out.2.1.fz 2
 have l1_2 := F9.out.2.2.1.lt
 have a1_2_0 := F9.out.2.2.1.cell 0 _ rfl
 have f1_2_0 := F9.out.2.2.1.fz 0
 have a1_2_1 := F9.out.2.2.1.cell 1 _ rfl
 have f1_2_1 := F9.out.2.2.1.fz 1
 have a1_2_2 := F9.out.2.2.1.cell 2 _ rfl
 have f1_2_2 := F9.out.2.2.1.fz 2
 have l1_3 := F9.out.2.2.2.1.lt
 have a1_3_0 := F9.out.2.2.2.1.cell 0 _ rfl
 have f1_3_0 := F9.out.2.2.2.1.fz 0
 have a1_3_1 := F9.out.2.2.2.1.cell 1 _ rfl
 have f1_3_1 := F9.out.2.2.2.1.fz 1
 have a1_3_2 := F9.out.2.2.2.1.cell 2 _ rfl
 have f1_3_2 := F9.out.2.2.2.1.fz 2
 have ne1_0_1 : ¬ w.heap.size = w.heap.size + 1 := by omega
 have ne1_0_2 : ¬ w.heap.size = w8.heap.size := by omega
 have ne1_0_3 : ¬ w.heap.size = w8.heap.size + 1 := by omega
 have ne1_1_0 : ¬ w.heap.size + 1 = w.heap.size := by omega
 have ne1_1_2 : ¬ w.heap.size + 1 = w8.heap.size := by omega
 have ne1_1_3 : ¬ w.heap.size + 1 = w8.heap.size + 1 := by omega
 have ne1_2_0 : ¬ w8.heap.size = w.heap.size := by omega
 have ne1_2_1 : ¬ w8.heap.size = w.heap.size + 1 := by omega
 have ne1_2_3 : ¬ w8.heap.size = w8.heap.size + 1 := by omega
 have ne1_3_0 : ¬ w8.heap.size + 1 = w.heap.size := by omega
 have ne1_3_1 : ¬ w8.heap.size + 1 = w.heap.size + 1 := by omega
 have ne1_3_2 : ¬ w8.heap.size + 1 = w8.heap.size := by omega
 go_wp2_with fail
 all_goals first | (exfalso; omega) | skip
 refine (HM _).mono ?_
 rintro o10 w10 ⟨rfl, bb⟩
 have F10 : Hid (Bk w10 (w.heap.size) [.string ⟨#[]⟩, .int .i64 0, .bool false] ∧ Bk w10 (w.heap.size + 1) [.string ⟨#[]⟩, .int .i64 0, .bool false] ∧ Bk w10 (w8.heap.size) [.string t, .int .i64 q, .bool false] ∧ Bk w10 (w8.heap.size + 1) [.string ⟨#[]⟩, .int .i64 0, .bool false] ∧ Below w.heap.size w w10) := ⟨(F9.out.1).step bb, (F9.out.2.1).step bb, (F9.out.2.2.1).step bb, (F9.out.2.2.2.1).step bb, (F9.out.2.2.2.2).trans (bb.mono (F9.out.2.2.2.2).size)⟩
 clear F9
 clear bb
 clear l1_0 a1_0_0 f1_0_0 a1_0_1 f1_0_1 a1_0_2 f1_0_2 l1_1 a1_1_0 f1_1_0 a1_1_1 f1_1_1 a1_1_2 f1_1_2 l1_2 a1_2_0 f1_2_0 a1_2_1 f1_2_1 a1_2_2 f1_2_2 l1_3 a1_3_0 f1_3_0 a1_3_1 f1_3_1 a1_3_2 f1_3_2
 have l2_0 := F10.out.1.lt
 have a2_0_0 := F10.out.1.cell 0 _ rfl
 have f2_0_0 := F10.out.1.fz 0
 have a2_0_1 := F10.out.1.cell 1 _ rfl
 have f2_0_1 := F10.out.1.fz 1
 have a2_0_2 := F10.out.1.cell 2 _ rfl
 have f2_0_2 := F10.out.1.fz 2
 have l2_1 := F10.out.2.1.lt
 have a2_1_0 := F10.out.2.1.cell 0 _ rfl
 have f2_1_0 := F10.out.2.1.fz 0
 have a2_1_1 := F10.out.2.1.cell 1 _ rfl
 have f2_1_1 := F10.out.2.1.fz 1
 have a2_1_2 := F10.out.2.1.cell 2 _ rfl
 have f2_1_2 := F10.out.2.1.fz 2
 have l2_2 := F10.out.2.2.1.lt
 have a2_2_0 := F10.out.2.2.1.cell 0 _ rfl
 have f2_2_0 := F10.out.2.2.1.fz 0
 have a2_2_1 := F10.out.2.2.1.cell 1 _ rfl
 have f2_2_1 := F10.out.2.2.1.fz 1
 have a2_2_2 := F10.out.2.2.1.cell 2 _ rfl
 have f2_2_2 := F10.out.2.2.1.fz 2
 have l2_3 := F10.out.2.2.2.1.lt
 have a2_3_0 := F10.out.2.2.2.1.cell 0 _ rfl
 have f2_3_0 := F10.out.2.2.2.1.fz 0
 have a2_3_1 := F10.out.2.2.2.1.cell 1 _ rfl
 have f2_3_1 := F10.out.2.2.2.1.fz 1
 have a2_3_2 := F10.out.2.2.2.1.cell 2 _ rfl
 have f2_3_2 := F10.out.2.2.2.1.fz 2
 have ne2_0_1 : ¬ w.heap.size = w.heap.size + 1 := by omega
 have ne2_0_2 : ¬ w.heap.size = w8.heap.size := by omega
 have ne2_0_3 : ¬ w.heap.size = w8.heap.size + 1 := by omega
 have ne2_1_0 : ¬ w.heap.size + 1 = w.heap.size := by omega
 have ne2_1_2 : ¬ w.heap.size + 1 = w8.heap.size := by omega
 have ne2_1_3 : ¬ w.heap.size + 1 = w8.heap.size + 1 := by omega
 have ne2_2_0 : ¬ w8.heap.size = w.heap.size := by omega
 have ne2_2_1 : ¬ w8.heap.size = w.heap.size + 1 := by omega
 have ne2_2_3 : ¬ w8.heap.size = w8.heap.size + 1 := by omega
 have ne2_3_0 : ¬ w8.heap.size + 1 = w.heap.size := by omega
 have ne2_3_1 : ¬ w8.heap.size + 1 = w.heap.size + 1 := by omega
 have ne2_3_2 : ¬ w8.heap.size + 1 = w8.heap.size := by omega
 go_wp2_with fail
 all_goals first | (exfalso; omega) | skip
 refine (HP2 _).mono ?_
 rintro o11 w11 ⟨rfl, bb⟩
 have F11 : Hid (Bk w11 (w.heap.size) [.string ⟨#[]⟩, .int .i64 0, .bool false] ∧ Bk w11 (w.heap.size + 1) [.string ⟨#[]⟩, .int .i64 0, .bool false] ∧ Bk w11 (w8.heap.size) [.string t, .int .i64 q, .bool false] ∧ Bk w11 (w8.heap.size + 1) [.string ⟨#[]⟩, .int .i64 0, .bool false] ∧ Below w.heap.size w w11) := ⟨(F10.out.1).step bb, (F10.out.2.1).step bb, (F10.out.2.2.1).step bb, (F10.out.2.2.2.1).step bb, (F10.out.2.2.2.2).trans (bb.mono (F10.out.2.2.2.2).size)⟩
 clear F10
 clear bb
 go_wp2_with fail
 all_goals first | (exfalso; omega) | skip
 refine (SM _).mono ?_
 rintro o12 w12 ⟨v7, rfl, nn, bb⟩
 have F12 : Hid (Bk w12 (w.heap.size) [.string ⟨#[]⟩, .int .i64 0, .bool false] ∧ Bk w12 (w.heap.size + 1) [.string ⟨#[]⟩, .int .i64 0, .bool false] ∧ Bk w12 (w8.heap.size) [.string t, .int .i64 q, .bool false] ∧ Bk w12 (w8.heap.size + 1) [.string ⟨#[]⟩, .int .i64 0, .bool false] ∧ Big.D.NatV w12 v7 (m) ∧ Below w.heap.size w w12) := ⟨(F11.out.1).step bb, (F11.out.2.1).step bb, (F11.out.2.2.1).step bb, (F11.out.2.2.2.1).step bb, nn, (F11.out.2.2.2.2).trans (bb.mono (F11.out.2.2.2.2).size)⟩
 clear F11
 clear bb nn
 have SH := dshl_nat2 (F12.out.2.2.2.2.1) (HFM.out.up (by omega)) D (by omega)
 go_wp2_with fail
 all_goals first | (exfalso; omega) | skip
 refine (SH).mono ?_
 rintro o13 w13 ⟨v8, rfl, nn, bb⟩
 have F13 : Hid (Bk w13 (w.heap.size) [.string ⟨#[]⟩, .int .i64 0, .bool false] ∧ Bk w13 (w.heap.size + 1) [.string ⟨#[]⟩, .int .i64 0, .bool false] ∧ Bk w13 (w8.heap.size) [.string t, .int .i64 q, .bool false] ∧ Bk w13 (w8.heap.size + 1) [.string ⟨#[]⟩, .int .i64 0, .bool false] ∧ Big.D.NatV w13 v7 (m) ∧ Big.D.NatV w13 v8 (m * 2 ^ D) ∧ Below w.heap.size w w13) := ⟨(F12.out.1).step bb, (F12.out.2.1).step bb, (F12.out.2.2.1).step bb, (F12.out.2.2.2.1).step bb, (F12.out.2.2.2.2.1).below bb, nn, (F12.out.2.2.2.2.2).trans (bb.mono (F12.out.2.2.2.2.2).size)⟩
 clear F12
 clear bb nn
 clear SH
 have SM2 := fun W => dsmall_word m2 hm2 W
 go_wp2_with fail
 all_goals first | (exfalso; omega) | skip
 refine (SM2 _).mono ?_
 rintro o14 w14 ⟨v9, rfl, nn, bb⟩
 have F14 : Hid (Bk w14 (w.heap.size) [.string ⟨#[]⟩, .int .i64 0, .bool false] ∧ Bk w14 (w.heap.size + 1) [.string ⟨#[]⟩, .int .i64 0, .bool false] ∧ Bk w14 (w8.heap.size) [.string t, .int .i64 q, .bool false] ∧ Bk w14 (w8.heap.size + 1) [.string ⟨#[]⟩, .int .i64 0, .bool false] ∧ Big.D.NatV w14 v7 (m) ∧ Big.D.NatV w14 v8 (m * 2 ^ D) ∧ Big.D.NatV w14 v9 (m2) ∧ Below w.heap.size w w14) := ⟨(F13.out.1).step bb, (F13.out.2.1).step bb, (F13.out.2.2.1).step bb, (F13.out.2.2.2.1).step bb, (F13.out.2.2.2.2.1).below bb, (F13.out.2.2.2.2.2.1).below bb, nn, (F13.out.2.2.2.2.2.2).trans (bb.mono (F13.out.2.2.2.2.2.2).size)⟩
 clear F13
 clear bb nn
 have fm2 : Fits 2 m2 := Fits.word (n := 1) (by unfold B; omega)
 have SA := dadd_nat2 (F14.out.2.2.2.2.2.1) (F14.out.2.2.2.2.2.2.1) ((HFM.out.mul (two_fits (s := D) (k := 1) (by omega))).up (by omega)) (fm2.up (by omega))
 clear fm2
 go_wp2_with fail
 all_goals first | (exfalso; omega) | skip
 refine (SA).mono ?_
 rintro o15 w15 ⟨v10, rfl, nn, bb⟩
 have F15 : Hid (Bk w15 (w.heap.size) [.string ⟨#[]⟩, .int .i64 0, .bool false] ∧ Bk w15 (w.heap.size + 1) [.string ⟨#[]⟩, .int .i64 0, .bool false] ∧ Bk w15 (w8.heap.size) [.string t, .int .i64 q, .bool false] ∧ Bk w15 (w8.heap.size + 1) [.string ⟨#[]⟩, .int .i64 0, .bool false] ∧ Big.D.NatV w15 v7 (m) ∧ Big.D.NatV w15 v8 (m * 2 ^ D) ∧ Big.D.NatV w15 v9 (m2) ∧ Big.D.NatV w15 v10 (m * 2 ^ D + m2) ∧ Below w.heap.size w w15) := ⟨(F14.out.1).step bb, (F14.out.2.1).step bb, (F14.out.2.2.1).step bb, (F14.out.2.2.2.1).step bb, (F14.out.2.2.2.2.1).below bb, (F14.out.2.2.2.2.2.1).below bb, (F14.out.2.2.2.2.2.2.1).below bb, nn, (F14.out.2.2.2.2.2.2.2).trans (bb.mono (F14.out.2.2.2.2.2.2.2).size)⟩
 clear F14
 clear bb nn
 clear SA
 go_wp2_with fail
 all_goals first | (exfalso; omega) | skip
 refine (HD2 _ _ (F15.out.2.2.2.2.2.2.2.1)).mono ?_
 rintro o16 w16 ⟨rfl, bb⟩
 have F16 : Hid (Bk w16 (w.heap.size) [.string ⟨#[]⟩, .int .i64 0, .bool false] ∧ Bk w16 (w.heap.size + 1) [.string ⟨#[]⟩, .int .i64 0, .bool false] ∧ Bk w16 (w8.heap.size) [.string t, .int .i64 q, .bool false] ∧ Bk w16 (w8.heap.size + 1) [.string ⟨#[]⟩, .int .i64 0, .bool false] ∧ Big.D.NatV w16 v7 (m) ∧ Big.D.NatV w16 v8 (m * 2 ^ D) ∧ Big.D.NatV w16 v9 (m2) ∧ Big.D.NatV w16 v10 (m * 2 ^ D + m2) ∧ Below w.heap.size w w16) := ⟨(F15.out.1).step bb, (F15.out.2.1).step bb, (F15.out.2.2.1).step bb, (F15.out.2.2.2.1).step bb, (F15.out.2.2.2.2.1).below bb, (F15.out.2.2.2.2.2.1).below bb, (F15.out.2.2.2.2.2.2.1).below bb, (F15.out.2.2.2.2.2.2.2.1).below bb, (F15.out.2.2.2.2.2.2.2.2).trans (bb.mono (F15.out.2.2.2.2.2.2.2.2).size)⟩
 clear F15
 clear bb
 have F17 : Hid (Bk w16 (w.heap.size) [.string ⟨#[]⟩, .int .i64 0, .bool false] ∧ Bk w16 (w.heap.size + 1) [.string ⟨#[]⟩, .int .i64 0, .bool false] ∧ Bk w16 (w8.heap.size) [.string t, .int .i64 q, .bool false] ∧ Bk w16 (w8.heap.size + 1) [.string ⟨#[]⟩, .int .i64 0, .bool false] ∧ Below w.heap.size w w16) := ⟨F16.out.1, F16.out.2.1, F16.out.2.2.1, F16.out.2.2.2.1, F16.out.2.2.2.2.2.2.2.2⟩
 clear F16
 clear l2_0 a2_0_0 f2_0_0 a2_0_1 f2_0_1 a2_0_2 f2_0_2 l2_1 a2_1_0 f2_1_0 a2_1_1 f2_1_1 a2_1_2 f2_1_2 l2_2 a2_2_0 f2_2_0 a2_2_1 f2_2_1 a2_2_2 f2_2_2 l2_3 a2_3_0 f2_3_0 a2_3_1 f2_3_1 a2_3_2 f2_3_2
 have l3_0 := F17.out.1.lt
 have a3_0_0 := F17.out.1.cell 0 _ rfl
 have f3_0_0 := F17.out.1.fz 0
 have a3_0_1 := F17.out.1.cell 1 _ rfl
 have f3_0_1 := F17.out.1.fz 1
 have a3_0_2 := F17.out.1.cell 2 _ rfl
 have f3_0_2 := F17.out.1.fz 2
 have l3_1 := F17.out.2.1.lt
 have a3_1_0 := F17.out.2.1.cell 0 _ rfl
 have f3_1_0 := F17.out.2.1.fz 0
 have a3_1_1 := F17.out.2.1.cell 1 _ rfl
 have f3_1_1 := F17.out.2.1.fz 1
 have a3_1_2 := F17.out.2.1.cell 2 _ rfl
 have f3_1_2 := F17.out.2.1.fz 2
 have l3_2 := F17.out.2.2.1.lt
 have a3_2_0 := F17.out.2.2.1.cell 0 _ rfl
 have f3_2_0 := F17.out.2.2.1.fz 0
 have a3_2_1 := F17.out.2.2.1.cell 1 _ rfl
 have f3_2_1 := F17.out.2.2.1.fz 1
 have a3_2_2 := F17.out.2.2.1.cell 2 _ rfl
 have f3_2_2 := F17.out.2.2.1.fz 2
 have l3_3 := F17.out.2.2.2.1.lt
 have a3_3_0 := F17.out.2.2.2.1.cell 0 _ rfl
 have f3_3_0 := F17.out.2.2.2.1.fz 0
 have a3_3_1 := F17.out.2.2.2.1.cell 1 _ rfl
 have f3_3_1 := F17.out.2.2.2.1.fz 1
 have a3_3_2 := F17.out.2.2.2.1.cell 2 _ rfl
 have f3_3_2 := F17.out.2.2.2.1.fz 2
 have ne3_0_1 : ¬ w.heap.size = w.heap.size + 1 := by omega
 have ne3_0_2 : ¬ w.heap.size = w8.heap.size := by omega
 have ne3_0_3 : ¬ w.heap.size = w8.heap.size + 1 := by omega
 have ne3_1_0 : ¬ w.heap.size + 1 = w.heap.size := by omega
 have ne3_1_2 : ¬ w.heap.size + 1 = w8.heap.size := by omega
 have ne3_1_3 : ¬ w.heap.size + 1 = w8.heap.size + 1 := by omega
 have ne3_2_0 : ¬ w8.heap.size = w.heap.size := by omega
 have ne3_2_1 : ¬ w8.heap.size = w.heap.size + 1 := by omega
 have ne3_2_3 : ¬ w8.heap.size = w8.heap.size + 1 := by omega
 have ne3_3_0 : ¬ w8.heap.size + 1 = w.heap.size := by omega
 have ne3_3_1 : ¬ w8.heap.size + 1 = w.heap.size + 1 := by omega
 have ne3_3_2 : ¬ w8.heap.size + 1 = w8.heap.size := by omega
 go_upto_region 11 with fail
 go_region_held3 (fun w' => w'.cell? ⟨w8.heap.size, 0, none⟩ = some (.string t) ∧ w'.cell? ⟨w8.heap.size, 1, none⟩ = some (.int .i64 q) ∧ w'.cell? ⟨w8.heap.size, 2, none⟩ = some (.bool false) ∧ w'.cell? ⟨w8.heap.size + 1, 0, none⟩ = some (.string s) ∧ w'.cell? ⟨w8.heap.size + 1, 1, none⟩ = some (.int .i64 p) ∧ w'.cell? ⟨w8.heap.size + 1, 2, none⟩ = some (.bool false)) (simp [*, go_sem, World.cell?_setCell_same, World.cell?_setCell_other]) (fail)
 go_wp2
 refine bodyPost_ret (v := .tuple #[.agg #[.string s, .int .i64 p, .bool false], .agg #[.string t, .int .i64 q, .bool false], .bool cB, .int .i64 0]) (by simp [results, Tryz.results90, go_sem, World.cell?_setCell_same, World.cell?_setCell_other, *]) rfl ⟨rfl, ?_⟩
 refine Below.drew ?_
 repeat (first | refine Below.setCell ?_ (by first | exact Nat.le_refl _ | (dsimp only; omega)) _ | refine Below.alloc ?_ (by first | exact Nat.le_refl _ | omega | (simp; omega)) _ | refine Below.drew ?_)
 exact F17.out.2.2.2.2
theorem rin_zero {s t u : ByteArray} {p q o : Int} {c : Bool} {b z : Int} {r : Bool} (h0 : (u.size : Int) = 0) (hr : ((s.size : Int) == 0) = r) (HB : ∀ W, Calls Tryz.prog 90 #[.int .u64 b, .int .i64 z] W fun e w' => e = .returned (.tuple #[.agg #[.string s, .int .i64 p, .bool false], .agg #[.string t, .int .i64 q, .bool false], .bool c, .int .i64 0]) ∧ Below W.heap.size W w') (HV : ∀ W, Calls Tryz.prog 54 #[.agg #[.string u, .int .i64 o, .bool false]] W fun e w' => e = .returned (.int .i64 0) ∧ Below W.heap.size W w') (w : World) :
 Calls Tryz.prog 53 #[.agg #[.string u, .int .i64 o, .bool false], .int .u64 b, .int .i64 z] w fun x w' => x = .returned (.tuple #[.bool r, .int .i64 0]) ∧ Below w.heap.size w w' := by
 have F0 : Hid (Bk (w.alloc (.cells #[.string u, .int .i64 o, .bool false] 24)) (w.heap.size) [.string u, .int .i64 o, .bool false] ∧ Below w.heap.size w (w.alloc (.cells #[.string u, .int .i64 o, .bool false] 24))) := ⟨Bk.new3 w (.string u) (.int .i64 o) (.bool false) 24, ((Below.refl w.heap.size w)).alloc (Nat.le_refl _) _⟩
 go_enter Tryz.func53, Tryz.ntmps53
 go_upto_region 1 with fail
 generalize (w.alloc (.cells #[.string u, .int .i64 o, .bool false] 24)) = w1 at *
 go_wp2_with fail
 all_goals first | (exfalso; omega) | skip
 refine (HB _).mono ?_
 rintro o2 w2 ⟨rfl, bb⟩
 have F1 : Hid (Bk w2 (w.heap.size) [.string u, .int .i64 o, .bool false] ∧ Below w.heap.size w w2) := ⟨(F0.out.1).step bb, (F0.out.2).trans (bb.mono (F0.out.2).size)⟩
 clear F0
 clear bb
 have lt0_1 := (F1.out.1).lt
 have le1 := (F1.out.2).size
 have F2 : Hid (Bk ((w2.alloc (.cells #[.string s, .int .i64 p, .bool false] 24)).alloc (.cells #[.string t, .int .i64 q, .bool false] 24)) (w.heap.size) [.string u, .int .i64 o, .bool false] ∧ Bk ((w2.alloc (.cells #[.string s, .int .i64 p, .bool false] 24)).alloc (.cells #[.string t, .int .i64 q, .bool false] 24)) (w2.heap.size) [.string s, .int .i64 p, .bool false] ∧ Bk ((w2.alloc (.cells #[.string s, .int .i64 p, .bool false] 24)).alloc (.cells #[.string t, .int .i64 q, .bool false] 24)) (w2.heap.size + 1) [.string t, .int .i64 q, .bool false] ∧ Below w.heap.size w ((w2.alloc (.cells #[.string s, .int .i64 p, .bool false] 24)).alloc (.cells #[.string t, .int .i64 q, .bool false] 24))) := ⟨((F1.out.1).step ((Below.refl _ _).alloc (Nat.le_refl _) _)).step ((Below.refl _ _).alloc (Nat.le_refl _) _), (Bk.new3 w2 (.string s) (.int .i64 p) (.bool false) 24).step ((Below.refl _ _).alloc (Nat.le_refl _) _), ((by have q := Bk.new3 (w2.alloc (.cells #[.string s, .int .i64 p, .bool false] 24)) (.string t) (.int .i64 q) (.bool false) 24; simpa using q) : Bk ((w2.alloc (.cells #[.string s, .int .i64 p, .bool false] 24)).alloc (.cells #[.string t, .int .i64 q, .bool false] 24)) (w2.heap.size + 1) [.string t, .int .i64 q, .bool false]), ((F1.out.2).alloc ((F1.out.2).size) _).alloc (((F1.out.2).alloc ((F1.out.2).size) _).size) _⟩
 clear F1
 go_upto_region 2 with fail
 generalize ((w2.alloc (.cells #[.string s, .int .i64 p, .bool false] 24)).alloc (.cells #[.string t, .int .i64 q, .bool false] 24)) = w3 at *
 have l1_0 := F2.out.1.lt
 have a1_0_0 := F2.out.1.cell 0 _ rfl
 have f1_0_0 := F2.out.1.fz 0
 have a1_0_1 := F2.out.1.cell 1 _ rfl
 have f1_0_1 := F2.out.1.fz 1
 have a1_0_2 := F2.out.1.cell 2 _ rfl
 have f1_0_2 := F2.out.1.fz 2
 have l1_1 := F2.out.2.1.lt
 have a1_1_0 := F2.out.2.1.cell 0 _ rfl
 have f1_1_0 := F2.out.2.1.fz 0
 have a1_1_1 := F2.out.2.1.cell 1 _ rfl
 have f1_1_1 := F2.out.2.1.fz 1
 have a1_1_2 := F2.out.2.1.cell 2 _ rfl
 have f1_1_2 := F2.out.2.1.fz 2
 have l1_2 := F2.out.2.2.1.lt
 have a1_2_0 := F2.out.2.2.1.cell 0 _ rfl
 have f1_2_0 := F2.out.2.2.1.fz 0
 have a1_2_1 := F2.out.2.2.1.cell 1 _ rfl
 have f1_2_1 := F2.out.2.2.1.fz 1
 have a1_2_2 := F2.out.2.2.1.cell 2 _ rfl
 have f1_2_2 := F2.out.2.2.1.fz 2
 have ne1_0_1 : ¬ w.heap.size = w2.heap.size := by omega
 have ne1_0_2 : ¬ w.heap.size = w2.heap.size + 1 := by omega
 have ne1_1_0 : ¬ w2.heap.size = w.heap.size := by omega
 have ne1_1_2 : ¬ w2.heap.size = w2.heap.size + 1 := by omega
 have ne1_2_0 : ¬ w2.heap.size + 1 = w.heap.size := by omega
 have ne1_2_1 : ¬ w2.heap.size + 1 = w2.heap.size := by omega
 go_wp2_with fail
 all_goals first | (exfalso; omega) | skip
 refine (HV _).mono ?_
 rintro o4 w4 ⟨rfl, bb⟩
 have F3 : Hid (Bk w4 (w.heap.size) [.string u, .int .i64 o, .bool false] ∧ Bk w4 (w2.heap.size) [.string s, .int .i64 p, .bool false] ∧ Bk w4 (w2.heap.size + 1) [.string t, .int .i64 q, .bool false] ∧ Below w.heap.size w w4) := ⟨(F2.out.1).step bb, (F2.out.2.1).step bb, (F2.out.2.2.1).step bb, (F2.out.2.2.2).trans (bb.mono (F2.out.2.2.2).size)⟩
 clear F2
 clear bb
 clear l1_0 a1_0_0 f1_0_0 a1_0_1 f1_0_1 a1_0_2 f1_0_2 l1_1 a1_1_0 f1_1_0 a1_1_1 f1_1_1 a1_1_2 f1_1_2 l1_2 a1_2_0 f1_2_0 a1_2_1 f1_2_1 a1_2_2 f1_2_2
 have l2_0 := F3.out.1.lt
 have a2_0_0 := F3.out.1.cell 0 _ rfl
 have f2_0_0 := F3.out.1.fz 0
 have a2_0_1 := F3.out.1.cell 1 _ rfl
 have f2_0_1 := F3.out.1.fz 1
 have a2_0_2 := F3.out.1.cell 2 _ rfl
 have f2_0_2 := F3.out.1.fz 2
 have l2_1 := F3.out.2.1.lt
 have a2_1_0 := F3.out.2.1.cell 0 _ rfl
 have f2_1_0 := F3.out.2.1.fz 0
 have a2_1_1 := F3.out.2.1.cell 1 _ rfl
 have f2_1_1 := F3.out.2.1.fz 1
 have a2_1_2 := F3.out.2.1.cell 2 _ rfl
 have f2_1_2 := F3.out.2.1.fz 2
 have l2_2 := F3.out.2.2.1.lt
 have a2_2_0 := F3.out.2.2.1.cell 0 _ rfl
 have f2_2_0 := F3.out.2.2.1.fz 0
 have a2_2_1 := F3.out.2.2.1.cell 1 _ rfl
 have f2_2_1 := F3.out.2.2.1.fz 1
 have a2_2_2 := F3.out.2.2.1.cell 2 _ rfl
 have f2_2_2 := F3.out.2.2.1.fz 2
 have ne2_0_1 : ¬ w.heap.size = w2.heap.size := by omega
 have ne2_0_2 : ¬ w.heap.size = w2.heap.size + 1 := by omega
 have ne2_1_0 : ¬ w2.heap.size = w.heap.size := by omega
 have ne2_1_2 : ¬ w2.heap.size = w2.heap.size + 1 := by omega
 have ne2_2_0 : ¬ w2.heap.size + 1 = w.heap.size := by omega
 have ne2_2_1 : ¬ w2.heap.size + 1 = w2.heap.size := by omega
 go_wp2
 go_ret2
 exact ⟨rfl, F3.out.2.2.2⟩
theorem rin_ok {s t u : ByteArray} {p q o : Int} {c : Bool} {b z : Int} {r : Bool} (h0 : ((u.size : Int) == 0) = false) (HB : ∀ W, Calls Tryz.prog 90 #[.int .u64 b, .int .i64 z] W fun e w' => e = .returned (.tuple #[.agg #[.string s, .int .i64 p, .bool false], .agg #[.string t, .int .i64 q, .bool false], .bool c, .int .i64 0]) ∧ Below W.heap.size W w') (HV : ∀ W, Calls Tryz.prog 54 #[.agg #[.string u, .int .i64 o, .bool false]] W fun e w' => e = .returned (.int .i64 0) ∧ Below W.heap.size W w') (HW : ∀ W, Calls Tryz.prog 91 #[.agg #[.string u, .int .i64 o, .bool false], .agg #[.string s, .int .i64 p, .bool false], .agg #[.string t, .int .i64 q, .bool false], .bool c] W fun e w' => e = .returned (.bool r) ∧ Below W.heap.size W w') (w : World) :
 Calls Tryz.prog 53 #[.agg #[.string u, .int .i64 o, .bool false], .int .u64 b, .int .i64 z] w fun x w' => x = .returned (.tuple #[.bool r, .int .i64 0]) ∧ Below w.heap.size w w' := by
 have F0 : Hid (Bk (w.alloc (.cells #[.string u, .int .i64 o, .bool false] 24)) (w.heap.size) [.string u, .int .i64 o, .bool false] ∧ Below w.heap.size w (w.alloc (.cells #[.string u, .int .i64 o, .bool false] 24))) := ⟨Bk.new3 w (.string u) (.int .i64 o) (.bool false) 24, ((Below.refl w.heap.size w)).alloc (Nat.le_refl _) _⟩
 go_enter Tryz.func53, Tryz.ntmps53
 go_upto_region 1 with fail
 generalize (w.alloc (.cells #[.string u, .int .i64 o, .bool false] 24)) = w1 at *
 go_wp2_with fail
 all_goals first | (exfalso; omega) | skip
 refine (HB _).mono ?_
 rintro o2 w2 ⟨rfl, bb⟩
 have F1 : Hid (Bk w2 (w.heap.size) [.string u, .int .i64 o, .bool false] ∧ Below w.heap.size w w2) := ⟨(F0.out.1).step bb, (F0.out.2).trans (bb.mono (F0.out.2).size)⟩
 clear F0
 clear bb
 have lt0_1 := (F1.out.1).lt
 have le1 := (F1.out.2).size
 have F2 : Hid (Bk ((w2.alloc (.cells #[.string s, .int .i64 p, .bool false] 24)).alloc (.cells #[.string t, .int .i64 q, .bool false] 24)) (w.heap.size) [.string u, .int .i64 o, .bool false] ∧ Bk ((w2.alloc (.cells #[.string s, .int .i64 p, .bool false] 24)).alloc (.cells #[.string t, .int .i64 q, .bool false] 24)) (w2.heap.size) [.string s, .int .i64 p, .bool false] ∧ Bk ((w2.alloc (.cells #[.string s, .int .i64 p, .bool false] 24)).alloc (.cells #[.string t, .int .i64 q, .bool false] 24)) (w2.heap.size + 1) [.string t, .int .i64 q, .bool false] ∧ Below w.heap.size w ((w2.alloc (.cells #[.string s, .int .i64 p, .bool false] 24)).alloc (.cells #[.string t, .int .i64 q, .bool false] 24))) := ⟨((F1.out.1).step ((Below.refl _ _).alloc (Nat.le_refl _) _)).step ((Below.refl _ _).alloc (Nat.le_refl _) _), (Bk.new3 w2 (.string s) (.int .i64 p) (.bool false) 24).step ((Below.refl _ _).alloc (Nat.le_refl _) _), ((by have q := Bk.new3 (w2.alloc (.cells #[.string s, .int .i64 p, .bool false] 24)) (.string t) (.int .i64 q) (.bool false) 24; simpa using q) : Bk ((w2.alloc (.cells #[.string s, .int .i64 p, .bool false] 24)).alloc (.cells #[.string t, .int .i64 q, .bool false] 24)) (w2.heap.size + 1) [.string t, .int .i64 q, .bool false]), ((F1.out.2).alloc ((F1.out.2).size) _).alloc (((F1.out.2).alloc ((F1.out.2).size) _).size) _⟩
 clear F1
 go_upto_region 2 with fail
 generalize ((w2.alloc (.cells #[.string s, .int .i64 p, .bool false] 24)).alloc (.cells #[.string t, .int .i64 q, .bool false] 24)) = w3 at *
 have l1_0 := F2.out.1.lt
 have a1_0_0 := F2.out.1.cell 0 _ rfl
 have f1_0_0 := F2.out.1.fz 0
 have a1_0_1 := F2.out.1.cell 1 _ rfl
 have f1_0_1 := F2.out.1.fz 1
 have a1_0_2 := F2.out.1.cell 2 _ rfl
 have f1_0_2 := F2.out.1.fz 2
 have l1_1 := F2.out.2.1.lt
 have a1_1_0 := F2.out.2.1.cell 0 _ rfl
 have f1_1_0 := F2.out.2.1.fz 0
 have a1_1_1 := F2.out.2.1.cell 1 _ rfl
 have f1_1_1 := F2.out.2.1.fz 1
 have a1_1_2 := F2.out.2.1.cell 2 _ rfl
 have f1_1_2 := F2.out.2.1.fz 2
 have l1_2 := F2.out.2.2.1.lt
 have a1_2_0 := F2.out.2.2.1.cell 0 _ rfl
 have f1_2_0 := F2.out.2.2.1.fz 0
 have a1_2_1 := F2.out.2.2.1.cell 1 _ rfl
 have f1_2_1 := F2.out.2.2.1.fz 1
 have a1_2_2 := F2.out.2.2.1.cell 2 _ rfl
 have f1_2_2 := F2.out.2.2.1.fz 2
 have ne1_0_1 : ¬ w.heap.size = w2.heap.size := by omega
 have ne1_0_2 : ¬ w.heap.size = w2.heap.size + 1 := by omega
 have ne1_1_0 : ¬ w2.heap.size = w.heap.size := by omega
 have ne1_1_2 : ¬ w2.heap.size = w2.heap.size + 1 := by omega
 have ne1_2_0 : ¬ w2.heap.size + 1 = w.heap.size := by omega
 have ne1_2_1 : ¬ w2.heap.size + 1 = w2.heap.size := by omega
 go_wp2_with fail
 all_goals first | (exfalso; omega) | skip
 refine (HV _).mono ?_
 rintro o4 w4 ⟨rfl, bb⟩
 have F3 : Hid (Bk w4 (w.heap.size) [.string u, .int .i64 o, .bool false] ∧ Bk w4 (w2.heap.size) [.string s, .int .i64 p, .bool false] ∧ Bk w4 (w2.heap.size + 1) [.string t, .int .i64 q, .bool false] ∧ Below w.heap.size w w4) := ⟨(F2.out.1).step bb, (F2.out.2.1).step bb, (F2.out.2.2.1).step bb, (F2.out.2.2.2).trans (bb.mono (F2.out.2.2.2).size)⟩
 clear F2
 clear bb
 clear l1_0 a1_0_0 f1_0_0 a1_0_1 f1_0_1 a1_0_2 f1_0_2 l1_1 a1_1_0 f1_1_0 a1_1_1 f1_1_1 a1_1_2 f1_1_2 l1_2 a1_2_0 f1_2_0 a1_2_1 f1_2_1 a1_2_2 f1_2_2
 have l2_0 := F3.out.1.lt
 have a2_0_0 := F3.out.1.cell 0 _ rfl
 have f2_0_0 := F3.out.1.fz 0
 have a2_0_1 := F3.out.1.cell 1 _ rfl
 have f2_0_1 := F3.out.1.fz 1
 have a2_0_2 := F3.out.1.cell 2 _ rfl
 have f2_0_2 := F3.out.1.fz 2
 have l2_1 := F3.out.2.1.lt
 have a2_1_0 := F3.out.2.1.cell 0 _ rfl
 have f2_1_0 := F3.out.2.1.fz 0
 have a2_1_1 := F3.out.2.1.cell 1 _ rfl
 have f2_1_1 := F3.out.2.1.fz 1
 have a2_1_2 := F3.out.2.1.cell 2 _ rfl
 have f2_1_2 := F3.out.2.1.fz 2
 have l2_2 := F3.out.2.2.1.lt
 have a2_2_0 := F3.out.2.2.1.cell 0 _ rfl
 have f2_2_0 := F3.out.2.2.1.fz 0
 have a2_2_1 := F3.out.2.2.1.cell 1 _ rfl
 have f2_2_1 := F3.out.2.2.1.fz 1
 have a2_2_2 := F3.out.2.2.1.cell 2 _ rfl
 have f2_2_2 := F3.out.2.2.1.fz 2
 have ne2_0_1 : ¬ w.heap.size = w2.heap.size := by omega
 have ne2_0_2 : ¬ w.heap.size = w2.heap.size + 1 := by omega
 have ne2_1_0 : ¬ w2.heap.size = w.heap.size := by omega
 have ne2_1_2 : ¬ w2.heap.size = w2.heap.size + 1 := by omega
 have ne2_2_0 : ¬ w2.heap.size + 1 = w.heap.size := by omega
 have ne2_2_1 : ¬ w2.heap.size + 1 = w2.heap.size := by omega
 go_wp2_with fail
 all_goals first | (exfalso; omega) | skip
 refine (HW _).mono ?_
 rintro o5 w5 ⟨rfl, bb⟩
 have F4 : Hid (Bk w5 (w.heap.size) [.string u, .int .i64 o, .bool false] ∧ Bk w5 (w2.heap.size) [.string s, .int .i64 p, .bool false] ∧ Bk w5 (w2.heap.size + 1) [.string t, .int .i64 q, .bool false] ∧ Below w.heap.size w w5) := ⟨(F3.out.1).step bb, (F3.out.2.1).step bb, (F3.out.2.2.1).step bb, (F3.out.2.2.2).trans (bb.mono (F3.out.2.2.2).size)⟩
 clear F3
 clear bb
 go_wp2
 go_ret2
 exact ⟨rfl, F4.out.2.2.2⟩
theorem near_ok {b z : Int} {n : Int} {u u1 u2 : ByteArray} {o o1 o2 : Int} {r1 r2 : Bool} (HE : ∀ W, Calls Tryz.prog 21 #[.int .u64 b, .int .i64 z] W fun e w' => e = .returned (.tuple #[.agg #[.string u, .int .i64 o, .bool false], .int .i64 0]) ∧ Below W.heap.size W w') (HD : ∀ W, Calls Tryz.prog 51 #[.agg #[.string u, .int .i64 o, .bool false], .int .i64 n] W fun e w' => e = .returned (.tuple #[.agg #[.string u1, .int .i64 o1, .bool false], .int .i64 0]) ∧ Below W.heap.size W w') (HU : ∀ W, Calls Tryz.prog 52 #[.agg #[.string u, .int .i64 o, .bool false], .int .i64 n] W fun e w' => e = .returned (.tuple #[.agg #[.string u2, .int .i64 o2, .bool false], .int .i64 0]) ∧ Below W.heap.size W w') (H1 : ∀ W, Calls Tryz.prog 53 #[.agg #[.string u1, .int .i64 o1, .bool false], .int .u64 b, .int .i64 z] W fun e w' => e = .returned (.tuple #[.bool r1, .int .i64 0]) ∧ Below W.heap.size W w') (H2 : ∀ W, Calls Tryz.prog 53 #[.agg #[.string u2, .int .i64 o2, .bool false], .int .u64 b, .int .i64 z] W fun e w' => e = .returned (.tuple #[.bool r2, .int .i64 0]) ∧ Below W.heap.size W w') (w : World) :
 Calls Tryz.prog 22 #[.int .u64 b, .int .i64 z, .int .i64 n] w fun x w' => x = .returned (.tuple #[.agg #[.string u1, .int .i64 o1, .bool false], .bool r1, .agg #[.string u2, .int .i64 o2, .bool false], .bool r2]) ∧ Below w.heap.size w w' := by
 have F0 : Hid (Bk ((w.alloc (.cells #[.string ⟨#[]⟩, .int .i64 0, .bool false] 24)).alloc (.cells #[.string ⟨#[]⟩, .int .i64 0, .bool false] 24)) (w.heap.size) [.string ⟨#[]⟩, .int .i64 0, .bool false] ∧ Bk ((w.alloc (.cells #[.string ⟨#[]⟩, .int .i64 0, .bool false] 24)).alloc (.cells #[.string ⟨#[]⟩, .int .i64 0, .bool false] 24)) (w.heap.size + 1) [.string ⟨#[]⟩, .int .i64 0, .bool false] ∧ Below w.heap.size w ((w.alloc (.cells #[.string ⟨#[]⟩, .int .i64 0, .bool false] 24)).alloc (.cells #[.string ⟨#[]⟩, .int .i64 0, .bool false] 24))) := ⟨(Bk.new3 w (.string ⟨#[]⟩) (.int .i64 0) (.bool false) 24).step ((Below.refl _ _).alloc (Nat.le_refl _) _), ((by have q := Bk.new3 (w.alloc (.cells #[.string ⟨#[]⟩, .int .i64 0, .bool false] 24)) (.string ⟨#[]⟩) (.int .i64 0) (.bool false) 24; simpa using q) : Bk ((w.alloc (.cells #[.string ⟨#[]⟩, .int .i64 0, .bool false] 24)).alloc (.cells #[.string ⟨#[]⟩, .int .i64 0, .bool false] 24)) (w.heap.size + 1) [.string ⟨#[]⟩, .int .i64 0, .bool false]), (((Below.refl w.heap.size w)).alloc (Nat.le_refl _) _).alloc ((((Below.refl w.heap.size w)).alloc (Nat.le_refl _) _).size) _⟩
 go_enter Tryz.func22, Tryz.ntmps22
 go_upto_region 1 with fail
 generalize ((w.alloc (.cells #[.string ⟨#[]⟩, .int .i64 0, .bool false] 24)).alloc (.cells #[.string ⟨#[]⟩, .int .i64 0, .bool false] 24)) = w1 at *
 go_wp2_with fail
 all_goals first | (exfalso; omega) | skip
 refine (HE _).mono ?_
 rintro o2 w2 ⟨rfl, bb⟩
 have F1 : Hid (Bk w2 (w.heap.size) [.string ⟨#[]⟩, .int .i64 0, .bool false] ∧ Bk w2 (w.heap.size + 1) [.string ⟨#[]⟩, .int .i64 0, .bool false] ∧ Below w.heap.size w w2) := ⟨(F0.out.1).step bb, (F0.out.2.1).step bb, (F0.out.2.2).trans (bb.mono (F0.out.2.2).size)⟩
 clear F0
 clear bb
 have lt0_2 := (F1.out.1).lt
 have lt1_2 := (F1.out.2.1).lt
 have le2 := (F1.out.2.2).size
 have F2 : Hid (Bk (w2.alloc (.cells #[.string u, .int .i64 o, .bool false] 24)) (w.heap.size) [.string ⟨#[]⟩, .int .i64 0, .bool false] ∧ Bk (w2.alloc (.cells #[.string u, .int .i64 o, .bool false] 24)) (w.heap.size + 1) [.string ⟨#[]⟩, .int .i64 0, .bool false] ∧ Bk (w2.alloc (.cells #[.string u, .int .i64 o, .bool false] 24)) (w2.heap.size) [.string u, .int .i64 o, .bool false] ∧ Below w.heap.size w (w2.alloc (.cells #[.string u, .int .i64 o, .bool false] 24))) := ⟨(F1.out.1).step ((Below.refl _ _).alloc (Nat.le_refl _) _), (F1.out.2.1).step ((Below.refl _ _).alloc (Nat.le_refl _) _), Bk.new3 w2 (.string u) (.int .i64 o) (.bool false) 24, (F1.out.2.2).alloc ((F1.out.2.2).size) _⟩
 clear F1
 go_upto_region 2 with fail
 generalize (w2.alloc (.cells #[.string u, .int .i64 o, .bool false] 24)) = w3 at *
 have l1_0 := F2.out.1.lt
 have a1_0_0 := F2.out.1.cell 0 _ rfl
 have f1_0_0 := F2.out.1.fz 0
 have a1_0_1 := F2.out.1.cell 1 _ rfl
 have f1_0_1 := F2.out.1.fz 1
 have a1_0_2 := F2.out.1.cell 2 _ rfl
 have f1_0_2 := F2.out.1.fz 2
 have l1_1 := F2.out.2.1.lt
 have a1_1_0 := F2.out.2.1.cell 0 _ rfl
 have f1_1_0 := F2.out.2.1.fz 0
 have a1_1_1 := F2.out.2.1.cell 1 _ rfl
 have f1_1_1 := F2.out.2.1.fz 1
 have a1_1_2 := F2.out.2.1.cell 2 _ rfl
 have f1_1_2 := F2.out.2.1.fz 2
 have l1_2 := F2.out.2.2.1.lt
 have a1_2_0 := F2.out.2.2.1.cell 0 _ rfl
 have f1_2_0 := F2.out.2.2.1.fz 0
 have a1_2_1 := F2.out.2.2.1.cell 1 _ rfl
 have f1_2_1 := F2.out.2.2.1.fz 1
 have a1_2_2 := F2.out.2.2.1.cell 2 _ rfl
 have f1_2_2 := F2.out.2.2.1.fz 2
 have ne1_0_1 : ¬ w.heap.size = w.heap.size + 1 := by omega
 have ne1_0_2 : ¬ w.heap.size = w2.heap.size := by omega
 have ne1_1_0 : ¬ w.heap.size + 1 = w.heap.size := by omega
 have ne1_1_2 : ¬ w.heap.size + 1 = w2.heap.size := by omega
 have ne1_2_0 : ¬ w2.heap.size = w.heap.size := by omega
 have ne1_2_1 : ¬ w2.heap.size = w.heap.size + 1 := by omega
 go_wp2_with fail
 all_goals first | (exfalso; omega) | skip
 refine (HD _).mono ?_
 rintro o4 w4 ⟨rfl, bb⟩
 have F3 : Hid (Bk w4 (w.heap.size) [.string ⟨#[]⟩, .int .i64 0, .bool false] ∧ Bk w4 (w.heap.size + 1) [.string ⟨#[]⟩, .int .i64 0, .bool false] ∧ Bk w4 (w2.heap.size) [.string u, .int .i64 o, .bool false] ∧ Below w.heap.size w w4) := ⟨(F2.out.1).step bb, (F2.out.2.1).step bb, (F2.out.2.2.1).step bb, (F2.out.2.2.2).trans (bb.mono (F2.out.2.2.2).size)⟩
 clear F2
 clear bb
 clear l1_0 a1_0_0 f1_0_0 a1_0_1 f1_0_1 a1_0_2 f1_0_2 l1_1 a1_1_0 f1_1_0 a1_1_1 f1_1_1 a1_1_2 f1_1_2 l1_2 a1_2_0 f1_2_0 a1_2_1 f1_2_1 a1_2_2 f1_2_2
 have lt0_3 := (F3.out.1).lt
 have lt1_3 := (F3.out.2.1).lt
 have lt2_3 := (F3.out.2.2.1).lt
 have le3 := (F3.out.2.2.2).size
 have F4 : Hid (Bk (w4.alloc (.cells #[.string u1, .int .i64 o1, .bool false] 24)) (w.heap.size) [.string ⟨#[]⟩, .int .i64 0, .bool false] ∧ Bk (w4.alloc (.cells #[.string u1, .int .i64 o1, .bool false] 24)) (w.heap.size + 1) [.string ⟨#[]⟩, .int .i64 0, .bool false] ∧ Bk (w4.alloc (.cells #[.string u1, .int .i64 o1, .bool false] 24)) (w2.heap.size) [.string u, .int .i64 o, .bool false] ∧ Bk (w4.alloc (.cells #[.string u1, .int .i64 o1, .bool false] 24)) (w4.heap.size) [.string u1, .int .i64 o1, .bool false] ∧ Below w.heap.size w (w4.alloc (.cells #[.string u1, .int .i64 o1, .bool false] 24))) := ⟨(F3.out.1).step ((Below.refl _ _).alloc (Nat.le_refl _) _), (F3.out.2.1).step ((Below.refl _ _).alloc (Nat.le_refl _) _), (F3.out.2.2.1).step ((Below.refl _ _).alloc (Nat.le_refl _) _), Bk.new3 w4 (.string u1) (.int .i64 o1) (.bool false) 24, (F3.out.2.2.2).alloc ((F3.out.2.2.2).size) _⟩
 clear F3
 go_upto_region 3 with fail
 generalize (w4.alloc (.cells #[.string u1, .int .i64 o1, .bool false] 24)) = w5 at *
 have l2_0 := F4.out.1.lt
 have a2_0_0 := F4.out.1.cell 0 _ rfl
 have f2_0_0 := F4.out.1.fz 0
 have a2_0_1 := F4.out.1.cell 1 _ rfl
 have f2_0_1 := F4.out.1.fz 1
 have a2_0_2 := F4.out.1.cell 2 _ rfl
 have f2_0_2 := F4.out.1.fz 2
 have l2_1 := F4.out.2.1.lt
 have a2_1_0 := F4.out.2.1.cell 0 _ rfl
 have f2_1_0 := F4.out.2.1.fz 0
 have a2_1_1 := F4.out.2.1.cell 1 _ rfl
 have f2_1_1 := F4.out.2.1.fz 1
 have a2_1_2 := F4.out.2.1.cell 2 _ rfl
 have f2_1_2 := F4.out.2.1.fz 2
 have l2_2 := F4.out.2.2.1.lt
 have a2_2_0 := F4.out.2.2.1.cell 0 _ rfl
 have f2_2_0 := F4.out.2.2.1.fz 0
 have a2_2_1 := F4.out.2.2.1.cell 1 _ rfl
 have f2_2_1 := F4.out.2.2.1.fz 1
 have a2_2_2 := F4.out.2.2.1.cell 2 _ rfl
 have f2_2_2 := F4.out.2.2.1.fz 2
 have l2_3 := F4.out.2.2.2.1.lt
 have a2_3_0 := F4.out.2.2.2.1.cell 0 _ rfl
 have f2_3_0 := F4.out.2.2.2.1.fz 0
 have a2_3_1 := F4.out.2.2.2.1.cell 1 _ rfl
 have f2_3_1 := F4.out.2.2.2.1.fz 1
 have a2_3_2 := F4.out.2.2.2.1.cell 2 _ rfl
 have f2_3_2 := F4.out.2.2.2.1.fz 2
 have ne2_0_1 : ¬ w.heap.size = w.heap.size + 1 := by omega
 have ne2_0_2 : ¬ w.heap.size = w2.heap.size := by omega
 have ne2_0_3 : ¬ w.heap.size = w4.heap.size := by omega
 have ne2_1_0 : ¬ w.heap.size + 1 = w.heap.size := by omega
 have ne2_1_2 : ¬ w.heap.size + 1 = w2.heap.size := by omega
 have ne2_1_3 : ¬ w.heap.size + 1 = w4.heap.size := by omega
 have ne2_2_0 : ¬ w2.heap.size = w.heap.size := by omega
 have ne2_2_1 : ¬ w2.heap.size = w.heap.size + 1 := by omega
 have ne2_2_3 : ¬ w2.heap.size = w4.heap.size := by omega
 have ne2_3_0 : ¬ w4.heap.size = w.heap.size := by omega
 have ne2_3_1 : ¬ w4.heap.size = w.heap.size + 1 := by omega
 have ne2_3_2 : ¬ w4.heap.size = w2.heap.size := by omega
 go_wp2_with fail
 all_goals first | (exfalso; omega) | skip
 refine (HU _).mono ?_
 rintro o6 w6 ⟨rfl, bb⟩
 have F5 : Hid (Bk w6 (w.heap.size) [.string ⟨#[]⟩, .int .i64 0, .bool false] ∧ Bk w6 (w.heap.size + 1) [.string ⟨#[]⟩, .int .i64 0, .bool false] ∧ Bk w6 (w2.heap.size) [.string u, .int .i64 o, .bool false] ∧ Bk w6 (w4.heap.size) [.string u1, .int .i64 o1, .bool false] ∧ Below w.heap.size w w6) := ⟨(F4.out.1).step bb, (F4.out.2.1).step bb, (F4.out.2.2.1).step bb, (F4.out.2.2.2.1).step bb, (F4.out.2.2.2.2).trans (bb.mono (F4.out.2.2.2.2).size)⟩
 clear F4
 clear bb
 clear l2_0 a2_0_0 f2_0_0 a2_0_1 f2_0_1 a2_0_2 f2_0_2 l2_1 a2_1_0 f2_1_0 a2_1_1 f2_1_1 a2_1_2 f2_1_2 l2_2 a2_2_0 f2_2_0 a2_2_1 f2_2_1 a2_2_2 f2_2_2 l2_3 a2_3_0 f2_3_0 a2_3_1 f2_3_1 a2_3_2 f2_3_2
 have lt0_4 := (F5.out.1).lt
 have lt1_4 := (F5.out.2.1).lt
 have lt2_4 := (F5.out.2.2.1).lt
 have lt3_4 := (F5.out.2.2.2.1).lt
 have le4 := (F5.out.2.2.2.2).size
 have F6 : Hid (Bk (w6.alloc (.cells #[.string u2, .int .i64 o2, .bool false] 24)) (w.heap.size) [.string ⟨#[]⟩, .int .i64 0, .bool false] ∧ Bk (w6.alloc (.cells #[.string u2, .int .i64 o2, .bool false] 24)) (w.heap.size + 1) [.string ⟨#[]⟩, .int .i64 0, .bool false] ∧ Bk (w6.alloc (.cells #[.string u2, .int .i64 o2, .bool false] 24)) (w2.heap.size) [.string u, .int .i64 o, .bool false] ∧ Bk (w6.alloc (.cells #[.string u2, .int .i64 o2, .bool false] 24)) (w4.heap.size) [.string u1, .int .i64 o1, .bool false] ∧ Bk (w6.alloc (.cells #[.string u2, .int .i64 o2, .bool false] 24)) (w6.heap.size) [.string u2, .int .i64 o2, .bool false] ∧ Below w.heap.size w (w6.alloc (.cells #[.string u2, .int .i64 o2, .bool false] 24))) := ⟨(F5.out.1).step ((Below.refl _ _).alloc (Nat.le_refl _) _), (F5.out.2.1).step ((Below.refl _ _).alloc (Nat.le_refl _) _), (F5.out.2.2.1).step ((Below.refl _ _).alloc (Nat.le_refl _) _), (F5.out.2.2.2.1).step ((Below.refl _ _).alloc (Nat.le_refl _) _), Bk.new3 w6 (.string u2) (.int .i64 o2) (.bool false) 24, (F5.out.2.2.2.2).alloc ((F5.out.2.2.2.2).size) _⟩
 clear F5
 go_upto_region 4 with fail
 generalize (w6.alloc (.cells #[.string u2, .int .i64 o2, .bool false] 24)) = w7 at *
 have l3_0 := F6.out.1.lt
 have a3_0_0 := F6.out.1.cell 0 _ rfl
 have f3_0_0 := F6.out.1.fz 0
 have a3_0_1 := F6.out.1.cell 1 _ rfl
 have f3_0_1 := F6.out.1.fz 1
 have a3_0_2 := F6.out.1.cell 2 _ rfl
 have f3_0_2 := F6.out.1.fz 2
 have l3_1 := F6.out.2.1.lt
 have a3_1_0 := F6.out.2.1.cell 0 _ rfl
 have f3_1_0 := F6.out.2.1.fz 0
 have a3_1_1 := F6.out.2.1.cell 1 _ rfl
 have f3_1_1 := F6.out.2.1.fz 1
 have a3_1_2 := F6.out.2.1.cell 2 _ rfl
 have f3_1_2 := F6.out.2.1.fz 2
 have l3_2 := F6.out.2.2.1.lt
 have a3_2_0 := F6.out.2.2.1.cell 0 _ rfl
 have f3_2_0 := F6.out.2.2.1.fz 0
 have a3_2_1 := F6.out.2.2.1.cell 1 _ rfl
 have f3_2_1 := F6.out.2.2.1.fz 1
 have a3_2_2 := F6.out.2.2.1.cell 2 _ rfl
 have f3_2_2 := F6.out.2.2.1.fz 2
 have l3_3 := F6.out.2.2.2.1.lt
 have a3_3_0 := F6.out.2.2.2.1.cell 0 _ rfl
 have f3_3_0 := F6.out.2.2.2.1.fz 0
 have a3_3_1 := F6.out.2.2.2.1.cell 1 _ rfl
 have f3_3_1 := F6.out.2.2.2.1.fz 1
 have a3_3_2 := F6.out.2.2.2.1.cell 2 _ rfl
 have f3_3_2 := F6.out.2.2.2.1.fz 2
 have l3_4 := F6.out.2.2.2.2.1.lt
 have a3_4_0 := F6.out.2.2.2.2.1.cell 0 _ rfl
 have f3_4_0 := F6.out.2.2.2.2.1.fz 0
 have a3_4_1 := F6.out.2.2.2.2.1.cell 1 _ rfl
 have f3_4_1 := F6.out.2.2.2.2.1.fz 1
 have a3_4_2 := F6.out.2.2.2.2.1.cell 2 _ rfl
 have f3_4_2 := F6.out.2.2.2.2.1.fz 2
 have ne3_0_1 : ¬ w.heap.size = w.heap.size + 1 := by omega
 have ne3_0_2 : ¬ w.heap.size = w2.heap.size := by omega
 have ne3_0_3 : ¬ w.heap.size = w4.heap.size := by omega
 have ne3_0_4 : ¬ w.heap.size = w6.heap.size := by omega
 have ne3_1_0 : ¬ w.heap.size + 1 = w.heap.size := by omega
 have ne3_1_2 : ¬ w.heap.size + 1 = w2.heap.size := by omega
 have ne3_1_3 : ¬ w.heap.size + 1 = w4.heap.size := by omega
 have ne3_1_4 : ¬ w.heap.size + 1 = w6.heap.size := by omega
 have ne3_2_0 : ¬ w2.heap.size = w.heap.size := by omega
 have ne3_2_1 : ¬ w2.heap.size = w.heap.size + 1 := by omega
 have ne3_2_3 : ¬ w2.heap.size = w4.heap.size := by omega
 have ne3_2_4 : ¬ w2.heap.size = w6.heap.size := by omega
 have ne3_3_0 : ¬ w4.heap.size = w.heap.size := by omega
 have ne3_3_1 : ¬ w4.heap.size = w.heap.size + 1 := by omega
 have ne3_3_2 : ¬ w4.heap.size = w2.heap.size := by omega
 have ne3_3_4 : ¬ w4.heap.size = w6.heap.size := by omega
 have ne3_4_0 : ¬ w6.heap.size = w.heap.size := by omega
 have ne3_4_1 : ¬ w6.heap.size = w.heap.size + 1 := by omega
 have ne3_4_2 : ¬ w6.heap.size = w2.heap.size := by omega
 have ne3_4_3 : ¬ w6.heap.size = w4.heap.size := by omega
 go_wp2_with fail
 all_goals first | (exfalso; omega) | skip
 refine (H1 _).mono ?_
 rintro o8 w8 ⟨rfl, bb⟩
 have F7 : Hid (Bk w8 (w.heap.size) [.string ⟨#[]⟩, .int .i64 0, .bool false] ∧ Bk w8 (w.heap.size + 1) [.string ⟨#[]⟩, .int .i64 0, .bool false] ∧ Bk w8 (w2.heap.size) [.string u, .int .i64 o, .bool false] ∧ Bk w8 (w4.heap.size) [.string u1, .int .i64 o1, .bool false] ∧ Bk w8 (w6.heap.size) [.string u2, .int .i64 o2, .bool false] ∧ Below w.heap.size w w8) := ⟨(F6.out.1).step bb, (F6.out.2.1).step bb, (F6.out.2.2.1).step bb, (F6.out.2.2.2.1).step bb, (F6.out.2.2.2.2.1).step bb, (F6.out.2.2.2.2.2).trans (bb.mono (F6.out.2.2.2.2.2).size)⟩
 clear F6
 clear bb
 clear l3_0 a3_0_0 f3_0_0 a3_0_1 f3_0_1 a3_0_2 f3_0_2 l3_1 a3_1_0 f3_1_0 a3_1_1 f3_1_1 a3_1_2 f3_1_2 l3_2 a3_2_0 f3_2_0 a3_2_1 f3_2_1 a3_2_2 f3_2_2 l3_3 a3_3_0 f3_3_0 a3_3_1 f3_3_1 a3_3_2 f3_3_2 l3_4 a3_4_0 f3_4_0 a3_4_1 f3_4_1 a3_4_2 f3_4_2
 have l4_0 := F7.out.1.lt
 have a4_0_0 := F7.out.1.cell 0 _ rfl
 have f4_0_0 := F7.out.1.fz 0
 have a4_0_1 := F7.out.1.cell 1 _ rfl
 have f4_0_1 := F7.out.1.fz 1
 have a4_0_2 := F7.out.1.cell 2 _ rfl
 have f4_0_2 := F7.out.1.fz 2
 have l4_1 := F7.out.2.1.lt
 have a4_1_0 := F7.out.2.1.cell 0 _ rfl
 have f4_1_0 := F7.out.2.1.fz 0
 have a4_1_1 := F7.out.2.1.cell 1 _ rfl
 have f4_1_1 := F7.out.2.1.fz 1
 have a4_1_2 := F7.out.2.1.cell 2 _ rfl
 have f4_1_2 := F7.out.2.1.fz 2
 have l4_2 := F7.out.2.2.1.lt
 have a4_2_0 := F7.out.2.2.1.cell 0 _ rfl
 have f4_2_0 := F7.out.2.2.1.fz 0
 have a4_2_1 := F7.out.2.2.1.cell 1 _ rfl
 have f4_2_1 := F7.out.2.2.1.fz 1
 have a4_2_2 := F7.out.2.2.1.cell 2 _ rfl
 have f4_2_2 := F7.out.2.2.1.fz 2
 have l4_3 := F7.out.2.2.2.1.lt
 have a4_3_0 := F7.out.2.2.2.1.cell 0 _ rfl
 have f4_3_0 := F7.out.2.2.2.1.fz 0
 have a4_3_1 := F7.out.2.2.2.1.cell 1 _ rfl
 have f4_3_1 := F7.out.2.2.2.1.fz 1
 have a4_3_2 := F7.out.2.2.2.1.cell 2 _ rfl
 have f4_3_2 := F7.out.2.2.2.1.fz 2
 have l4_4 := F7.out.2.2.2.2.1.lt
 have a4_4_0 := F7.out.2.2.2.2.1.cell 0 _ rfl
 have f4_4_0 := F7.out.2.2.2.2.1.fz 0
 have a4_4_1 := F7.out.2.2.2.2.1.cell 1 _ rfl
 have f4_4_1 := F7.out.2.2.2.2.1.fz 1
 have a4_4_2 := F7.out.2.2.2.2.1.cell 2 _ rfl
 have f4_4_2 := F7.out.2.2.2.2.1.fz 2
 have ne4_0_1 : ¬ w.heap.size = w.heap.size + 1 := by omega
 have ne4_0_2 : ¬ w.heap.size = w2.heap.size := by omega
 have ne4_0_3 : ¬ w.heap.size = w4.heap.size := by omega
 have ne4_0_4 : ¬ w.heap.size = w6.heap.size := by omega
 have ne4_1_0 : ¬ w.heap.size + 1 = w.heap.size := by omega
 have ne4_1_2 : ¬ w.heap.size + 1 = w2.heap.size := by omega
 have ne4_1_3 : ¬ w.heap.size + 1 = w4.heap.size := by omega
 have ne4_1_4 : ¬ w.heap.size + 1 = w6.heap.size := by omega
 have ne4_2_0 : ¬ w2.heap.size = w.heap.size := by omega
 have ne4_2_1 : ¬ w2.heap.size = w.heap.size + 1 := by omega
 have ne4_2_3 : ¬ w2.heap.size = w4.heap.size := by omega
 have ne4_2_4 : ¬ w2.heap.size = w6.heap.size := by omega
 have ne4_3_0 : ¬ w4.heap.size = w.heap.size := by omega
 have ne4_3_1 : ¬ w4.heap.size = w.heap.size + 1 := by omega
 have ne4_3_2 : ¬ w4.heap.size = w2.heap.size := by omega
 have ne4_3_4 : ¬ w4.heap.size = w6.heap.size := by omega
 have ne4_4_0 : ¬ w6.heap.size = w.heap.size := by omega
 have ne4_4_1 : ¬ w6.heap.size = w.heap.size + 1 := by omega
 have ne4_4_2 : ¬ w6.heap.size = w2.heap.size := by omega
 have ne4_4_3 : ¬ w6.heap.size = w4.heap.size := by omega
 go_wp2_with fail
 all_goals first | (exfalso; omega) | skip
 refine (H2 _).mono ?_
 rintro o9 w9 ⟨rfl, bb⟩
 have F8 : Hid (Bk w9 (w.heap.size) [.string ⟨#[]⟩, .int .i64 0, .bool false] ∧ Bk w9 (w.heap.size + 1) [.string ⟨#[]⟩, .int .i64 0, .bool false] ∧ Bk w9 (w2.heap.size) [.string u, .int .i64 o, .bool false] ∧ Bk w9 (w4.heap.size) [.string u1, .int .i64 o1, .bool false] ∧ Bk w9 (w6.heap.size) [.string u2, .int .i64 o2, .bool false] ∧ Below w.heap.size w w9) := ⟨(F7.out.1).step bb, (F7.out.2.1).step bb, (F7.out.2.2.1).step bb, (F7.out.2.2.2.1).step bb, (F7.out.2.2.2.2.1).step bb, (F7.out.2.2.2.2.2).trans (bb.mono (F7.out.2.2.2.2.2).size)⟩
 clear F7
 clear bb
 clear l4_0 a4_0_0 f4_0_0 a4_0_1 f4_0_1 a4_0_2 f4_0_2 l4_1 a4_1_0 f4_1_0 a4_1_1 f4_1_1 a4_1_2 f4_1_2 l4_2 a4_2_0 f4_2_0 a4_2_1 f4_2_1 a4_2_2 f4_2_2 l4_3 a4_3_0 f4_3_0 a4_3_1 f4_3_1 a4_3_2 f4_3_2 l4_4 a4_4_0 f4_4_0 a4_4_1 f4_4_1 a4_4_2 f4_4_2
 have l5_0 := F8.out.1.lt
 have a5_0_0 := F8.out.1.cell 0 _ rfl
 have f5_0_0 := F8.out.1.fz 0
 have a5_0_1 := F8.out.1.cell 1 _ rfl
 have f5_0_1 := F8.out.1.fz 1
 have a5_0_2 := F8.out.1.cell 2 _ rfl
 have f5_0_2 := F8.out.1.fz 2
 have l5_1 := F8.out.2.1.lt
 have a5_1_0 := F8.out.2.1.cell 0 _ rfl
 have f5_1_0 := F8.out.2.1.fz 0
 have a5_1_1 := F8.out.2.1.cell 1 _ rfl
 have f5_1_1 := F8.out.2.1.fz 1
 have a5_1_2 := F8.out.2.1.cell 2 _ rfl
 have f5_1_2 := F8.out.2.1.fz 2
 have l5_2 := F8.out.2.2.1.lt
 have a5_2_0 := F8.out.2.2.1.cell 0 _ rfl
 have f5_2_0 := F8.out.2.2.1.fz 0
 have a5_2_1 := F8.out.2.2.1.cell 1 _ rfl
 have f5_2_1 := F8.out.2.2.1.fz 1
 have a5_2_2 := F8.out.2.2.1.cell 2 _ rfl
 have f5_2_2 := F8.out.2.2.1.fz 2
 have l5_3 := F8.out.2.2.2.1.lt
 have a5_3_0 := F8.out.2.2.2.1.cell 0 _ rfl
 have f5_3_0 := F8.out.2.2.2.1.fz 0
 have a5_3_1 := F8.out.2.2.2.1.cell 1 _ rfl
 have f5_3_1 := F8.out.2.2.2.1.fz 1
 have a5_3_2 := F8.out.2.2.2.1.cell 2 _ rfl
 have f5_3_2 := F8.out.2.2.2.1.fz 2
 have l5_4 := F8.out.2.2.2.2.1.lt
 have a5_4_0 := F8.out.2.2.2.2.1.cell 0 _ rfl
 have f5_4_0 := F8.out.2.2.2.2.1.fz 0
 have a5_4_1 := F8.out.2.2.2.2.1.cell 1 _ rfl
 have f5_4_1 := F8.out.2.2.2.2.1.fz 1
 have a5_4_2 := F8.out.2.2.2.2.1.cell 2 _ rfl
 have f5_4_2 := F8.out.2.2.2.2.1.fz 2
 have ne5_0_1 : ¬ w.heap.size = w.heap.size + 1 := by omega
 have ne5_0_2 : ¬ w.heap.size = w2.heap.size := by omega
 have ne5_0_3 : ¬ w.heap.size = w4.heap.size := by omega
 have ne5_0_4 : ¬ w.heap.size = w6.heap.size := by omega
 have ne5_1_0 : ¬ w.heap.size + 1 = w.heap.size := by omega
 have ne5_1_2 : ¬ w.heap.size + 1 = w2.heap.size := by omega
 have ne5_1_3 : ¬ w.heap.size + 1 = w4.heap.size := by omega
 have ne5_1_4 : ¬ w.heap.size + 1 = w6.heap.size := by omega
 have ne5_2_0 : ¬ w2.heap.size = w.heap.size := by omega
 have ne5_2_1 : ¬ w2.heap.size = w.heap.size + 1 := by omega
 have ne5_2_3 : ¬ w2.heap.size = w4.heap.size := by omega
 have ne5_2_4 : ¬ w2.heap.size = w6.heap.size := by omega
 have ne5_3_0 : ¬ w4.heap.size = w.heap.size := by omega
 have ne5_3_1 : ¬ w4.heap.size = w.heap.size + 1 := by omega
 have ne5_3_2 : ¬ w4.heap.size = w2.heap.size := by omega
 have ne5_3_4 : ¬ w4.heap.size = w6.heap.size := by omega
 have ne5_4_0 : ¬ w6.heap.size = w.heap.size := by omega
 have ne5_4_1 : ¬ w6.heap.size = w.heap.size + 1 := by omega
 have ne5_4_2 : ¬ w6.heap.size = w2.heap.size := by omega
 have ne5_4_3 : ¬ w6.heap.size = w4.heap.size := by omega
 go_upto_region 6 with fail
 go_region_held3 (fun w' => w'.cell? ⟨w4.heap.size, 0, none⟩ = some (.string u1) ∧ w'.cell? ⟨w4.heap.size, 1, none⟩ = some (.int .i64 o1) ∧ w'.cell? ⟨w4.heap.size, 2, none⟩ = some (.bool false) ∧ w'.cell? ⟨w6.heap.size, 0, none⟩ = some (.string u2) ∧ w'.cell? ⟨w6.heap.size, 1, none⟩ = some (.int .i64 o2) ∧ w'.cell? ⟨w6.heap.size, 2, none⟩ = some (.bool false)) (simp [*, go_sem]) (fail)
 go_wp2
 refine bodyPost_ret (v := .tuple #[.agg #[.string u1, .int .i64 o1, .bool false], .bool r1, .agg #[.string u2, .int .i64 o2, .bool false], .bool r2]) (by simp [results, Tryz.results22, go_sem, World.cell?_setCell_same, World.cell?_setCell_other, *]) rfl ⟨rfl, ?_⟩
 refine Below.drew ?_
 repeat (first | refine Below.setCell ?_ (by first | exact Nat.le_refl _ | (dsimp only; omega)) _ | refine Below.alloc ?_ (by first | exact Nat.le_refl _ | omega | (simp; omega)) _ | refine Below.drew ?_)
 exact F8.out.2.2.2.2.2
end Go.Proofs.YtbpfhnndlknloaaGreatDoor
