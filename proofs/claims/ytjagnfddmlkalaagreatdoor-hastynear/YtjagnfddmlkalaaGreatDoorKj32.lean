/-
  Holds: VPpO IvR IvQ.
-/
import Derived.Test.YtjagnfddmlkalaaGreatDoorRows
import Derived.Laws.Externs
import Derived.WalkKit
import Derived.WalkSpells
import Derived.WalkLawsBesides
import Derived.Lib.Mul64
import Derived.Stop.Asserts
import Derived.RowKitTokens
import Derived.Lib.Strings
import Derived.Lib.BufferWrite
import Derived.Deep.OwnRows
import Derived.Deep.RegionHeld3
import Derived.BigQuiet
import Derived.Lib.ConvBytes
import Derived.Laws.CopyOwn
import Derived.Lib.TrailingZeros
import Derived.Lib.ItoaNum
import Derived.Deep.LoopGhost
import Derived.Deep.AppendLies
import Derived.Deep.DeepCutAuto
import Derived.Test.YtjagnfddmlkalaaGreatDoorKj26
import Derived.Test.YtjagnfddmlkalaaGreatDoorKj31
set_option maxRecDepth 100000
set_option maxHeartbeats 4000000
namespace Go.Proofs.YtjagnfddmlkalaaGreatDoor
open Go.RowKit
theorem dsmall_word (x : Nat) (hx : x < 18446744073709551616) (w : World) :
 Calls Tryz.prog 40 #[.int .u64 (x : Int)] w fun e w' => ∃ v, e = .returned v ∧ Big.D.NatV w' v x ∧ Below w.heap.size w w' := by
 obtain ⟨a, ha⟩ : ∃ a, a = x % 4294967296 := ⟨_, rfl⟩
 obtain ⟨b, hb⟩ : ∃ b, b = x / 4294967296 := ⟨_, rfl⟩
 have e1 : (x : Int) % 4294967296 = (a : Int) := by omega
 have e2 : (x : Int) / 4294967296 = (b : Int) := by omega
 have l1 : a < 4294967296 := by omega
 have l2 : b < 4294967296 := by omega
 have hx2 : x = a + b * 4294967296 := by omega
 clear ha hb
 have S : Big.D.Sl (w.alloc (.cells #[.int .u64 (a : Int), .int .u64 (b : Int)] 22)) (some ⟨w.heap.size, 0, none⟩) 2 2 w.heap.size 0 (fun i => if i = 0 then a else if i = 1 then b else 0) := by
  refine ⟨Nat.le_refl _, by unfold maxLen; omega, fun _ => rfl, fun _ => by simp, fun i hi => ?_, fun i => ?_⟩
  · rcases (by omega : i = 0 ∨ i = 1) with rfl | rfl <;> simp
  · show (if i = 0 then a else if i = 1 then b else 0) < 4294967296
    split
    · exact l1
    · split
      · exact l2
      · decide
 have T := Big.D.trim_any S
 have hV : Big.V (fun i => if i = 0 then a else if i = 1 then b else 0) 2 = x := by
  rw [Big.V_succ, Big.V_succ, Big.V_zero, show Big.B ^ 0 = 1 from rfl, show Big.B ^ 1 = 4294967296 from rfl]
  simp
  omega
 have N := S.trimmed
 rw [hV] at N
 have HN : Hid _ := N
 clear N S hV hx2
 go_enter Tryz.func40, Tryz.ntmps40
 go_wp2_with fail
 refine T.mono ?_
 rintro e wa ⟨rfl, rfl⟩
 go_wp2
 go_ret
 exact ⟨_, rfl, HN.out, (Below.refl _ _).alloc (Nat.le_refl _) _⟩
theorem word_fits {m : Nat} (hm : m ≤ 18014398509481984) : Fits 2 m := Fits.word (n := 1) (by unfold B; omega)
theorem five_fit {k : Nat} (h : k ≤ 1075) : Fits 200 (5 ^ k) := by
 have a : 5 ^ k ≤ 8 ^ k := Nat.pow_le_pow_left (by omega) k
 rw [show 8 = 2 ^ 3 from rfl, ← Nat.pow_mul] at a
 exact (two_fits (s := 3 * k) (k := 200) (by omega)).le a
theorem rdec_up {m j : Nat} (h : Kj m 0 j) (m0 : 0 < m) {s : ByteArray} {q : Int} (D : Dx s q (fv m (j : Int))) {w : World} {va : Value} (ha : Big.D.NatV w va m) :
 Calls Tryz.prog 39 #[va, .int .i64 (j : Int)] w fun x w' => x = .returned (dcV s q false) ∧ Below w.heap.size w w' := by
 have hj := h.hj
 have ej : m * 2 ^ j = wh m 0 j := by unfold wh; rw [Nat.pow_zero, Nat.mul_one]
 have fW : Fits 400 (wh m 0 j) := by rw [← ej]; exact ((word_fits h.hm).mul (two_fits (s := j) (k := 100) (by omega))).up (by omega)
 have D' : Dx s q (fv m ((j : Int) - ((0 : Nat) : Int))) := by rw [show (j : Int) - ((0 : Nat) : Int) = (j : Int) by omega]; exact D
 have HX : Hid (wh m 0 j ≠ 0 ∧ Fits 400 (wh m 0 j) ∧ ∀ t, Tx (wh m 0 j) t → t.size ≤ 800 ∧ ∀ W, Calls Tryz.prog 79 #[.string t, .int .i64 (t.size : Int), .bool false] W fun e w' => e = .returned (.tuple #[dcV s q false, .int .i64 0]) ∧ Below W.heap.size W w') := by
  refine ⟨Nat.ne_of_gt (wh_pos m0 0 j), fW, fun t T => ?_⟩
  obtain ⟨a, b⟩ := h.lens m0 T
  refine ⟨b, fun W => ?_⟩
  have M := h.rmake m0 D' T W
  rw [show (t.size : Int) - ((0 : Nat) : Int) = (t.size : Int) by omega] at M
  exact M
 have F0 : Hid (Bk (w.alloc (.cells #[.string ⟨#[]⟩, .int .i64 0, .bool false] 24)) w.heap.size [.string ⟨#[]⟩, .int .i64 0, .bool false] ∧ Below w.heap.size w (w.alloc (.cells #[.string ⟨#[]⟩, .int .i64 0, .bool false] 24)) ∧ Big.D.NatV (w.alloc (.cells #[.string ⟨#[]⟩, .int .i64 0, .bool false] 24)) va m) := ⟨Bk.new3 w _ _ _ _, (Below.refl _ _).alloc (Nat.le_refl _) _, ha.below ((Below.refl _ _).alloc (Nat.le_refl _) _)⟩
 have SH : ∀ W v, Big.D.NatV W v m → Calls Tryz.prog 78 #[v, .int .i64 (j : Int)] W fun e w' => ∃ v, e = .returned v ∧ Big.D.NatV w' v (wh m 0 j) ∧ Below W.heap.size W w' := fun W v hv => by
  rw [← ej]
  exact (dshl_new hv ((word_fits h.hm).up (by omega)) j (by omega)).mono fun e w' ⟨x, a, b, c⟩ => ⟨x, a, b.nat, c⟩
 generalize wh m 0 j = X at *
 clear D D' fW ej h m0 ha
 unfold dcV at *
 go_enter Tryz.func39, Tryz.ntmps39
 go_wp2_with fail
 all_goals first | (exfalso; omega) | skip
 refine (SH _ _ F0.out.2.2).mono ?_
 rintro o w1 ⟨v1, rfl, n1, b1⟩
 have F1 : Hid (Bk w1 w.heap.size [.string ⟨#[]⟩, .int .i64 0, .bool false] ∧ Below w.heap.size w w1 ∧ Big.D.NatV w1 v1 X) := ⟨F0.out.1.step b1, F0.out.2.1.trans (b1.mono F0.out.2.1.size), n1⟩
 clear b1 n1 SH F0
 have DD := decimal_ok F1.out.2.2 HX.out.1 HX.out.2.1
 go_wp2_with fail
 all_goals first | (exfalso; omega) | skip
 refine DD.mono ?_
 rintro o w2 ⟨t, rfl, T, b2⟩
 obtain ⟨ts, MK⟩ := HX.out.2.2 t T
 have F2 : Hid (Bk w2 w.heap.size [.string ⟨#[]⟩, .int .i64 0, .bool false] ∧ Below w.heap.size w w2) := ⟨F1.out.1.step b2, F1.out.2.1.trans (b2.mono F1.out.2.1.size)⟩
 clear b2 T DD F1 HX
 go_wp2_with fail
 refine (MK _).mono ?_
 rintro o w6 ⟨rfl, b6⟩
 have F6 : Hid (Bk w6 w.heap.size [.string ⟨#[]⟩, .int .i64 0, .bool false] ∧ Below w.heap.size w w6) := ⟨F2.out.1.step b6, F2.out.2.trans (b6.mono F2.out.2.size)⟩
 clear b6 MK F2
 have l6 := F6.out.1.lt
 have a0 := F6.out.1.cell 0 _ rfl
 have a1 := F6.out.1.cell 1 _ rfl
 have a2 := F6.out.1.cell 2 _ rfl
 have f0 := F6.out.1.fz 0
 have f1 := F6.out.1.fz 1
 have f2 := F6.out.1.fz 2
 go_wp2
 exact bodyPost_ret (v := .agg #[.string s, .int .i64 q, .bool false]) (by simp [results, Tryz.results39, go_sem, World.cell?_setCell_same, World.cell?_setCell_other, *]) rfl ⟨rfl, (((F6.out.2.setCell (Nat.le_refl _) _).setCell (Nat.le_refl _) _).setCell (Nat.le_refl _) _).alloc (by simpa using F6.out.2.size) _⟩
theorem rdec_dn {m k : Nat} (h : Kj m k 0) (k0 : 0 < k) (m0 : 0 < m) {s : ByteArray} {q : Int} (D : Dx s q (fv m (-(k : Int)))) {w : World} {va : Value} (ha : Big.D.NatV w va m) :
 Calls Tryz.prog 39 #[va, .int .i64 (-(k : Int))] w fun x w' => x = .returned (dcV s q false) ∧ Below w.heap.size w w' := by
 have hk := h.hk
 have ej : m * 5 ^ k = wh m k 0 := by unfold wh; rw [Nat.pow_zero, Nat.mul_one]
 have fW : Fits 400 (wh m k 0) := by rw [← ej]; exact ((word_fits h.hm).mul (five_fit h.hk)).up (by omega)
 have D' : Dx s q (fv m (((0 : Nat) : Int) - (k : Int))) := by rw [show ((0 : Nat) : Int) - (k : Int) = -(k : Int) by omega]; exact D
 have HX : Hid (wh m k 0 ≠ 0 ∧ Fits 400 (wh m k 0) ∧ ∀ t, Tx (wh m k 0) t → t.size ≤ 800 ∧ ∀ W, Calls Tryz.prog 79 #[.string t, .int .i64 ((t.size : Int) - (k : Int)), .bool false] W fun e w' => e = .returned (.tuple #[dcV s q false, .int .i64 0]) ∧ Below W.heap.size W w') := by
  refine ⟨Nat.ne_of_gt (wh_pos m0 k 0), fW, fun t T => ?_⟩
  obtain ⟨a, b⟩ := h.lens m0 T
  exact ⟨b, fun W => h.rmake m0 D' T W⟩
 have F0 : Hid (Bk (w.alloc (.cells #[.string ⟨#[]⟩, .int .i64 0, .bool false] 24)) w.heap.size [.string ⟨#[]⟩, .int .i64 0, .bool false] ∧ Below w.heap.size w (w.alloc (.cells #[.string ⟨#[]⟩, .int .i64 0, .bool false] 24)) ∧ Big.D.NatV (w.alloc (.cells #[.string ⟨#[]⟩, .int .i64 0, .bool false] 24)) va m) := ⟨Bk.new3 w _ _ _ _, (Below.refl _ _).alloc (Nat.le_refl _) _, ha.below ((Below.refl _ _).alloc (Nat.le_refl _) _)⟩
 have PW := fun W => dpow_any 5 k (by decide) (by decide) (by omega) W
 simp only [Int.cast_ofNat_Int] at PW
 have MU : ∀ W v u, Big.D.NatV W v m → Big.D.NatV W u (5 ^ k) → Calls Tryz.prog 80 #[v, u] W fun e w' => ∃ v, e = .returned v ∧ Big.D.NatV w' v (wh m k 0) ∧ Below W.heap.size W w' := fun W v u hv hu => by
  rw [← ej]
  exact dmul_nat hv hu ((word_fits h.hm).up (by omega)) ((five_fit h.hk).up (by omega))
 generalize wh m k 0 = X at *
 clear D D' fW ej h m0 ha
 generalize 5 ^ k = F at *
 unfold dcV at *
 have kn : ¬ 0 ≤ -(k : Int) := by omega
 go_enter Tryz.func39, Tryz.ntmps39
 go_wp2_with fail
 all_goals first | (exfalso; omega) | skip
 try rw [Int.neg_neg]
 refine (PW _).mono ?_
 rintro o w0 ⟨v0, rfl, n0, b0⟩
 have F00 : Hid (Bk w0 w.heap.size [.string ⟨#[]⟩, .int .i64 0, .bool false] ∧ Below w.heap.size w w0 ∧ Big.D.NatV w0 va m ∧ Big.D.NatV w0 v0 F) := ⟨F0.out.1.step b0, F0.out.2.1.trans (b0.mono F0.out.2.1.size), F0.out.2.2.below b0, n0⟩
 clear b0 n0 PW F0
 go_wp2_with fail
 all_goals first | (exfalso; omega) | skip
 refine (MU _ _ _ F00.out.2.2.1 F00.out.2.2.2).mono ?_
 rintro o w1 ⟨v1, rfl, n1, b1⟩
 have F1 : Hid (Bk w1 w.heap.size [.string ⟨#[]⟩, .int .i64 0, .bool false] ∧ Below w.heap.size w w1 ∧ Big.D.NatV w1 v1 X) := ⟨F00.out.1.step b1, F00.out.2.1.trans (b1.mono F00.out.2.1.size), n1⟩
 clear b1 n1 MU F00
 have DD := decimal_ok F1.out.2.2 HX.out.1 HX.out.2.1
 go_wp2_with fail
 all_goals first | (exfalso; omega) | skip
 refine DD.mono ?_
 rintro o w2 ⟨t, rfl, T, b2⟩
 obtain ⟨ts, MK⟩ := HX.out.2.2 t T
 have F2 : Hid (Bk w2 w.heap.size [.string ⟨#[]⟩, .int .i64 0, .bool false] ∧ Below w.heap.size w w2) := ⟨F1.out.1.step b2, F1.out.2.1.trans (b2.mono F1.out.2.1.size)⟩
 clear b2 T DD F1 HX
 have e1 : (t.size : Int) + -(k : Int) = (t.size : Int) - (k : Int) := by omega
 go_wp2_with fail
 all_goals first | (exfalso; omega) | skip
 refine (MK _).mono ?_
 rintro o w6 ⟨rfl, b6⟩
 have F6 : Hid (Bk w6 w.heap.size [.string ⟨#[]⟩, .int .i64 0, .bool false] ∧ Below w.heap.size w w6) := ⟨F2.out.1.step b6, F2.out.2.trans (b6.mono F2.out.2.size)⟩
 clear b6 MK F2
 have l6 := F6.out.1.lt
 have a0 := F6.out.1.cell 0 _ rfl
 have a1 := F6.out.1.cell 1 _ rfl
 have a2 := F6.out.1.cell 2 _ rfl
 have f0 := F6.out.1.fz 0
 have f1 := F6.out.1.fz 1
 have f2 := F6.out.1.fz 2
 go_wp2
 exact bodyPost_ret (v := .agg #[.string s, .int .i64 q, .bool false]) (by simp [results, Tryz.results39, go_sem, World.cell?_setCell_same, World.cell?_setCell_other, *]) rfl ⟨rfl, (((F6.out.2.setCell (Nat.le_refl _) _).setCell (Nat.le_refl _) _).setCell (Nat.le_refl _) _).alloc (by simpa using F6.out.2.size) _⟩
theorem decimal_zero {w : World} {va : Value} (ha : Big.D.NatV w va 0) :
 Calls Tryz.prog 77 #[va] w fun e w' => e = .returned (.string ⟨#[48]⟩) ∧ Below w.heap.size w w' := by
 obtain ⟨ao, n, c, b, o, f, rfl, S, tp, hv⟩ := ha
 obtain rfl : n = 0 := by
  apply Nat.eq_zero_of_not_pos
  intro z
  have q := Big.Top_ge tp z
  have := Nat.pow_pos (n := n - 1) Big.B_pos
  omega
 obtain ⟨i0, hi, hz0, hz1, hz2⟩ := info_parts Big.D.info_u64
 have HS : Hid (c ≤ maxLen) := S.cap
 clear tp hv S
 cases ao
 all_goals
  go_enter Tryz.func77, Tryz.ntmps77
  go_wp2_with fail
  go_loop [3, 4, 5, 6, 7, 8] (fun sv bv _ _ _ _ => sv = .string ⟨#[]⟩ ∧ bv = .slice none 0 0) (fun _ _ _ _ _ _ => 0)
  case atStart => exact ⟨rfl, rfl⟩
  case round =>
   obtain ⟨rfl, rfl⟩ := hrel
   go_wp2
   go_ret
   exact ⟨rfl, Below.refl _ _⟩
theorem rdec_zero {k : Nat} (k0 : 0 < k) (hk : k ≤ 1075) {w : World} {va : Value} (ha : Big.D.NatV w va 0) :
 Calls Tryz.prog 39 #[va, .int .i64 (-(k : Int))] w fun x w' => x = .returned (dcV ⟨#[]⟩ 0 false) ∧ Below w.heap.size w w' := by
 have F0 : Hid (Bk (w.alloc (.cells #[.string ⟨#[]⟩, .int .i64 0, .bool false] 24)) w.heap.size [.string ⟨#[]⟩, .int .i64 0, .bool false] ∧ Below w.heap.size w (w.alloc (.cells #[.string ⟨#[]⟩, .int .i64 0, .bool false] 24)) ∧ Big.D.NatV (w.alloc (.cells #[.string ⟨#[]⟩, .int .i64 0, .bool false] 24)) va 0) := ⟨Bk.new3 w _ _ _ _, (Below.refl _ _).alloc (Nat.le_refl _) _, ha.below ((Below.refl _ _).alloc (Nat.le_refl _) _)⟩
 have PW := fun W => dpow_any 5 k (by decide) (by decide) (by omega) W
 simp only [Int.cast_ofNat_Int] at PW
 have MU : ∀ W v u, Big.D.NatV W v 0 → Big.D.NatV W u (5 ^ k) → Calls Tryz.prog 80 #[v, u] W fun e w' => ∃ v, e = .returned v ∧ Big.D.NatV w' v 0 ∧ Below W.heap.size W w' := fun W v u hv hu => by
  have q := dmul_nat hv hu ((word_fits (Nat.zero_le _)).up (by omega)) ((five_fit hk).up (by omega))
  rw [Nat.zero_mul] at q
  exact q
 have MK : ∀ W, Calls Tryz.prog 79 #[.string ⟨#[48]⟩, .int .i64 (1 - (k : Int)), .bool false] W fun e w' => e = .returned (.tuple #[dcV ⟨#[]⟩ 0 false, .int .i64 0]) ∧ Below W.heap.size W w' := fun W =>
  rmake_zero (t := ⟨#[48]⟩) (by decide) dg_nought (z := 1) rfl (fun i hi => by
   have : i = 0 := by omega
   subst this
   decide) W
 clear ha
 generalize 5 ^ k = F at *
 unfold dcV at *
 have kn : ¬ 0 ≤ -(k : Int) := by omega
 go_enter Tryz.func39, Tryz.ntmps39
 go_wp2_with fail
 all_goals first | (exfalso; omega) | skip
 try rw [Int.neg_neg]
 refine (PW _).mono ?_
 rintro o w0 ⟨v0, rfl, n0, b0⟩
 have F00 : Hid (Bk w0 w.heap.size [.string ⟨#[]⟩, .int .i64 0, .bool false] ∧ Below w.heap.size w w0 ∧ Big.D.NatV w0 va 0 ∧ Big.D.NatV w0 v0 F) := ⟨F0.out.1.step b0, F0.out.2.1.trans (b0.mono F0.out.2.1.size), F0.out.2.2.below b0, n0⟩
 clear b0 n0 PW F0
 go_wp2_with fail
 all_goals first | (exfalso; omega) | skip
 refine (MU _ _ _ F00.out.2.2.1 F00.out.2.2.2).mono ?_
 rintro o w1 ⟨v1, rfl, n1, b1⟩
 have F1 : Hid (Bk w1 w.heap.size [.string ⟨#[]⟩, .int .i64 0, .bool false] ∧ Below w.heap.size w w1 ∧ Big.D.NatV w1 v1 0) := ⟨F00.out.1.step b1, F00.out.2.1.trans (b1.mono F00.out.2.1.size), n1⟩
 clear b1 n1 MU F00
 have DD := decimal_zero F1.out.2.2
 go_wp2_with fail
 all_goals first | (exfalso; omega) | skip
 refine DD.mono ?_
 rintro o w2 ⟨rfl, b2⟩
 have F2 : Hid (Bk w2 w.heap.size [.string ⟨#[]⟩, .int .i64 0, .bool false] ∧ Below w.heap.size w w2) := ⟨F1.out.1.step b2, F1.out.2.1.trans (b2.mono F1.out.2.1.size)⟩
 clear b2 DD F1
 have e1 : (1 : Int) + -(k : Int) = 1 - (k : Int) := by omega
 go_wp2_with fail
 all_goals first | (exfalso; omega) | skip
 refine (MK _).mono ?_
 rintro o w6 ⟨rfl, b6⟩
 have F6 : Hid (Bk w6 w.heap.size [.string ⟨#[]⟩, .int .i64 0, .bool false] ∧ Below w.heap.size w w6) := ⟨F2.out.1.step b6, F2.out.2.trans (b6.mono F2.out.2.size)⟩
 clear b6 MK F2
 have l6 := F6.out.1.lt
 have a0 := F6.out.1.cell 0 _ rfl
 have a1 := F6.out.1.cell 1 _ rfl
 have a2 := F6.out.1.cell 2 _ rfl
 have f0 := F6.out.1.fz 0
 have f1 := F6.out.1.fz 1
 have f2 := F6.out.1.fz 2
 go_wp2
 exact bodyPost_ret (v := .agg #[.string ⟨#[]⟩, .int .i64 0, .bool false]) (by simp [results, Tryz.results39, go_sem, World.cell?_setCell_same, World.cell?_setCell_other, *]) rfl ⟨rfl, (((F6.out.2.setCell (Nat.le_refl _) _).setCell (Nat.le_refl _) _).setCell (Nat.le_refl _) _).alloc (by simpa using F6.out.2.size) _⟩
theorem rdec_any {m : Nat} {e : Int} (hm : m ≤ 18014398509481984) (h1 : -1075 ≤ e) (h2 : e ≤ 971) (h0 : 0 < m ∨ e < 0) {s : ByteArray} {q : Int} (D : Dx s q (fv m e)) {w : World} {va : Value} (ha : Big.D.NatV w va m) :
 Calls Tryz.prog 39 #[va, .int .i64 e] w fun x w' => x = .returned (dcV s q false) ∧ Below w.heap.size w w' := by
 rcases Int.lt_or_le e 0 with c | c
 · obtain ⟨k, rfl⟩ : ∃ k : Nat, e = -(k : Int) := ⟨(-e).toNat, by omega⟩
   by_cases m0 : 0 < m
   · exact rdec_dn ⟨hm, by omega, by omega, Or.inr rfl⟩ (by omega) m0 D ha
   · obtain rfl : m = 0 := by omega
     rw [fv_zero] at D
     obtain ⟨rfl, rfl⟩ := D.uniq dx_nought
     exact rdec_zero (by omega) (by omega) ha
 · obtain ⟨j, rfl⟩ : ∃ j : Nat, e = (j : Int) := ⟨e.toNat, by omega⟩
   exact rdec_up ⟨hm, by omega, by omega, Or.inl rfl⟩ (by omega) D ha
theorem chk_ok {b z : Int} {k : Int} (q1 : k < 3) (HC : ∀ W, Calls Tryz.prog 36 #[.int .u64 b, .int .i64 z] W fun e w' => e = .returned (.int .i64 0) ∧ Below W.heap.size W w') (HO : ∀ W, Calls Tryz.prog 37 #[.int .u64 b, .int .i64 z] W fun e w' => e = .returned (.int .i64 k) ∧ Below W.heap.size W w') (w : World) :
 Calls Tryz.prog 38 #[.int .u64 b, .int .i64 z] w fun x w' => x = .returned (.int .i64 0) ∧ Below w.heap.size w w' := by
 have F0 : Hid (Below w.heap.size w w) := Below.refl _ _
 go_enter Tryz.func38, Tryz.ntmps38
 go_wp2_with fail
 all_goals first | (exfalso; omega) | skip
 refine (HC _).mono ?_
 rintro o1 w1 ⟨rfl, bb⟩
 have F1 : Hid (Below w.heap.size w w1) := (F0.out).trans (bb.mono (F0.out).size)
 clear F0
 clear bb
 go_wp2_with fail
 all_goals first | (exfalso; omega) | skip
 refine (HO _).mono ?_
 rintro o2 w2 ⟨rfl, bb⟩
 have F2 : Hid (Below w.heap.size w w2) := (F1.out).trans (bb.mono (F1.out).size)
 clear F1
 clear bb
 go_wp2
 go_ret
 exact ⟨rfl, F2.out⟩
theorem rex_ok {b z : Int} {m : Nat} {E : Int} {s : ByteArray} {p : Int} (hm : m < 18446744073709551616) (HC : ∀ W, Calls Tryz.prog 38 #[.int .u64 b, .int .i64 z] W fun e w' => e = .returned (.int .i64 0) ∧ Below W.heap.size W w') (HP : ∀ W, Calls Tryz.prog 21 #[.int .u64 b, .int .i64 z] W fun e w' => e = .returned (.tuple #[.int .u64 (m : Int), .int .i64 E]) ∧ Below W.heap.size W w') (HD : ∀ W v, Big.D.NatV W v (m) → Calls Tryz.prog 39 #[v, .int .i64 E] W fun e w' => e = .returned (.agg #[.string s, .int .i64 p, .bool false]) ∧ Below W.heap.size W w') (w : World) :
 Calls Tryz.prog 18 #[.int .u64 b, .int .i64 z] w fun x w' => x = .returned (.tuple #[.agg #[.string s, .int .i64 p, .bool false], .int .i64 0]) ∧ Below w.heap.size w w' := by
 have F0 : Hid (Bk (w.alloc (.cells #[.string ⟨#[]⟩, .int .i64 0, .bool false] 24)) (w.heap.size) [.string ⟨#[]⟩, .int .i64 0, .bool false] ∧ Below w.heap.size w (w.alloc (.cells #[.string ⟨#[]⟩, .int .i64 0, .bool false] 24))) := ⟨Bk.new3 w (.string ⟨#[]⟩) (.int .i64 0) (.bool false) 24, ((Below.refl w.heap.size w)).alloc (Nat.le_refl _) _⟩
 go_enter Tryz.func18, Tryz.ntmps18
 go_upto_region 1 with fail
 generalize (w.alloc (.cells #[.string ⟨#[]⟩, .int .i64 0, .bool false] 24)) = w1 at *
 have SM := fun W => dsmall_word m hm W
 go_wp2_with fail
 all_goals first | (exfalso; omega) | skip
 refine (HC _).mono ?_
 rintro o2 w2 ⟨rfl, bb⟩
 have F1 : Hid (Bk w2 (w.heap.size) [.string ⟨#[]⟩, .int .i64 0, .bool false] ∧ Below w.heap.size w w2) := ⟨(F0.out.1).step bb, (F0.out.2).trans (bb.mono (F0.out.2).size)⟩
 clear F0
 clear bb
 go_wp2_with fail
 all_goals first | (exfalso; omega) | skip
 refine (HP _).mono ?_
 rintro o3 w3 ⟨rfl, bb⟩
 have F2 : Hid (Bk w3 (w.heap.size) [.string ⟨#[]⟩, .int .i64 0, .bool false] ∧ Below w.heap.size w w3) := ⟨(F1.out.1).step bb, (F1.out.2).trans (bb.mono (F1.out.2).size)⟩
 clear F1
 clear bb
 go_wp2_with fail
 all_goals first | (exfalso; omega) | skip
 refine (SM _).mono ?_
 rintro o4 w4 ⟨v1, rfl, nn, bb⟩
 have F3 : Hid (Bk w4 (w.heap.size) [.string ⟨#[]⟩, .int .i64 0, .bool false] ∧ Big.D.NatV w4 v1 (m) ∧ Below w.heap.size w w4) := ⟨(F2.out.1).step bb, nn, (F2.out.2).trans (bb.mono (F2.out.2).size)⟩
 clear F2
 clear bb nn
 go_wp2_with fail
 all_goals first | (exfalso; omega) | skip
 refine (HD _ _ (F3.out.2.1)).mono ?_
 rintro o5 w5 ⟨rfl, bb⟩
 have F4 : Hid (Bk w5 (w.heap.size) [.string ⟨#[]⟩, .int .i64 0, .bool false] ∧ Big.D.NatV w5 v1 (m) ∧ Below w.heap.size w w5) := ⟨(F3.out.1).step bb, (F3.out.2.1).below bb, (F3.out.2.2).trans (bb.mono (F3.out.2.2).size)⟩
 clear F3
 clear bb
 have l1_0 := F4.out.1.lt
 have a1_0_0 := F4.out.1.cell 0 _ rfl
 have f1_0_0 := F4.out.1.fz 0
 have a1_0_1 := F4.out.1.cell 1 _ rfl
 have f1_0_1 := F4.out.1.fz 1
 have a1_0_2 := F4.out.1.cell 2 _ rfl
 have f1_0_2 := F4.out.1.fz 2
 go_wp2
 refine bodyPost_ret (v := .tuple #[.agg #[.string s, .int .i64 p, .bool false], .int .i64 0]) (by simp [results, Tryz.results18, go_sem, World.cell?_setCell_same, World.cell?_setCell_other, *]) rfl ⟨rfl, ?_⟩
 repeat (first | refine Below.setCell ?_ (by first | exact Nat.le_refl _ | (dsimp only; omega)) _ | refine Below.alloc ?_ (by first | exact Nat.le_refl _ | omega | (simp; omega)) _ | refine Below.drew ?_)
 exact F4.out.2.2
end Go.Proofs.YtjagnfddmlkalaaGreatDoor
