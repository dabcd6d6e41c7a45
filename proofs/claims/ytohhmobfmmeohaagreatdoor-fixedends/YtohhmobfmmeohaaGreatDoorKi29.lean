/-
  Holds: VPpO IvR IvQ SoH SoIa SoIb SoJ.
-/
import Derived.Test.YtohhmobfmmeohaaGreatDoorRows
import Derived.Laws.Externs
import Derived.WalkKit
import Derived.WalkSpells
import Derived.WalkLawsBesides
import Derived.Lib.Mul64
import Derived.Stop.Asserts
import Derived.RowKitTokens
import Derived.Lib.Strings
import Derived.Lib.BufferWrite
import Derived.Deep.OwnRows
import Derived.Deep.RegionHeld3
import Derived.BigQuiet
import Derived.Lib.ConvBytes
import Derived.Laws.CopyOwn
import Derived.Lib.TrailingZeros
import Derived.Lib.ItoaNum
import Derived.Deep.LoopGhost
import Derived.Deep.AppendLies
import Derived.Deep.DeepCutAuto
import Derived.Test.YtohhmobfmmeohaaGreatDoorKi26
import Derived.Test.YtohhmobfmmeohaaGreatDoorKi28
set_option maxRecDepth 100000
set_option maxHeartbeats 4000000
namespace Go.Proofs.YtohhmobfmmeohaaGreatDoor
open Go.RowKit
theorem dsmall_word (x : Nat) (hx : x < 18446744073709551616) (w : World) :
 Calls Tryz.prog 41 #[.int .u64 (x : Int)] w fun e w' => ∃ v, e = .returned v ∧ Big.D.NatV w' v x ∧ Below w.heap.size w w' := by
 obtain ⟨a, ha⟩ : ∃ a, a = x % 4294967296 := ⟨_, rfl⟩
 obtain ⟨b, hb⟩ : ∃ b, b = x / 4294967296 := ⟨_, rfl⟩
 have e1 : (x : Int) % 4294967296 = (a : Int) := by omega
 have e2 : (x : Int) / 4294967296 = (b : Int) := by omega
 have l1 : a < 4294967296 := by omega
 have l2 : b < 4294967296 := by omega
 have hx2 : x = a + b * 4294967296 := by omega
 clear ha hb
 have S : Big.D.Sl (w.alloc (.cells #[.int .u64 (a : Int), .int .u64 (b : Int)] 22)) (some ⟨w.heap.size, 0, none⟩) 2 2 w.heap.size 0 (fun i => if i = 0 then a else if i = 1 then b else 0) := by
  refine ⟨Nat.le_refl _, by unfold maxLen; omega, fun _ => rfl, fun _ => by simp, fun i hi => ?_, fun i => ?_⟩
  · rcases (by omega : i = 0 ∨ i = 1) with rfl | rfl <;> simp
  · show (if i = 0 then a else if i = 1 then b else 0) < 4294967296
    split
    · exact l1
    · split
      · exact l2
      · decide
 have T := Big.D.trim_any S
 have hV : Big.V (fun i => if i = 0 then a else if i = 1 then b else 0) 2 = x := by
  rw [Big.V_succ, Big.V_succ, Big.V_zero, show Big.B ^ 0 = 1 from rfl, show Big.B ^ 1 = 4294967296 from rfl]
  simp
  omega
 have N := S.trimmed
 rw [hV] at N
 have HN : Hid _ := N
 clear N S hV hx2
 go_enter Tryz.func41, Tryz.ntmps41
 go_wp2_with fail
 refine T.mono ?_
 rintro e wa ⟨rfl, rfl⟩
 go_wp2
 go_ret
 exact ⟨_, rfl, HN.out, (Below.refl _ _).alloc (Nat.le_refl _) _⟩
theorem word_fits {m : Nat} (hm : m ≤ 18014398509481984) : Fits 2 m := Fits.word (n := 1) (by unfold B; omega)
theorem five_fit {k : Nat} (h : k ≤ 1075) : Fits 200 (5 ^ k) := by
 have a : 5 ^ k ≤ 8 ^ k := Nat.pow_le_pow_left (by omega) k
 rw [show 8 = 2 ^ 3 from rfl, ← Nat.pow_mul] at a
 exact (two_fits (s := 3 * k) (k := 200) (by omega)).le a
theorem rdec_up {m j : Nat} (h : Kj m 0 j) (m0 : 0 < m) {s : ByteArray} {q : Int} (D : Dx s q (fv m (j : Int))) {w : World} {va : Value} (ha : Big.D.NatV w va m) :
 Calls Tryz.prog 40 #[va, .int .i64 (j : Int)] w fun x w' => x = .returned (dcV s q false) ∧ Below w.heap.size w w' := by
 have hj := h.hj
 have ej : m * 2 ^ j = wh m 0 j := by unfold wh; rw [Nat.pow_zero, Nat.mul_one]
 have fW : Fits 400 (wh m 0 j) := by rw [← ej]; exact ((word_fits h.hm).mul (two_fits (s := j) (k := 100) (by omega))).up (by omega)
 have D' : Dx s q (fv m ((j : Int) - ((0 : Nat) : Int))) := by rw [show (j : Int) - ((0 : Nat) : Int) = (j : Int) by omega]; exact D
 have HX : Hid (wh m 0 j ≠ 0 ∧ Fits 400 (wh m 0 j) ∧ ∀ t, Tx (wh m 0 j) t → t.size ≤ 800 ∧ ∀ W, Calls Tryz.prog 58 #[.string t, .int .i64 (t.size : Int), .bool false] W fun e w' => e = .returned (.tuple #[dcV s q false, .int .i64 0]) ∧ Below W.heap.size W w') := by
  refine ⟨Nat.ne_of_gt (wh_pos m0 0 j), fW, fun t T => ?_⟩
  obtain ⟨a, b⟩ := h.lens m0 T
  refine ⟨b, fun W => ?_⟩
  have M := h.rmake m0 D' T W
  rw [show (t.size : Int) - ((0 : Nat) : Int) = (t.size : Int) by omega] at M
  exact M
 have F0 : Hid (Bk (w.alloc (.cells #[.string ⟨#[]⟩, .int .i64 0, .bool false] 24)) w.heap.size [.string ⟨#[]⟩, .int .i64 0, .bool false] ∧ Below w.heap.size w (w.alloc (.cells #[.string ⟨#[]⟩, .int .i64 0, .bool false] 24)) ∧ Big.D.NatV (w.alloc (.cells #[.string ⟨#[]⟩, .int .i64 0, .bool false] 24)) va m) := ⟨Bk.new3 w _ _ _ _, (Below.refl _ _).alloc (Nat.le_refl _) _, ha.below ((Below.refl _ _).alloc (Nat.le_refl _) _)⟩
 have SH : ∀ W v, Big.D.NatV W v m → Calls Tryz.prog 57 #[v, .int .i64 (j : Int)] W fun e w' => ∃ v, e = .returned v ∧ Big.D.NatV w' v (wh m 0 j) ∧ Below W.heap.size W w' := fun W v hv => by
  rw [← ej]
  exact (dshl_new hv ((word_fits h.hm).up (by omega)) j (by omega)).mono fun e w' ⟨x, a, b, c⟩ => ⟨x, a, b.nat, c⟩
 generalize wh m 0 j = X at *
 clear D D' fW ej h m0 ha
 unfold dcV at *
 go_enter Tryz.func40, Tryz.ntmps40
 go_wp2_with fail
 all_goals first | (exfalso; omega) | skip
 refine (SH _ _ F0.out.2.2).mono ?_
 rintro o w1 ⟨v1, rfl, n1, b1⟩
 have F1 : Hid (Bk w1 w.heap.size [.string ⟨#[]⟩, .int .i64 0, .bool false] ∧ Below w.heap.size w w1 ∧ Big.D.NatV w1 v1 X) := ⟨F0.out.1.step b1, F0.out.2.1.trans (b1.mono F0.out.2.1.size), n1⟩
 clear b1 n1 SH F0
 have DD := decimal_ok F1.out.2.2 HX.out.1 HX.out.2.1
 go_wp2_with fail
 all_goals first | (exfalso; omega) | skip
 refine DD.mono ?_
 rintro o w2 ⟨t, rfl, T, b2⟩
 obtain ⟨ts, MK⟩ := HX.out.2.2 t T
 have F2 : Hid (Bk w2 w.heap.size [.string ⟨#[]⟩, .int .i64 0, .bool false] ∧ Below w.heap.size w w2) := ⟨F1.out.1.step b2, F1.out.2.1.trans (b2.mono F1.out.2.1.size)⟩
 clear b2 T DD F1 HX
 go_wp2_with fail
 refine (MK _).mono ?_
 rintro o w6 ⟨rfl, b6⟩
 have F6 : Hid (Bk w6 w.heap.size [.string ⟨#[]⟩, .int .i64 0, .bool false] ∧ Below w.heap.size w w6) := ⟨F2.out.1.step b6, F2.out.2.trans (b6.mono F2.out.2.size)⟩
 clear b6 MK F2
 have l6 := F6.out.1.lt
 have a0 := F6.out.1.cell 0 _ rfl
 have a1 := F6.out.1.cell 1 _ rfl
 have a2 := F6.out.1.cell 2 _ rfl
 have f0 := F6.out.1.fz 0
 have f1 := F6.out.1.fz 1
 have f2 := F6.out.1.fz 2
 go_wp2
 exact bodyPost_ret (v := .agg #[.string s, .int .i64 q, .bool false]) (by simp [results, Tryz.results40, go_sem, World.cell?_setCell_same, World.cell?_setCell_other, *]) rfl ⟨rfl, (((F6.out.2.setCell (Nat.le_refl _) _).setCell (Nat.le_refl _) _).setCell (Nat.le_refl _) _).alloc (by simpa using F6.out.2.size) _⟩
theorem rdec_dn {m k : Nat} (h : Kj m k 0) (k0 : 0 < k) (m0 : 0 < m) {s : ByteArray} {q : Int} (D : Dx s q (fv m (-(k : Int)))) {w : World} {va : Value} (ha : Big.D.NatV w va m) :
 Calls Tryz.prog 40 #[va, .int .i64 (-(k : Int))] w fun x w' => x = .returned (dcV s q false) ∧ Below w.heap.size w w' := by
 have hk := h.hk
 have ej : m * 5 ^ k = wh m k 0 := by unfold wh; rw [Nat.pow_zero, Nat.mul_one]
 have fW : Fits 400 (wh m k 0) := by rw [← ej]; exact ((word_fits h.hm).mul (five_fit h.hk)).up (by omega)
 have D' : Dx s q (fv m (((0 : Nat) : Int) - (k : Int))) := by rw [show ((0 : Nat) : Int) - (k : Int) = -(k : Int) by omega]; exact D
 have HX : Hid (wh m k 0 ≠ 0 ∧ Fits 400 (wh m k 0) ∧ ∀ t, Tx (wh m k 0) t → t.size ≤ 800 ∧ ∀ W, Calls Tryz.prog 58 #[.string t, .int .i64 ((t.size : Int) - (k : Int)), .bool false] W fun e w' => e = .returned (.tuple #[dcV s q false, .int .i64 0]) ∧ Below W.heap.size W w') := by
  refine ⟨Nat.ne_of_gt (wh_pos m0 k 0), fW, fun t T => ?_⟩
  obtain ⟨a, b⟩ := h.lens m0 T
  exact ⟨b, fun W => h.rmake m0 D' T W⟩
 have F0 : Hid (Bk (w.alloc (.cells #[.string ⟨#[]⟩, .int .i64 0, .bool false] 24)) w.heap.size [.string ⟨#[]⟩, .int .i64 0, .bool false] ∧ Below w.heap.size w (w.alloc (.cells #[.string ⟨#[]⟩, .int .i64 0, .bool false] 24)) ∧ Big.D.NatV (w.alloc (.cells #[.string ⟨#[]⟩, .int .i64 0, .bool false] 24)) va m) := ⟨Bk.new3 w _ _ _ _, (Below.refl _ _).alloc (Nat.le_refl _) _, ha.below ((Below.refl _ _).alloc (Nat.le_refl _) _)⟩
 have PW := fun W => dpow_any 5 k (by decide) (by decide) (by omega) W
 simp only [Int.cast_ofNat_Int] at PW
 have MU : ∀ W v u, Big.D.NatV W v m → Big.D.NatV W u (5 ^ k) → Calls Tryz.prog 59 #[v, u] W fun e w' => ∃ v, e = .returned v ∧ Big.D.NatV w' v (wh m k 0) ∧ Below W.heap.size W w' := fun W v u hv hu => by
  rw [← ej]
  exact dmul_nat hv hu ((word_fits h.hm).up (by omega)) ((five_fit h.hk).up (by omega))
 generalize wh m k 0 = X at *
 clear D D' fW ej h m0 ha
 generalize 5 ^ k = F at *
 unfold dcV at *
 have kn : ¬ 0 ≤ -(k : Int) := by omega
 go_enter Tryz.func40, Tryz.ntmps40
 go_wp2_with fail
 all_goals first | (exfalso; omega) | skip
 try rw [Int.neg_neg]
 refine (PW _).mono ?_
 rintro o w0 ⟨v0, rfl, n0, b0⟩
 have F00 : Hid (Bk w0 w.heap.size [.string ⟨#[]⟩, .int .i64 0, .bool false] ∧ Below w.heap.size w w0 ∧ Big.D.NatV w0 va m ∧ Big.D.NatV w0 v0 F) := ⟨F0.out.1.step b0, F0.out.2.1.trans (b0.mono F0.out.2.1.size), F0.out.2.2.below b0, n0⟩
 clear b0 n0 PW F0
 go_wp2_with fail
 all_goals first | (exfalso; omega) | skip
 refine (MU _ _ _ F00.out.2.2.1 F00.out.2.2.2).mono ?_
 rintro o w1 ⟨v1, rfl, n1, b1⟩
 have F1 : Hid (Bk w1 w.heap.size [.string ⟨#[]⟩, .int .i64 0, .bool false] ∧ Below w.heap.size w w1 ∧ Big.D.NatV w1 v1 X) := ⟨F00.out.1.step b1, F00.out.2.1.trans (b1.mono F00.out.2.1.size), n1⟩
 clear b1 n1 MU F00
 have DD := decimal_ok F1.out.2.2 HX.out.1 HX.out.2.1
 go_wp2_with fail
 all_goals first | (exfalso; omega) | skip
 refine DD.mono ?_
 rintro o w2 ⟨t, rfl, T, b2⟩
 obtain ⟨ts, MK⟩ := HX.out.2.2 t T
 have F2 : Hid (Bk w2 w.heap.size [.string ⟨#[]⟩, .int .i64 0, .bool false] ∧ Below w.heap.size w w2) := ⟨F1.out.1.step b2, F1.out.2.1.trans (b2.mono F1.out.2.1.size)⟩
 clear b2 T DD F1 HX
 have e1 : (t.size : Int) + -(k : Int) = (t.size : Int) - (k : Int) := by omega
 go_wp2_with fail
 all_goals first | (exfalso; omega) | skip
 refine (MK _).mono ?_
 rintro o w6 ⟨rfl, b6⟩
 have F6 : Hid (Bk w6 w.heap.size [.string ⟨#[]⟩, .int .i64 0, .bool false] ∧ Below w.heap.size w w6) := ⟨F2.out.1.step b6, F2.out.2.trans (b6.mono F2.out.2.size)⟩
 clear b6 MK F2
 have l6 := F6.out.1.lt
 have a0 := F6.out.1.cell 0 _ rfl
 have a1 := F6.out.1.cell 1 _ rfl
 have a2 := F6.out.1.cell 2 _ rfl
 have f0 := F6.out.1.fz 0
 have f1 := F6.out.1.fz 1
 have f2 := F6.out.1.fz 2
 go_wp2
 exact bodyPost_ret (v := .agg #[.string s, .int .i64 q, .bool false]) (by simp [results, Tryz.results40, go_sem, World.cell?_setCell_same, World.cell?_setCell_other, *]) rfl ⟨rfl, (((F6.out.2.setCell (Nat.le_refl _) _).setCell (Nat.le_refl _) _).setCell (Nat.le_refl _) _).alloc (by simpa using F6.out.2.size) _⟩
theorem decimal_zero {w : World} {va : Value} (ha : Big.D.NatV w va 0) :
 Calls Tryz.prog 56 #[va] w fun e w' => e = .returned (.string ⟨#[48]⟩) ∧ Below w.heap.size w w' := by
 obtain ⟨ao, n, c, b, o, f, rfl, S, tp, hv⟩ := ha
 obtain rfl : n = 0 := by
  apply Nat.eq_zero_of_not_pos
  intro z
  have q := Big.Top_ge tp z
  have := Nat.pow_pos (n := n - 1) Big.B_pos
  omega
 obtain ⟨i0, hi, hz0, hz1, hz2⟩ := info_parts Big.D.info_u64
 have HS : Hid (c ≤ maxLen) := S.cap
 clear tp hv S
 cases ao
 all_goals
  go_enter Tryz.func56, Tryz.ntmps56
  go_wp2_with fail
  go_loop [3, 4, 5, 6, 7, 8] (fun sv bv _ _ _ _ => sv = .string ⟨#[]⟩ ∧ bv = .slice none 0 0) (fun _ _ _ _ _ _ => 0)
  case atStart => exact ⟨rfl, rfl⟩
  case round =>
   obtain ⟨rfl, rfl⟩ := hrel
   go_wp2
   go_ret
   exact ⟨rfl, Below.refl _ _⟩
theorem rdec_zero {k : Nat} (k0 : 0 < k) (hk : k ≤ 1075) {w : World} {va : Value} (ha : Big.D.NatV w va 0) :
 Calls Tryz.prog 40 #[va, .int .i64 (-(k : Int))] w fun x w' => x = .returned (dcV ⟨#[]⟩ 0 false) ∧ Below w.heap.size w w' := by
 have F0 : Hid (Bk (w.alloc (.cells #[.string ⟨#[]⟩, .int .i64 0, .bool false] 24)) w.heap.size [.string ⟨#[]⟩, .int .i64 0, .bool false] ∧ Below w.heap.size w (w.alloc (.cells #[.string ⟨#[]⟩, .int .i64 0, .bool false] 24)) ∧ Big.D.NatV (w.alloc (.cells #[.string ⟨#[]⟩, .int .i64 0, .bool false] 24)) va 0) := ⟨Bk.new3 w _ _ _ _, (Below.refl _ _).alloc (Nat.le_refl _) _, ha.below ((Below.refl _ _).alloc (Nat.le_refl _) _)⟩
 have PW := fun W => dpow_any 5 k (by decide) (by decide) (by omega) W
 simp only [Int.cast_ofNat_Int] at PW
 have MU : ∀ W v u, Big.D.NatV W v 0 → Big.D.NatV W u (5 ^ k) → Calls Tryz.prog 59 #[v, u] W fun e w' => ∃ v, e = .returned v ∧ Big.D.NatV w' v 0 ∧ Below W.heap.size W w' := fun W v u hv hu => by
  have q := dmul_nat hv hu ((word_fits (Nat.zero_le _)).up (by omega)) ((five_fit hk).up (by omega))
  rw [Nat.zero_mul] at q
  exact q
 have MK : ∀ W, Calls Tryz.prog 58 #[.string ⟨#[48]⟩, .int .i64 (1 - (k : Int)), .bool false] W fun e w' => e = .returned (.tuple #[dcV ⟨#[]⟩ 0 false, .int .i64 0]) ∧ Below W.heap.size W w' := fun W =>
  rmake_zero (t := ⟨#[48]⟩) (by decide) dg_nought (z := 1) rfl (fun i hi => by
   have : i = 0 := by omega
   subst this
   decide) W
 clear ha
 generalize 5 ^ k = F at *
 unfold dcV at *
 have kn : ¬ 0 ≤ -(k : Int) := by omega
 go_enter Tryz.func40, Tryz.ntmps40
 go_wp2_with fail
 all_goals first | (exfalso; omega) | skip
 try rw [Int.neg_neg]
 refine (PW _).mono ?_
 rintro o w0 ⟨v0, rfl, n0, b0⟩
 have F00 : Hid (Bk w0 w.heap.size [.string ⟨#[]⟩, .int .i64 0, .bool false] ∧ Below w.heap.size w w0 ∧ Big.D.NatV w0 va 0 ∧ Big.D.NatV w0 v0 F) := ⟨F0.out.1.step b0, F0.out.2.1.trans (b0.mono F0.out.2.1.size), F0.out.2.2.below b0, n0⟩
 clear b0 n0 PW F0
 go_wp2_with fail
 all_goals first | (exfalso; omega) | skip
 refine (MU _ _ _ F00.out.2.2.1 F00.out.2.2.2).mono ?_
 rintro o w1 ⟨v1, rfl, n1, b1⟩
 have F1 : Hid (Bk w1 w.heap.size [.string ⟨#[]⟩, .int .i64 0, .bool false] ∧ Below w.heap.size w w1 ∧ Big.D.NatV w1 v1 0) := ⟨F00.out.1.step b1, F00.out.2.1.trans (b1.mono F00.out.2.1.size), n1⟩
 clear b1 n1 MU F00
 have DD := decimal_zero F1.out.2.2
 go_wp2_with fail
 all_goals first | (exfalso; omega) | skip
 refine DD.mono ?_
 rintro o w2 ⟨rfl, b2⟩
 have F2 : Hid (Bk w2 w.heap.size [.string ⟨#[]⟩, .int .i64 0, .bool false] ∧ Below w.heap.size w w2) := ⟨F1.out.1.step b2, F1.out.2.1.trans (b2.mono F1.out.2.1.size)⟩
 clear b2 DD F1
 have e1 : (1 : Int) + -(k : Int) = 1 - (k : Int) := by omega
 go_wp2_with fail
 all_goals first | (exfalso; omega) | skip
 refine (MK _).mono ?_
 rintro o w6 ⟨rfl, b6⟩
 have F6 : Hid (Bk w6 w.heap.size [.string ⟨#[]⟩, .int .i64 0, .bool false] ∧ Below w.heap.size w w6) := ⟨F2.out.1.step b6, F2.out.2.trans (b6.mono F2.out.2.size)⟩
 clear b6 MK F2
 have l6 := F6.out.1.lt
 have a0 := F6.out.1.cell 0 _ rfl
 have a1 := F6.out.1.cell 1 _ rfl
 have a2 := F6.out.1.cell 2 _ rfl
 have f0 := F6.out.1.fz 0
 have f1 := F6.out.1.fz 1
 have f2 := F6.out.1.fz 2
 go_wp2
 exact bodyPost_ret (v := .agg #[.string ⟨#[]⟩, .int .i64 0, .bool false]) (by simp [results, Tryz.results40, go_sem, World.cell?_setCell_same, World.cell?_setCell_other, *]) rfl ⟨rfl, (((F6.out.2.setCell (Nat.le_refl _) _).setCell (Nat.le_refl _) _).setCell (Nat.le_refl _) _).alloc (by simpa using F6.out.2.size) _⟩
theorem rdec_any {m : Nat} {e : Int} (hm : m ≤ 18014398509481984) (h1 : -1075 ≤ e) (h2 : e ≤ 971) (h0 : 0 < m ∨ e < 0) {s : ByteArray} {q : Int} (D : Dx s q (fv m e)) {w : World} {va : Value} (ha : Big.D.NatV w va m) :
 Calls Tryz.prog 40 #[va, .int .i64 e] w fun x w' => x = .returned (dcV s q false) ∧ Below w.heap.size w w' := by
 rcases Int.lt_or_le e 0 with c | c
 · obtain ⟨k, rfl⟩ : ∃ k : Nat, e = -(k : Int) := ⟨(-e).toNat, by omega⟩
   by_cases m0 : 0 < m
   · exact rdec_dn ⟨hm, by omega, by omega, Or.inr rfl⟩ (by omega) m0 D ha
   · obtain rfl : m = 0 := by omega
     rw [fv_zero] at D
     obtain ⟨rfl, rfl⟩ := D.uniq dx_nought
     exact rdec_zero (by omega) (by omega) ha
 · obtain ⟨j, rfl⟩ : ∃ j : Nat, e = (j : Int) := ⟨e.toNat, by omega⟩
   exact rdec_up ⟨hm, by omega, by omega, Or.inl rfl⟩ (by omega) D ha
theorem chk_err {b z : Int} {n : Int} (q1 : (n == 0) = false) (HC : ∀ W, Calls Tryz.prog 52 #[.int .u64 b, .int .i64 z] W fun e w' => e = .returned (.int .i64 n) ∧ Below W.heap.size W w') (w : World) :
 Calls Tryz.prog 38 #[.int .u64 b, .int .i64 z] w fun x w' => x = .returned (.int .i64 n) ∧ Below w.heap.size w w' := by
 have F0 : Hid (Below w.heap.size w w) := Below.refl _ _
 go_enter Tryz.func38, Tryz.ntmps38
 go_wp2_with fail
 all_goals first | (exfalso; omega) | skip
 refine (HC _).mono ?_
 rintro o1 w1 ⟨rfl, bb⟩
 have F1 : Hid (Below w.heap.size w w1) := (F0.out).trans (bb.mono (F0.out).size)
 clear F0
 clear bb
 go_wp2
 go_ret
 exact ⟨rfl, F1.out⟩
theorem chk_not {b z : Int} {k : Int} (q1 : 3 ≤ k) (HC : ∀ W, Calls Tryz.prog 52 #[.int .u64 b, .int .i64 z] W fun e w' => e = .returned (.int .i64 0) ∧ Below W.heap.size W w') (HO : ∀ W, Calls Tryz.prog 53 #[.int .u64 b, .int .i64 z] W fun e w' => e = .returned (.int .i64 k) ∧ Below W.heap.size W w') (w : World) :
 Calls Tryz.prog 38 #[.int .u64 b, .int .i64 z] w fun x w' => x = .returned (.int .i64 1) ∧ Below w.heap.size w w' := by
 have F0 : Hid (Below w.heap.size w w) := Below.refl _ _
 go_enter Tryz.func38, Tryz.ntmps38
 go_wp2_with fail
 all_goals first | (exfalso; omega) | skip
 refine (HC _).mono ?_
 rintro o1 w1 ⟨rfl, bb⟩
 have F1 : Hid (Below w.heap.size w w1) := (F0.out).trans (bb.mono (F0.out).size)
 clear F0
 clear bb
 go_wp2_with fail
 all_goals first | (exfalso; omega) | skip
 refine (HO _).mono ?_
 rintro o2 w2 ⟨rfl, bb⟩
 have F2 : Hid (Below w.heap.size w w2) := (F1.out).trans (bb.mono (F1.out).size)
 clear F1
 clear bb
 go_wp2
 go_ret
 exact ⟨rfl, F2.out⟩
theorem chk_ok {b z : Int} {k : Int} (q1 : k < 3) (HC : ∀ W, Calls Tryz.prog 52 #[.int .u64 b, .int .i64 z] W fun e w' => e = .returned (.int .i64 0) ∧ Below W.heap.size W w') (HO : ∀ W, Calls Tryz.prog 53 #[.int .u64 b, .int .i64 z] W fun e w' => e = .returned (.int .i64 k) ∧ Below W.heap.size W w') (w : World) :
 Calls Tryz.prog 38 #[.int .u64 b, .int .i64 z] w fun x w' => x = .returned (.int .i64 0) ∧ Below w.heap.size w w' := by
 have F0 : Hid (Below w.heap.size w w) := Below.refl _ _
 go_enter Tryz.func38, Tryz.ntmps38
 go_wp2_with fail
 all_goals first | (exfalso; omega) | skip
 refine (HC _).mono ?_
 rintro o1 w1 ⟨rfl, bb⟩
 have F1 : Hid (Below w.heap.size w w1) := (F0.out).trans (bb.mono (F0.out).size)
 clear F0
 clear bb
 go_wp2_with fail
 all_goals first | (exfalso; omega) | skip
 refine (HO _).mono ?_
 rintro o2 w2 ⟨rfl, bb⟩
 have F2 : Hid (Below w.heap.size w w2) := (F1.out).trans (bb.mono (F1.out).size)
 clear F1
 clear bb
 go_wp2
 go_ret
 exact ⟨rfl, F2.out⟩
theorem rex_err {b z : Int} {n : Int} (q1 : (n == 0) = false) (HC : ∀ W, Calls Tryz.prog 38 #[.int .u64 b, .int .i64 z] W fun e w' => e = .returned (.int .i64 n) ∧ Below W.heap.size W w') (w : World) :
 Calls Tryz.prog 27 #[.int .u64 b, .int .i64 z] w fun x w' => x = .returned (.tuple #[.agg #[.string ⟨#[]⟩, .int .i64 0, .bool false], .int .i64 n]) ∧ Below w.heap.size w w' := by
 have F0 : Hid (Bk (w.alloc (.cells #[.string ⟨#[]⟩, .int .i64 0, .bool false] 24)) (w.heap.size) [.string ⟨#[]⟩, .int .i64 0, .bool false] ∧ Below w.heap.size w (w.alloc (.cells #[.string ⟨#[]⟩, .int .i64 0, .bool false] 24))) := ⟨Bk.new3 w (.string ⟨#[]⟩) (.int .i64 0) (.bool false) 24, ((Below.refl w.heap.size w)).alloc (Nat.le_refl _) _⟩
 go_enter Tryz.func27, Tryz.ntmps27
 go_upto_region 1 with fail
 generalize (w.alloc (.cells #[.string ⟨#[]⟩, .int .i64 0, .bool false] 24)) = w1 at *
 go_wp2_with fail
 all_goals first | (exfalso; omega) | skip
 refine (HC _).mono ?_
 rintro o2 w2 ⟨rfl, bb⟩
 have F1 : Hid (Bk w2 (w.heap.size) [.string ⟨#[]⟩, .int .i64 0, .bool false] ∧ Below w.heap.size w w2) := ⟨(F0.out.1).step bb, (F0.out.2).trans (bb.mono (F0.out.2).size)⟩
 clear F0
 clear bb
 have l1_0 := F1.out.1.lt
 have a1_0_0 := F1.out.1.cell 0 _ rfl
 have f1_0_0 := F1.out.1.fz 0
 have a1_0_1 := F1.out.1.cell 1 _ rfl
 have f1_0_1 := F1.out.1.fz 1
 have a1_0_2 := F1.out.1.cell 2 _ rfl
 have f1_0_2 := F1.out.1.fz 2
 go_wp2
 refine bodyPost_ret (v := .tuple #[.agg #[.string ⟨#[]⟩, .int .i64 0, .bool false], .int .i64 n]) (by simp [results, Tryz.results27, go_sem, World.cell?_setCell_same, World.cell?_setCell_other, *]) rfl ⟨rfl, ?_⟩
 repeat (first | refine Below.setCell ?_ (by first | exact Nat.le_refl _ | (dsimp only; omega)) _ | refine Below.alloc ?_ (by first | exact Nat.le_refl _ | omega | (simp; omega)) _ | refine Below.drew ?_)
 exact F1.out.2
theorem rex_ok {b z : Int} {m : Nat} {E : Int} {s : ByteArray} {p : Int} (hm : m < 18446744073709551616) (HC : ∀ W, Calls Tryz.prog 38 #[.int .u64 b, .int .i64 z] W fun e w' => e = .returned (.int .i64 0) ∧ Below W.heap.size W w') (HP : ∀ W, Calls Tryz.prog 39 #[.int .u64 b, .int .i64 z] W fun e w' => e = .returned (.tuple #[.int .u64 (m : Int), .int .i64 E]) ∧ Below W.heap.size W w') (HD : ∀ W v, Big.D.NatV W v (m) → Calls Tryz.prog 40 #[v, .int .i64 E] W fun e w' => e = .returned (.agg #[.string s, .int .i64 p, .bool false]) ∧ Below W.heap.size W w') (w : World) :
 Calls Tryz.prog 27 #[.int .u64 b, .int .i64 z] w fun x w' => x = .returned (.tuple #[.agg #[.string s, .int .i64 p, .bool false], .int .i64 0]) ∧ Below w.heap.size w w' := by
 have F0 : Hid (Bk (w.alloc (.cells #[.string ⟨#[]⟩, .int .i64 0, .bool false] 24)) (w.heap.size) [.string ⟨#[]⟩, .int .i64 0, .bool false] ∧ Below w.heap.size w (w.alloc (.cells #[.string ⟨#[]⟩, .int .i64 0, .bool false] 24))) := ⟨Bk.new3 w (.string ⟨#[]⟩) (.int .i64 0) (.bool false) 24, ((Below.refl w.heap.size w)).alloc (Nat.le_refl _) _⟩
 go_enter Tryz.func27, Tryz.ntmps27
 go_upto_region 1 with fail
 generalize (w.alloc (.cells #[.string ⟨#[]⟩, .int .i64 0, .bool false] 24)) = w1 at *
 have SM := fun W => dsmall_word m hm W
 go_wp2_with fail
 all_goals first | (exfalso; omega) | skip
 refine (HC _).mono ?_
 rintro o2 w2 ⟨rfl, bb⟩
 have F1 : Hid (Bk w2 (w.heap.size) [.string ⟨#[]⟩, .int .i64 0, .bool false] ∧ Below w.heap.size w w2) := ⟨(F0.out.1).step bb, (F0.out.2).trans (bb.mono (F0.out.2).size)⟩
 clear F0
 clear bb
 go_wp2_with fail
 all_goals first | (exfalso; omega) | skip
 refine (HP _).mono ?_
 rintro o3 w3 ⟨rfl, bb⟩
 have F2 : Hid (Bk w3 (w.heap.size) [.string ⟨#[]⟩, .int .i64 0, .bool false] ∧ Below w.heap.size w w3) := ⟨(F1.out.1).step bb, (F1.out.2).trans (bb.mono (F1.out.2).size)⟩
 clear F1
 clear bb
 go_wp2_with fail
 all_goals first | (exfalso; omega) | skip
 refine (SM _).mono ?_
 rintro o4 w4 ⟨v1, rfl, nn, bb⟩
 have F3 : Hid (Bk w4 (w.heap.size) [.string ⟨#[]⟩, .int .i64 0, .bool false] ∧ Big.D.NatV w4 v1 (m) ∧ Below w.heap.size w w4) := ⟨(F2.out.1).step bb, nn, (F2.out.2).trans (bb.mono (F2.out.2).size)⟩
 clear F2
 clear bb nn
 go_wp2_with fail
 all_goals first | (exfalso; omega) | skip
 refine (HD _ _ (F3.out.2.1)).mono ?_
 rintro o5 w5 ⟨rfl, bb⟩
 have F4 : Hid (Bk w5 (w.heap.size) [.string ⟨#[]⟩, .int .i64 0, .bool false] ∧ Big.D.NatV w5 v1 (m) ∧ Below w.heap.size w w5) := ⟨(F3.out.1).step bb, (F3.out.2.1).below bb, (F3.out.2.2).trans (bb.mono (F3.out.2.2).size)⟩
 clear F3
 clear bb
 have l1_0 := F4.out.1.lt
 have a1_0_0 := F4.out.1.cell 0 _ rfl
 have f1_0_0 := F4.out.1.fz 0
 have a1_0_1 := F4.out.1.cell 1 _ rfl
 have f1_0_1 := F4.out.1.fz 1
 have a1_0_2 := F4.out.1.cell 2 _ rfl
 have f1_0_2 := F4.out.1.fz 2
 go_wp2
 refine bodyPost_ret (v := .tuple #[.agg #[.string s, .int .i64 p, .bool false], .int .i64 0]) (by simp [results, Tryz.results27, go_sem, World.cell?_setCell_same, World.cell?_setCell_other, *]) rfl ⟨rfl, ?_⟩
 repeat (first | refine Below.setCell ?_ (by first | exact Nat.le_refl _ | (dsimp only; omega)) _ | refine Below.alloc ?_ (by first | exact Nat.le_refl _ | omega | (simp; omega)) _ | refine Below.drew ?_)
 exact F4.out.2.2
theorem rat_in {u : ByteArray} {o : Int} {i : Nat} (h : i < u.size) (w : World) :
 Calls Tryz.prog 48 #[.agg #[.string u, .int .i64 o, .bool false], .int .i64 (i : Int)] w fun x w' => x = .returned (.int .u8 (dgt u i : Int)) ∧ Below w.heap.size w w' := by
 rw [dgt_lt h]
 have i0 : ((i : Int)).toNat = i := by omega
 have i1 : ¬ (u.size : Int) ≤ (i : Int) := by omega
 have F0 : Hid (Bk (w.alloc (.cells #[.string u, .int .i64 o, .bool false] 24)) (w.heap.size) [.string u, .int .i64 o, .bool false] ∧ Below w.heap.size w (w.alloc (.cells #[.string u, .int .i64 o, .bool false] 24))) := ⟨Bk.new3 w (.string u) (.int .i64 o) (.bool false) 24, ((Below.refl w.heap.size w)).alloc (Nat.le_refl _) _⟩
 go_enter Tryz.func48, Tryz.ntmps48
 go_upto_region 1 with fail
 generalize (w.alloc (.cells #[.string u, .int .i64 o, .bool false] 24)) = w1 at *
 have l1_0 := F0.out.1.lt
 have a1_0_0 := F0.out.1.cell 0 _ rfl
 have f1_0_0 := F0.out.1.fz 0
 have a1_0_1 := F0.out.1.cell 1 _ rfl
 have f1_0_1 := F0.out.1.fz 1
 have a1_0_2 := F0.out.1.cell 2 _ rfl
 have f1_0_2 := F0.out.1.fz 2
 go_wp2
 go_ret
 exact ⟨rfl, F0.out.2⟩
theorem rat_out {u : ByteArray} {o : Int} {i : Nat} (h : u.size ≤ i) (w : World) :
 Calls Tryz.prog 48 #[.agg #[.string u, .int .i64 o, .bool false], .int .i64 (i : Int)] w fun x w' => x = .returned (.int .u8 (dgt u i : Int)) ∧ Below w.heap.size w w' := by
 rw [dgt_ge h]
 have i1 : (u.size : Int) ≤ (i : Int) := by omega
 have F0 : Hid (Bk (w.alloc (.cells #[.string u, .int .i64 o, .bool false] 24)) (w.heap.size) [.string u, .int .i64 o, .bool false] ∧ Below w.heap.size w (w.alloc (.cells #[.string u, .int .i64 o, .bool false] 24))) := ⟨Bk.new3 w (.string u) (.int .i64 o) (.bool false) 24, ((Below.refl w.heap.size w)).alloc (Nat.le_refl _) _⟩
 go_enter Tryz.func48, Tryz.ntmps48
 go_upto_region 1 with fail
 generalize (w.alloc (.cells #[.string u, .int .i64 o, .bool false] 24)) = w1 at *
 have l1_0 := F0.out.1.lt
 have a1_0_0 := F0.out.1.cell 0 _ rfl
 have f1_0_0 := F0.out.1.fz 0
 have a1_0_1 := F0.out.1.cell 1 _ rfl
 have f1_0_1 := F0.out.1.fz 1
 have a1_0_2 := F0.out.1.cell 2 _ rfl
 have f1_0_2 := F0.out.1.fz 2
 go_wp2
 go_ret
 exact ⟨rfl, F0.out.2⟩
theorem rat_any {u : ByteArray} {o : Int} (i : Nat) (w : World) :
 Calls Tryz.prog 48 #[.agg #[.string u, .int .i64 o, .bool false], .int .i64 (i : Int)] w fun x w' => x = .returned (.int .u8 (dgt u i : Int)) ∧ Below w.heap.size w w' := by
 rcases Nat.lt_or_ge i u.size with h | h
 · exact rat_in h w
 · exact rat_out h w
theorem rhf_gt {u : ByteArray} {o n x : Int} (q0 : ¬ n < 0) (q1 : 53 < x) (HA : ∀ W, Calls Tryz.prog 48 #[.agg #[.string u, .int .i64 o, .bool false], .int .i64 n] W fun e w' => e = .returned (.int .u8 x) ∧ Below W.heap.size W w') (w : World) :
 Calls Tryz.prog 47 #[.agg #[.string u, .int .i64 o, .bool false], .int .i64 n] w fun x w' => x = .returned (.int .i64 1) ∧ Below w.heap.size w w' := by
 have F0 : Hid (Bk (w.alloc (.cells #[.string u, .int .i64 o, .bool false] 24)) (w.heap.size) [.string u, .int .i64 o, .bool false] ∧ Below w.heap.size w (w.alloc (.cells #[.string u, .int .i64 o, .bool false] 24))) := ⟨Bk.new3 w (.string u) (.int .i64 o) (.bool false) 24, ((Below.refl w.heap.size w)).alloc (Nat.le_refl _) _⟩
 go_enter Tryz.func47, Tryz.ntmps47
 go_upto_region 1 with fail
 generalize (w.alloc (.cells #[.string u, .int .i64 o, .bool false] 24)) = w1 at *
 have l1_0 := F0.out.1.lt
 have a1_0_0 := F0.out.1.cell 0 _ rfl
 have f1_0_0 := F0.out.1.fz 0
 have a1_0_1 := F0.out.1.cell 1 _ rfl
 have f1_0_1 := F0.out.1.fz 1
 have a1_0_2 := F0.out.1.cell 2 _ rfl
 have f1_0_2 := F0.out.1.fz 2
 go_wp2_with fail
 all_goals first | (exfalso; omega) | skip
 refine (HA _).mono ?_
 rintro o2 w2 ⟨rfl, bb⟩
 have F1 : Hid (Bk w2 (w.heap.size) [.string u, .int .i64 o, .bool false] ∧ Below w.heap.size w w2) := ⟨(F0.out.1).step bb, (F0.out.2).trans (bb.mono (F0.out.2).size)⟩
 clear F0
 clear bb
 clear l1_0 a1_0_0 f1_0_0 a1_0_1 f1_0_1 a1_0_2 f1_0_2
 have l2_0 := F1.out.1.lt
 have a2_0_0 := F1.out.1.cell 0 _ rfl
 have f2_0_0 := F1.out.1.fz 0
 have a2_0_1 := F1.out.1.cell 1 _ rfl
 have f2_0_1 := F1.out.1.fz 1
 have a2_0_2 := F1.out.1.cell 2 _ rfl
 have f2_0_2 := F1.out.1.fz 2
 go_wp2
 go_ret
 exact ⟨rfl, F1.out.2⟩
theorem rhf_lt {u : ByteArray} {o n x : Int} (q0 : ¬ n < 0) (q1 : x < 53) (HA : ∀ W, Calls Tryz.prog 48 #[.agg #[.string u, .int .i64 o, .bool false], .int .i64 n] W fun e w' => e = .returned (.int .u8 x) ∧ Below W.heap.size W w') (w : World) :
 Calls Tryz.prog 47 #[.agg #[.string u, .int .i64 o, .bool false], .int .i64 n] w fun x w' => x = .returned (.int .i64 (-1)) ∧ Below w.heap.size w w' := by
 have F0 : Hid (Bk (w.alloc (.cells #[.string u, .int .i64 o, .bool false] 24)) (w.heap.size) [.string u, .int .i64 o, .bool false] ∧ Below w.heap.size w (w.alloc (.cells #[.string u, .int .i64 o, .bool false] 24))) := ⟨Bk.new3 w (.string u) (.int .i64 o) (.bool false) 24, ((Below.refl w.heap.size w)).alloc (Nat.le_refl _) _⟩
 go_enter Tryz.func47, Tryz.ntmps47
 go_upto_region 1 with fail
 generalize (w.alloc (.cells #[.string u, .int .i64 o, .bool false] 24)) = w1 at *
 have l1_0 := F0.out.1.lt
 have a1_0_0 := F0.out.1.cell 0 _ rfl
 have f1_0_0 := F0.out.1.fz 0
 have a1_0_1 := F0.out.1.cell 1 _ rfl
 have f1_0_1 := F0.out.1.fz 1
 have a1_0_2 := F0.out.1.cell 2 _ rfl
 have f1_0_2 := F0.out.1.fz 2
 go_wp2_with fail
 all_goals first | (exfalso; omega) | skip
 refine (HA _).mono ?_
 rintro o2 w2 ⟨rfl, bb⟩
 have F1 : Hid (Bk w2 (w.heap.size) [.string u, .int .i64 o, .bool false] ∧ Below w.heap.size w w2) := ⟨(F0.out.1).step bb, (F0.out.2).trans (bb.mono (F0.out.2).size)⟩
 clear F0
 clear bb
 clear l1_0 a1_0_0 f1_0_0 a1_0_1 f1_0_1 a1_0_2 f1_0_2
 have l2_0 := F1.out.1.lt
 have a2_0_0 := F1.out.1.cell 0 _ rfl
 have f2_0_0 := F1.out.1.fz 0
 have a2_0_1 := F1.out.1.cell 1 _ rfl
 have f2_0_1 := F1.out.1.fz 1
 have a2_0_2 := F1.out.1.cell 2 _ rfl
 have f2_0_2 := F1.out.1.fz 2
 go_wp2
 go_ret
 exact ⟨rfl, F1.out.2⟩
theorem rhf_more {u : ByteArray} {o n x : Int} (q0 : ¬ n < 0) (n8 : n ≤ 1000000) (q1 : x = 53) (q2 : n + 1 < (u.size : Int)) (HA : ∀ W, Calls Tryz.prog 48 #[.agg #[.string u, .int .i64 o, .bool false], .int .i64 n] W fun e w' => e = .returned (.int .u8 x) ∧ Below W.heap.size W w') (w : World) :
 Calls Tryz.prog 47 #[.agg #[.string u, .int .i64 o, .bool false], .int .i64 n] w fun x w' => x = .returned (.int .i64 1) ∧ Below w.heap.size w w' := by
 subst q1
 have F0 : Hid (Bk (w.alloc (.cells #[.string u, .int .i64 o, .bool false] 24)) (w.heap.size) [.string u, .int .i64 o, .bool false] ∧ Below w.heap.size w (w.alloc (.cells #[.string u, .int .i64 o, .bool false] 24))) := ⟨Bk.new3 w (.string u) (.int .i64 o) (.bool false) 24, ((Below.refl w.heap.size w)).alloc (Nat.le_refl _) _⟩
 go_enter Tryz.func47, Tryz.ntmps47
 go_upto_region 1 with fail
 generalize (w.alloc (.cells #[.string u, .int .i64 o, .bool false] 24)) = w1 at *
 have l1_0 := F0.out.1.lt
 have a1_0_0 := F0.out.1.cell 0 _ rfl
 have f1_0_0 := F0.out.1.fz 0
 have a1_0_1 := F0.out.1.cell 1 _ rfl
 have f1_0_1 := F0.out.1.fz 1
 have a1_0_2 := F0.out.1.cell 2 _ rfl
 have f1_0_2 := F0.out.1.fz 2
 go_wp2_with fail
 all_goals first | (exfalso; omega) | skip
 refine (HA _).mono ?_
 rintro o2 w2 ⟨rfl, bb⟩
 have F1 : Hid (Bk w2 (w.heap.size) [.string u, .int .i64 o, .bool false] ∧ Below w.heap.size w w2) := ⟨(F0.out.1).step bb, (F0.out.2).trans (bb.mono (F0.out.2).size)⟩
 clear F0
 clear bb
 clear l1_0 a1_0_0 f1_0_0 a1_0_1 f1_0_1 a1_0_2 f1_0_2
 have l2_0 := F1.out.1.lt
 have a2_0_0 := F1.out.1.cell 0 _ rfl
 have f2_0_0 := F1.out.1.fz 0
 have a2_0_1 := F1.out.1.cell 1 _ rfl
 have f2_0_1 := F1.out.1.fz 1
 have a2_0_2 := F1.out.1.cell 2 _ rfl
 have f2_0_2 := F1.out.1.fz 2
 go_wp2
 go_ret
 exact ⟨rfl, F1.out.2⟩
theorem rhf_eq {u : ByteArray} {o n x : Int} (q0 : ¬ n < 0) (n8 : n ≤ 1000000) (q1 : x = 53) (q2 : ¬ n + 1 < (u.size : Int)) (HA : ∀ W, Calls Tryz.prog 48 #[.agg #[.string u, .int .i64 o, .bool false], .int .i64 n] W fun e w' => e = .returned (.int .u8 x) ∧ Below W.heap.size W w') (w : World) :
 Calls Tryz.prog 47 #[.agg #[.string u, .int .i64 o, .bool false], .int .i64 n] w fun x w' => x = .returned (.int .i64 0) ∧ Below w.heap.size w w' := by
 subst q1
 have F0 : Hid (Bk (w.alloc (.cells #[.string u, .int .i64 o, .bool false] 24)) (w.heap.size) [.string u, .int .i64 o, .bool false] ∧ Below w.heap.size w (w.alloc (.cells #[.string u, .int .i64 o, .bool false] 24))) := ⟨Bk.new3 w (.string u) (.int .i64 o) (.bool false) 24, ((Below.refl w.heap.size w)).alloc (Nat.le_refl _) _⟩
 go_enter Tryz.func47, Tryz.ntmps47
 go_upto_region 1 with fail
 generalize (w.alloc (.cells #[.string u, .int .i64 o, .bool false] 24)) = w1 at *
 have l1_0 := F0.out.1.lt
 have a1_0_0 := F0.out.1.cell 0 _ rfl
 have f1_0_0 := F0.out.1.fz 0
 have a1_0_1 := F0.out.1.cell 1 _ rfl
 have f1_0_1 := F0.out.1.fz 1
 have a1_0_2 := F0.out.1.cell 2 _ rfl
 have f1_0_2 := F0.out.1.fz 2
 go_wp2_with fail
 all_goals first | (exfalso; omega) | skip
 refine (HA _).mono ?_
 rintro o2 w2 ⟨rfl, bb⟩
 have F1 : Hid (Bk w2 (w.heap.size) [.string u, .int .i64 o, .bool false] ∧ Below w.heap.size w w2) := ⟨(F0.out.1).step bb, (F0.out.2).trans (bb.mono (F0.out.2).size)⟩
 clear F0
 clear bb
 clear l1_0 a1_0_0 f1_0_0 a1_0_1 f1_0_1 a1_0_2 f1_0_2
 have l2_0 := F1.out.1.lt
 have a2_0_0 := F1.out.1.cell 0 _ rfl
 have f2_0_0 := F1.out.1.fz 0
 have a2_0_1 := F1.out.1.cell 1 _ rfl
 have f2_0_1 := F1.out.1.fz 1
 have a2_0_2 := F1.out.1.cell 2 _ rfl
 have f2_0_2 := F1.out.1.fz 2
 go_wp2
 go_ret
 exact ⟨rfl, F1.out.2⟩
theorem rne_up {u d1 e1 : ByteArray} {o d2 e2 n : Int}  (HR : ∀ W, Calls Tryz.prog 46 #[.agg #[.string u, .int .i64 o, .bool false], .int .i64 n] W fun e w' => e = .returned (.tuple #[.agg #[.string d1, .int .i64 d2, .bool false], .agg #[.string e1, .int .i64 e2, .bool false]]) ∧ Below W.heap.size W w') (HH : ∀ W, Calls Tryz.prog 47 #[.agg #[.string u, .int .i64 o, .bool false], .int .i64 n] W fun e w' => e = .returned (.int .i64 1) ∧ Below W.heap.size W w') (w : World) :
 Calls Tryz.prog 31 #[.agg #[.string u, .int .i64 o, .bool false], .int .i64 n] w fun x w' => x = .returned (.agg #[.string e1, .int .i64 e2, .bool false]) ∧ Below w.heap.size w w' := by
 have F0 : Hid (Bk ((w.alloc (.cells #[.string u, .int .i64 o, .bool false] 24)).alloc (.cells #[.string ⟨#[]⟩, .int .i64 0, .bool false] 24)) (w.heap.size) [.string u, .int .i64 o, .bool false] ∧ Bk ((w.alloc (.cells #[.string u, .int .i64 o, .bool false] 24)).alloc (.cells #[.string ⟨#[]⟩, .int .i64 0, .bool false] 24)) (w.heap.size + 1) [.string ⟨#[]⟩, .int .i64 0, .bool false] ∧ Below w.heap.size w ((w.alloc (.cells #[.string u, .int .i64 o, .bool false] 24)).alloc (.cells #[.string ⟨#[]⟩, .int .i64 0, .bool false] 24))) := ⟨(Bk.new3 w (.string u) (.int .i64 o) (.bool false) 24).step ((Below.refl _ _).alloc (Nat.le_refl _) _), ((by have q := Bk.new3 (w.alloc (.cells #[.string u, .int .i64 o, .bool false] 24)) (.string ⟨#[]⟩) (.int .i64 0) (.bool false) 24; simpa using q) : Bk ((w.alloc (.cells #[.string u, .int .i64 o, .bool false] 24)).alloc (.cells #[.string ⟨#[]⟩, .int .i64 0, .bool false] 24)) (w.heap.size + 1) [.string ⟨#[]⟩, .int .i64 0, .bool false]), (((Below.refl w.heap.size w)).alloc (Nat.le_refl _) _).alloc ((((Below.refl w.heap.size w)).alloc (Nat.le_refl _) _).size) _⟩
 go_enter Tryz.func31, Tryz.ntmps31
 go_upto_region 1 with fail
 generalize ((w.alloc (.cells #[.string u, .int .i64 o, .bool false] 24)).alloc (.cells #[.string ⟨#[]⟩, .int .i64 0, .bool false] 24)) = w1 at *
 have l1_0 := F0.out.1.lt
 have a1_0_0 := F0.out.1.cell 0 _ rfl
 have f1_0_0 := F0.out.1.fz 0
 have a1_0_1 := F0.out.1.cell 1 _ rfl
 have f1_0_1 := F0.out.1.fz 1
 have a1_0_2 := F0.out.1.cell 2 _ rfl
 have f1_0_2 := F0.out.1.fz 2
 have l1_1 := F0.out.2.1.lt
 have a1_1_0 := F0.out.2.1.cell 0 _ rfl
 have f1_1_0 := F0.out.2.1.fz 0
 have a1_1_1 := F0.out.2.1.cell 1 _ rfl
 have f1_1_1 := F0.out.2.1.fz 1
 have a1_1_2 := F0.out.2.1.cell 2 _ rfl
 have f1_1_2 := F0.out.2.1.fz 2
 have ne1_0_1 : ¬ w.heap.size = w.heap.size + 1 := by omega
 have ne1_1_0 : ¬ w.heap.size + 1 = w.heap.size := by omega
 go_wp2_with fail
 all_goals first | (exfalso; omega) | skip
 refine (HR _).mono ?_
 rintro o2 w2 ⟨rfl, bb⟩
 have F1 : Hid (Bk w2 (w.heap.size) [.string u, .int .i64 o, .bool false] ∧ Bk w2 (w.heap.size + 1) [.string ⟨#[]⟩, .int .i64 0, .bool false] ∧ Below w.heap.size w w2) := ⟨(F0.out.1).step bb, (F0.out.2.1).step bb, (F0.out.2.2).trans (bb.mono (F0.out.2.2).size)⟩
 clear F0
 clear bb
 clear l1_0 a1_0_0 f1_0_0 a1_0_1 f1_0_1 a1_0_2 f1_0_2 l1_1 a1_1_0 f1_1_0 a1_1_1 f1_1_1 a1_1_2 f1_1_2
 have lt0_2 := (F1.out.1).lt
 have lt1_2 := (F1.out.2.1).lt
 have le2 := (F1.out.2.2).size
 have F2 : Hid (Bk ((w2.alloc (.cells #[.string d1, .int .i64 d2, .bool false] 24)).alloc (.cells #[.string e1, .int .i64 e2, .bool false] 24)) (w.heap.size) [.string u, .int .i64 o, .bool false] ∧ Bk ((w2.alloc (.cells #[.string d1, .int .i64 d2, .bool false] 24)).alloc (.cells #[.string e1, .int .i64 e2, .bool false] 24)) (w.heap.size + 1) [.string ⟨#[]⟩, .int .i64 0, .bool false] ∧ Bk ((w2.alloc (.cells #[.string d1, .int .i64 d2, .bool false] 24)).alloc (.cells #[.string e1, .int .i64 e2, .bool false] 24)) (w2.heap.size) [.string d1, .int .i64 d2, .bool false] ∧ Bk ((w2.alloc (.cells #[.string d1, .int .i64 d2, .bool false] 24)).alloc (.cells #[.string e1, .int .i64 e2, .bool false] 24)) (w2.heap.size + 1) [.string e1, .int .i64 e2, .bool false] ∧ Below w.heap.size w ((w2.alloc (.cells #[.string d1, .int .i64 d2, .bool false] 24)).alloc (.cells #[.string e1, .int .i64 e2, .bool false] 24))) := ⟨((F1.out.1).step ((Below.refl _ _).alloc (Nat.le_refl _) _)).step ((Below.refl _ _).alloc (Nat.le_refl _) _), ((F1.out.2.1).step ((Below.refl _ _).alloc (Nat.le_refl _) _)).step ((Below.refl _ _).alloc (Nat.le_refl _) _), (Bk.new3 w2 (.string d1) (.int .i64 d2) (.bool false) 24).step ((Below.refl _ _).alloc (Nat.le_refl _) _), ((by have q := Bk.new3 (w2.alloc (.cells #[.string d1, .int .i64 d2, .bool false] 24)) (.string e1) (.int .i64 e2) (.bool false) 24; simpa using q) : Bk ((w2.alloc (.cells #[.string d1, .int .i64 d2, .bool false] 24)).alloc (.cells #[.string e1, .int .i64 e2, .bool false] 24)) (w2.heap.size + 1) [.string e1, .int .i64 e2, .bool false]), ((F1.out.2.2).alloc ((F1.out.2.2).size) _).alloc (((F1.out.2.2).alloc ((F1.out.2.2).size) _).size) _⟩
 clear F1
 go_upto_region 2 with fail
 generalize ((w2.alloc (.cells #[.string d1, .int .i64 d2, .bool false] 24)).alloc (.cells #[.string e1, .int .i64 e2, .bool false] 24)) = w3 at *
 have l2_0 := F2.out.1.lt
 have a2_0_0 := F2.out.1.cell 0 _ rfl
 have f2_0_0 := F2.out.1.fz 0
 have a2_0_1 := F2.out.1.cell 1 _ rfl
 have f2_0_1 := F2.out.1.fz 1
 have a2_0_2 := F2.out.1.cell 2 _ rfl
 have f2_0_2 := F2.out.1.fz 2
 have l2_1 := F2.out.2.1.lt
 have a2_1_0 := F2.out.2.1.cell 0 _ rfl
 have f2_1_0 := F2.out.2.1.fz 0
 have a2_1_1 := F2.out.2.1.cell 1 _ rfl
 have f2_1_1 := F2.out.2.1.fz 1
 have a2_1_2 := F2.out.2.1.cell 2 _ rfl
 have f2_1_2 := F2.out.2.1.fz 2
 have l2_2 := F2.out.2.2.1.lt
 have a2_2_0 := F2.out.2.2.1.cell 0 _ rfl
 have f2_2_0 := F2.out.2.2.1.fz 0
 have a2_2_1 := F2.out.2.2.1.cell 1 _ rfl
 have f2_2_1 := F2.out.2.2.1.fz 1
 have a2_2_2 := F2.out.2.2.1.cell 2 _ rfl
 have f2_2_2 := F2.out.2.2.1.fz 2
 have l2_3 := F2.out.2.2.2.1.lt
 have a2_3_0 := F2.out.2.2.2.1.cell 0 _ rfl
 have f2_3_0 := F2.out.2.2.2.1.fz 0
 have a2_3_1 := F2.out.2.2.2.1.cell 1 _ rfl
 have f2_3_1 := F2.out.2.2.2.1.fz 1
 have a2_3_2 := F2.out.2.2.2.1.cell 2 _ rfl
 have f2_3_2 := F2.out.2.2.2.1.fz 2
 have ne2_0_1 : ¬ w.heap.size = w.heap.size + 1 := by omega
 have ne2_0_2 : ¬ w.heap.size = w2.heap.size := by omega
 have ne2_0_3 : ¬ w.heap.size = w2.heap.size + 1 := by omega
 have ne2_1_0 : ¬ w.heap.size + 1 = w.heap.size := by omega
 have ne2_1_2 : ¬ w.heap.size + 1 = w2.heap.size := by omega
 have ne2_1_3 : ¬ w.heap.size + 1 = w2.heap.size + 1 := by omega
 have ne2_2_0 : ¬ w2.heap.size = w.heap.size := by omega
 have ne2_2_1 : ¬ w2.heap.size = w.heap.size + 1 := by omega
 have ne2_2_3 : ¬ w2.heap.size = w2.heap.size + 1 := by omega
 have ne2_3_0 : ¬ w2.heap.size + 1 = w.heap.size := by omega
 have ne2_3_1 : ¬ w2.heap.size + 1 = w.heap.size + 1 := by omega
 have ne2_3_2 : ¬ w2.heap.size + 1 = w2.heap.size := by omega
 go_wp2_with fail
 all_goals first | (exfalso; omega) | skip
 refine (HH _).mono ?_
 rintro o4 w4 ⟨rfl, bb⟩
 have F3 : Hid (Bk w4 (w.heap.size) [.string u, .int .i64 o, .bool false] ∧ Bk w4 (w.heap.size + 1) [.string ⟨#[]⟩, .int .i64 0, .bool false] ∧ Bk w4 (w2.heap.size) [.string d1, .int .i64 d2, .bool false] ∧ Bk w4 (w2.heap.size + 1) [.string e1, .int .i64 e2, .bool false] ∧ Below w.heap.size w w4) := ⟨(F2.out.1).step bb, (F2.out.2.1).step bb, (F2.out.2.2.1).step bb, (F2.out.2.2.2.1).step bb, (F2.out.2.2.2.2).trans (bb.mono (F2.out.2.2.2.2).size)⟩
 clear F2
 clear bb
 clear l2_0 a2_0_0 f2_0_0 a2_0_1 f2_0_1 a2_0_2 f2_0_2 l2_1 a2_1_0 f2_1_0 a2_1_1 f2_1_1 a2_1_2 f2_1_2 l2_2 a2_2_0 f2_2_0 a2_2_1 f2_2_1 a2_2_2 f2_2_2 l2_3 a2_3_0 f2_3_0 a2_3_1 f2_3_1 a2_3_2 f2_3_2
 have l3_0 := F3.out.1.lt
 have a3_0_0 := F3.out.1.cell 0 _ rfl
 have f3_0_0 := F3.out.1.fz 0
 have a3_0_1 := F3.out.1.cell 1 _ rfl
 have f3_0_1 := F3.out.1.fz 1
 have a3_0_2 := F3.out.1.cell 2 _ rfl
 have f3_0_2 := F3.out.1.fz 2
 have l3_1 := F3.out.2.1.lt
 have a3_1_0 := F3.out.2.1.cell 0 _ rfl
 have f3_1_0 := F3.out.2.1.fz 0
 have a3_1_1 := F3.out.2.1.cell 1 _ rfl
 have f3_1_1 := F3.out.2.1.fz 1
 have a3_1_2 := F3.out.2.1.cell 2 _ rfl
 have f3_1_2 := F3.out.2.1.fz 2
 have l3_2 := F3.out.2.2.1.lt
 have a3_2_0 := F3.out.2.2.1.cell 0 _ rfl
 have f3_2_0 := F3.out.2.2.1.fz 0
 have a3_2_1 := F3.out.2.2.1.cell 1 _ rfl
 have f3_2_1 := F3.out.2.2.1.fz 1
 have a3_2_2 := F3.out.2.2.1.cell 2 _ rfl
 have f3_2_2 := F3.out.2.2.1.fz 2
 have l3_3 := F3.out.2.2.2.1.lt
 have a3_3_0 := F3.out.2.2.2.1.cell 0 _ rfl
 have f3_3_0 := F3.out.2.2.2.1.fz 0
 have a3_3_1 := F3.out.2.2.2.1.cell 1 _ rfl
 have f3_3_1 := F3.out.2.2.2.1.fz 1
 have a3_3_2 := F3.out.2.2.2.1.cell 2 _ rfl
 have f3_3_2 := F3.out.2.2.2.1.fz 2
 have ne3_0_1 : ¬ w.heap.size = w.heap.size + 1 := by omega
 have ne3_0_2 : ¬ w.heap.size = w2.heap.size := by omega
 have ne3_0_3 : ¬ w.heap.size = w2.heap.size + 1 := by omega
 have ne3_1_0 : ¬ w.heap.size + 1 = w.heap.size := by omega
 have ne3_1_2 : ¬ w.heap.size + 1 = w2.heap.size := by omega
 have ne3_1_3 : ¬ w.heap.size + 1 = w2.heap.size + 1 := by omega
 have ne3_2_0 : ¬ w2.heap.size = w.heap.size := by omega
 have ne3_2_1 : ¬ w2.heap.size = w.heap.size + 1 := by omega
 have ne3_2_3 : ¬ w2.heap.size = w2.heap.size + 1 := by omega
 have ne3_3_0 : ¬ w2.heap.size + 1 = w.heap.size := by omega
 have ne3_3_1 : ¬ w2.heap.size + 1 = w.heap.size + 1 := by omega
 have ne3_3_2 : ¬ w2.heap.size + 1 = w2.heap.size := by omega
 go_wp2
 refine bodyPost_ret (v := .agg #[.string e1, .int .i64 e2, .bool false]) (by simp [results, Tryz.results31, go_sem, World.cell?_setCell_same, World.cell?_setCell_other, *]) rfl ⟨rfl, ?_⟩
 repeat (first | refine Below.setCell ?_ (by first | exact Nat.le_refl _ | (dsimp only; omega)) _ | refine Below.alloc ?_ (by first | exact Nat.le_refl _ | omega | (simp; omega)) _ | refine Below.drew ?_)
 exact F3.out.2.2.2.2
theorem rne_dn {u d1 e1 : ByteArray} {o d2 e2 n : Int}  (HR : ∀ W, Calls Tryz.prog 46 #[.agg #[.string u, .int .i64 o, .bool false], .int .i64 n] W fun e w' => e = .returned (.tuple #[.agg #[.string d1, .int .i64 d2, .bool false], .agg #[.string e1, .int .i64 e2, .bool false]]) ∧ Below W.heap.size W w') (HH : ∀ W, Calls Tryz.prog 47 #[.agg #[.string u, .int .i64 o, .bool false], .int .i64 n] W fun e w' => e = .returned (.int .i64 (-1)) ∧ Below W.heap.size W w') (w : World) :
 Calls Tryz.prog 31 #[.agg #[.string u, .int .i64 o, .bool false], .int .i64 n] w fun x w' => x = .returned (.agg #[.string d1, .int .i64 d2, .bool false]) ∧ Below w.heap.size w w' := by
 have F0 : Hid (Bk ((w.alloc (.cells #[.string u, .int .i64 o, .bool false] 24)).alloc (.cells #[.string ⟨#[]⟩, .int .i64 0, .bool false] 24)) (w.heap.size) [.string u, .int .i64 o, .bool false] ∧ Bk ((w.alloc (.cells #[.string u, .int .i64 o, .bool false] 24)).alloc (.cells #[.string ⟨#[]⟩, .int .i64 0, .bool false] 24)) (w.heap.size + 1) [.string ⟨#[]⟩, .int .i64 0, .bool false] ∧ Below w.heap.size w ((w.alloc (.cells #[.string u, .int .i64 o, .bool false] 24)).alloc (.cells #[.string ⟨#[]⟩, .int .i64 0, .bool false] 24))) := ⟨(Bk.new3 w (.string u) (.int .i64 o) (.bool false) 24).step ((Below.refl _ _).alloc (Nat.le_refl _) _), ((by have q := Bk.new3 (w.alloc (.cells #[.string u, .int .i64 o, .bool false] 24)) (.string ⟨#[]⟩) (.int .i64 0) (.bool false) 24; simpa using q) : Bk ((w.alloc (.cells #[.string u, .int .i64 o, .bool false] 24)).alloc (.cells #[.string ⟨#[]⟩, .int .i64 0, .bool false] 24)) (w.heap.size + 1) [.string ⟨#[]⟩, .int .i64 0, .bool false]), (((Below.refl w.heap.size w)).alloc (Nat.le_refl _) _).alloc ((((Below.refl w.heap.size w)).alloc (Nat.le_refl _) _).size) _⟩
 go_enter Tryz.func31, Tryz.ntmps31
 go_upto_region 1 with fail
 generalize ((w.alloc (.cells #[.string u, .int .i64 o, .bool false] 24)).alloc (.cells #[.string ⟨#[]⟩, .int .i64 0, .bool false] 24)) = w1 at *
 have l1_0 := F0.out.1.lt
 have a1_0_0 := F0.out.1.cell 0 _ rfl
 have f1_0_0 := F0.out.1.fz 0
 have a1_0_1 := F0.out.1.cell 1 _ rfl
 have f1_0_1 := F0.out.1.fz 1
 have a1_0_2 := F0.out.1.cell 2 _ rfl
 have f1_0_2 := F0.out.1.fz 2
 have l1_1 := F0.out.2.1.lt
 have a1_1_0 := F0.out.2.1.cell 0 _ rfl
 have f1_1_0 := F0.out.2.1.fz 0
 have a1_1_1 := F0.out.2.1.cell 1 _ rfl
 have f1_1_1 := F0.out.2.1.fz 1
 have a1_1_2 := F0.out.2.1.cell 2 _ rfl
 have f1_1_2 := F0.out.2.1.fz 2
 have ne1_0_1 : ¬ w.heap.size = w.heap.size + 1 := by omega
 have ne1_1_0 : ¬ w.heap.size + 1 = w.heap.size := by omega
 go_wp2_with fail
 all_goals first | (exfalso; omega) | skip
 refine (HR _).mono ?_
 rintro o2 w2 ⟨rfl, bb⟩
 have F1 : Hid (Bk w2 (w.heap.size) [.string u, .int .i64 o, .bool false] ∧ Bk w2 (w.heap.size + 1) [.string ⟨#[]⟩, .int .i64 0, .bool false] ∧ Below w.heap.size w w2) := ⟨(F0.out.1).step bb, (F0.out.2.1).step bb, (F0.out.2.2).trans (bb.mono (F0.out.2.2).size)⟩
 clear F0
 clear bb
 clear l1_0 a1_0_0 f1_0_0 a1_0_1 f1_0_1 a1_0_2 f1_0_2 l1_1 a1_1_0 f1_1_0 a1_1_1 f1_1_1 a1_1_2 f1_1_2
 have lt0_2 := (F1.out.1).lt
 have lt1_2 := (F1.out.2.1).lt
 have le2 := (F1.out.2.2).size
 have F2 : Hid (Bk ((w2.alloc (.cells #[.string d1, .int .i64 d2, .bool false] 24)).alloc (.cells #[.string e1, .int .i64 e2, .bool false] 24)) (w.heap.size) [.string u, .int .i64 o, .bool false] ∧ Bk ((w2.alloc (.cells #[.string d1, .int .i64 d2, .bool false] 24)).alloc (.cells #[.string e1, .int .i64 e2, .bool false] 24)) (w.heap.size + 1) [.string ⟨#[]⟩, .int .i64 0, .bool false] ∧ Bk ((w2.alloc (.cells #[.string d1, .int .i64 d2, .bool false] 24)).alloc (.cells #[.string e1, .int .i64 e2, .bool false] 24)) (w2.heap.size) [.string d1, .int .i64 d2, .bool false] ∧ Bk ((w2.alloc (.cells #[.string d1, .int .i64 d2, .bool false] 24)).alloc (.cells #[.string e1, .int .i64 e2, .bool false] 24)) (w2.heap.size + 1) [.string e1, .int .i64 e2, .bool false] ∧ Below w.heap.size w ((w2.alloc (.cells #[.string d1, .int .i64 d2, .bool false] 24)).alloc (.cells #[.string e1, .int .i64 e2, .bool false] 24))) := ⟨((F1.out.1).step ((Below.refl _ _).alloc (Nat.le_refl _) _)).step ((Below.refl _ _).alloc (Nat.le_refl _) _), ((F1.out.2.1).step ((Below.refl _ _).alloc (Nat.le_refl _) _)).step ((Below.refl _ _).alloc (Nat.le_refl _) _), (Bk.new3 w2 (.string d1) (.int .i64 d2) (.bool false) 24).step ((Below.refl _ _).alloc (Nat.le_refl _) _), ((by have q := Bk.new3 (w2.alloc (.cells #[.string d1, .int .i64 d2, .bool false] 24)) (.string e1) (.int .i64 e2) (.bool false) 24; simpa using q) : Bk ((w2.alloc (.cells #[.string d1, .int .i64 d2, .bool false] 24)).alloc (.cells #[.string e1, .int .i64 e2, .bool false] 24)) (w2.heap.size + 1) [.string e1, .int .i64 e2, .bool false]), ((F1.out.2.2).alloc ((F1.out.2.2).size) _).alloc (((F1.out.2.2).alloc ((F1.out.2.2).size) _).size) _⟩
 clear F1
 go_upto_region 2 with fail
 generalize ((w2.alloc (.cells #[.string d1, .int .i64 d2, .bool false] 24)).alloc (.cells #[.string e1, .int .i64 e2, .bool false] 24)) = w3 at *
 have l2_0 := F2.out.1.lt
 have a2_0_0 := F2.out.1.cell 0 _ rfl
 have f2_0_0 := F2.out.1.fz 0
 have a2_0_1 := F2.out.1.cell 1 _ rfl
 have f2_0_1 := F2.out.1.fz 1
 have a2_0_2 := F2.out.1.cell 2 _ rfl
 have f2_0_2 := F2.out.1.fz 2
 have l2_1 := F2.out.2.1.lt
 have a2_1_0 := F2.out.2.1.cell 0 _ rfl
 have f2_1_0 := F2.out.2.1.fz 0
 have a2_1_1 := F2.out.2.1.cell 1 _ rfl
 have f2_1_1 := F2.out.2.1.fz 1
 have a2_1_2 := F2.out.2.1.cell 2 _ rfl
 have f2_1_2 := F2.out.2.1.fz 2
 have l2_2 := F2.out.2.2.1.lt
 have a2_2_0 := F2.out.2.2.1.cell 0 _ rfl
 have f2_2_0 := F2.out.2.2.1.fz 0
 have a2_2_1 := F2.out.2.2.1.cell 1 _ rfl
 have f2_2_1 := F2.out.2.2.1.fz 1
 have a2_2_2 := F2.out.2.2.1.cell 2 _ rfl
 have f2_2_2 := F2.out.2.2.1.fz 2
 have l2_3 := F2.out.2.2.2.1.lt
 have a2_3_0 := F2.out.2.2.2.1.cell 0 _ rfl
 have f2_3_0 := F2.out.2.2.2.1.fz 0
 have a2_3_1 := F2.out.2.2.2.1.cell 1 _ rfl
 have f2_3_1 := F2.out.2.2.2.1.fz 1
 have a2_3_2 := F2.out.2.2.2.1.cell 2 _ rfl
 have f2_3_2 := F2.out.2.2.2.1.fz 2
 have ne2_0_1 : ¬ w.heap.size = w.heap.size + 1 := by omega
 have ne2_0_2 : ¬ w.heap.size = w2.heap.size := by omega
 have ne2_0_3 : ¬ w.heap.size = w2.heap.size + 1 := by omega
 have ne2_1_0 : ¬ w.heap.size + 1 = w.heap.size := by omega
 have ne2_1_2 : ¬ w.heap.size + 1 = w2.heap.size := by omega
 have ne2_1_3 : ¬ w.heap.size + 1 = w2.heap.size + 1 := by omega
 have ne2_2_0 : ¬ w2.heap.size = w.heap.size := by omega
 have ne2_2_1 : ¬ w2.heap.size = w.heap.size + 1 := by omega
 have ne2_2_3 : ¬ w2.heap.size = w2.heap.size + 1 := by omega
 have ne2_3_0 : ¬ w2.heap.size + 1 = w.heap.size := by omega
 have ne2_3_1 : ¬ w2.heap.size + 1 = w.heap.size + 1 := by omega
 have ne2_3_2 : ¬ w2.heap.size + 1 = w2.heap.size := by omega
 go_wp2_with fail
 all_goals first | (exfalso; omega) | skip
 refine (HH _).mono ?_
 rintro o4 w4 ⟨rfl, bb⟩
 have F3 : Hid (Bk w4 (w.heap.size) [.string u, .int .i64 o, .bool false] ∧ Bk w4 (w.heap.size + 1) [.string ⟨#[]⟩, .int .i64 0, .bool false] ∧ Bk w4 (w2.heap.size) [.string d1, .int .i64 d2, .bool false] ∧ Bk w4 (w2.heap.size + 1) [.string e1, .int .i64 e2, .bool false] ∧ Below w.heap.size w w4) := ⟨(F2.out.1).step bb, (F2.out.2.1).step bb, (F2.out.2.2.1).step bb, (F2.out.2.2.2.1).step bb, (F2.out.2.2.2.2).trans (bb.mono (F2.out.2.2.2.2).size)⟩
 clear F2
 clear bb
 clear l2_0 a2_0_0 f2_0_0 a2_0_1 f2_0_1 a2_0_2 f2_0_2 l2_1 a2_1_0 f2_1_0 a2_1_1 f2_1_1 a2_1_2 f2_1_2 l2_2 a2_2_0 f2_2_0 a2_2_1 f2_2_1 a2_2_2 f2_2_2 l2_3 a2_3_0 f2_3_0 a2_3_1 f2_3_1 a2_3_2 f2_3_2
 have l3_0 := F3.out.1.lt
 have a3_0_0 := F3.out.1.cell 0 _ rfl
 have f3_0_0 := F3.out.1.fz 0
 have a3_0_1 := F3.out.1.cell 1 _ rfl
 have f3_0_1 := F3.out.1.fz 1
 have a3_0_2 := F3.out.1.cell 2 _ rfl
 have f3_0_2 := F3.out.1.fz 2
 have l3_1 := F3.out.2.1.lt
 have a3_1_0 := F3.out.2.1.cell 0 _ rfl
 have f3_1_0 := F3.out.2.1.fz 0
 have a3_1_1 := F3.out.2.1.cell 1 _ rfl
 have f3_1_1 := F3.out.2.1.fz 1
 have a3_1_2 := F3.out.2.1.cell 2 _ rfl
 have f3_1_2 := F3.out.2.1.fz 2
 have l3_2 := F3.out.2.2.1.lt
 have a3_2_0 := F3.out.2.2.1.cell 0 _ rfl
 have f3_2_0 := F3.out.2.2.1.fz 0
 have a3_2_1 := F3.out.2.2.1.cell 1 _ rfl
 have f3_2_1 := F3.out.2.2.1.fz 1
 have a3_2_2 := F3.out.2.2.1.cell 2 _ rfl
 have f3_2_2 := F3.out.2.2.1.fz 2
 have l3_3 := F3.out.2.2.2.1.lt
 have a3_3_0 := F3.out.2.2.2.1.cell 0 _ rfl
 have f3_3_0 := F3.out.2.2.2.1.fz 0
 have a3_3_1 := F3.out.2.2.2.1.cell 1 _ rfl
 have f3_3_1 := F3.out.2.2.2.1.fz 1
 have a3_3_2 := F3.out.2.2.2.1.cell 2 _ rfl
 have f3_3_2 := F3.out.2.2.2.1.fz 2
 have ne3_0_1 : ¬ w.heap.size = w.heap.size + 1 := by omega
 have ne3_0_2 : ¬ w.heap.size = w2.heap.size := by omega
 have ne3_0_3 : ¬ w.heap.size = w2.heap.size + 1 := by omega
 have ne3_1_0 : ¬ w.heap.size + 1 = w.heap.size := by omega
 have ne3_1_2 : ¬ w.heap.size + 1 = w2.heap.size := by omega
 have ne3_1_3 : ¬ w.heap.size + 1 = w2.heap.size + 1 := by omega
 have ne3_2_0 : ¬ w2.heap.size = w.heap.size := by omega
 have ne3_2_1 : ¬ w2.heap.size = w.heap.size + 1 := by omega
 have ne3_2_3 : ¬ w2.heap.size = w2.heap.size + 1 := by omega
 have ne3_3_0 : ¬ w2.heap.size + 1 = w.heap.size := by omega
 have ne3_3_1 : ¬ w2.heap.size + 1 = w.heap.size + 1 := by omega
 have ne3_3_2 : ¬ w2.heap.size + 1 = w2.heap.size := by omega
 go_wp2
 refine bodyPost_ret (v := .agg #[.string d1, .int .i64 d2, .bool false]) (by simp [results, Tryz.results31, go_sem, World.cell?_setCell_same, World.cell?_setCell_other, *]) rfl ⟨rfl, ?_⟩
 repeat (first | refine Below.setCell ?_ (by first | exact Nat.le_refl _ | (dsimp only; omega)) _ | refine Below.alloc ?_ (by first | exact Nat.le_refl _ | omega | (simp; omega)) _ | refine Below.drew ?_)
 exact F3.out.2.2.2.2
theorem rne_odd {u d1 e1 : ByteArray} {o d2 e2 n x : Int} (n8 : n ≤ 1000000) (q1 : 0 < n) (q2 : x.tmod 2 = 1) (HR : ∀ W, Calls Tryz.prog 46 #[.agg #[.string u, .int .i64 o, .bool false], .int .i64 n] W fun e w' => e = .returned (.tuple #[.agg #[.string d1, .int .i64 d2, .bool false], .agg #[.string e1, .int .i64 e2, .bool false]]) ∧ Below W.heap.size W w') (HH : ∀ W, Calls Tryz.prog 47 #[.agg #[.string u, .int .i64 o, .bool false], .int .i64 n] W fun e w' => e = .returned (.int .i64 0) ∧ Below W.heap.size W w') (HA : ∀ W, Calls Tryz.prog 48 #[.agg #[.string u, .int .i64 o, .bool false], .int .i64 (n - 1)] W fun e w' => e = .returned (.int .u8 x) ∧ Below W.heap.size W w') (w : World) :
 Calls Tryz.prog 31 #[.agg #[.string u, .int .i64 o, .bool false], .int .i64 n] w fun x w' => x = .returned (.agg #[.string e1, .int .i64 e2, .bool false]) ∧ Below w.heap.size w w' := by
 have F0 : Hid (Bk ((w.alloc (.cells #[.string u, .int .i64 o, .bool false] 24)).alloc (.cells #[.string ⟨#[]⟩, .int .i64 0, .bool false] 24)) (w.heap.size) [.string u, .int .i64 o, .bool false] ∧ Bk ((w.alloc (.cells #[.string u, .int .i64 o, .bool false] 24)).alloc (.cells #[.string ⟨#[]⟩, .int .i64 0, .bool false] 24)) (w.heap.size + 1) [.string ⟨#[]⟩, .int .i64 0, .bool false] ∧ Below w.heap.size w ((w.alloc (.cells #[.string u, .int .i64 o, .bool false] 24)).alloc (.cells #[.string ⟨#[]⟩, .int .i64 0, .bool false] 24))) := ⟨(Bk.new3 w (.string u) (.int .i64 o) (.bool false) 24).step ((Below.refl _ _).alloc (Nat.le_refl _) _), ((by have q := Bk.new3 (w.alloc (.cells #[.string u, .int .i64 o, .bool false] 24)) (.string ⟨#[]⟩) (.int .i64 0) (.bool false) 24; simpa using q) : Bk ((w.alloc (.cells #[.string u, .int .i64 o, .bool false] 24)).alloc (.cells #[.string ⟨#[]⟩, .int .i64 0, .bool false] 24)) (w.heap.size + 1) [.string ⟨#[]⟩, .int .i64 0, .bool false]), (((Below.refl w.heap.size w)).alloc (Nat.le_refl _) _).alloc ((((Below.refl w.heap.size w)).alloc (Nat.le_refl _) _).size) _⟩
 go_enter Tryz.func31, Tryz.ntmps31
 go_upto_region 1 with fail
 generalize ((w.alloc (.cells #[.string u, .int .i64 o, .bool false] 24)).alloc (.cells #[.string ⟨#[]⟩, .int .i64 0, .bool false] 24)) = w1 at *
 have l1_0 := F0.out.1.lt
 have a1_0_0 := F0.out.1.cell 0 _ rfl
 have f1_0_0 := F0.out.1.fz 0
 have a1_0_1 := F0.out.1.cell 1 _ rfl
 have f1_0_1 := F0.out.1.fz 1
 have a1_0_2 := F0.out.1.cell 2 _ rfl
 have f1_0_2 := F0.out.1.fz 2
 have l1_1 := F0.out.2.1.lt
 have a1_1_0 := F0.out.2.1.cell 0 _ rfl
 have f1_1_0 := F0.out.2.1.fz 0
 have a1_1_1 := F0.out.2.1.cell 1 _ rfl
 have f1_1_1 := F0.out.2.1.fz 1
 have a1_1_2 := F0.out.2.1.cell 2 _ rfl
 have f1_1_2 := F0.out.2.1.fz 2
 have ne1_0_1 : ¬ w.heap.size = w.heap.size + 1 := by omega
 have ne1_1_0 : ¬ w.heap.size + 1 = w.heap.size := by omega
 go_wp2_with fail
 all_goals first | (exfalso; omega) | skip
 refine (HR _).mono ?_
 rintro o2 w2 ⟨rfl, bb⟩
 have F1 : Hid (Bk w2 (w.heap.size) [.string u, .int .i64 o, .bool false] ∧ Bk w2 (w.heap.size + 1) [.string ⟨#[]⟩, .int .i64 0, .bool false] ∧ Below w.heap.size w w2) := ⟨(F0.out.1).step bb, (F0.out.2.1).step bb, (F0.out.2.2).trans (bb.mono (F0.out.2.2).size)⟩
 clear F0
 clear bb
 clear l1_0 a1_0_0 f1_0_0 a1_0_1 f1_0_1 a1_0_2 f1_0_2 l1_1 a1_1_0 f1_1_0 a1_1_1 f1_1_1 a1_1_2 f1_1_2
 have lt0_2 := (F1.out.1).lt
 have lt1_2 := (F1.out.2.1).lt
 have le2 := (F1.out.2.2).size
 have F2 : Hid (Bk ((w2.alloc (.cells #[.string d1, .int .i64 d2, .bool false] 24)).alloc (.cells #[.string e1, .int .i64 e2, .bool false] 24)) (w.heap.size) [.string u, .int .i64 o, .bool false] ∧ Bk ((w2.alloc (.cells #[.string d1, .int .i64 d2, .bool false] 24)).alloc (.cells #[.string e1, .int .i64 e2, .bool false] 24)) (w.heap.size + 1) [.string ⟨#[]⟩, .int .i64 0, .bool false] ∧ Bk ((w2.alloc (.cells #[.string d1, .int .i64 d2, .bool false] 24)).alloc (.cells #[.string e1, .int .i64 e2, .bool false] 24)) (w2.heap.size) [.string d1, .int .i64 d2, .bool false] ∧ Bk ((w2.alloc (.cells #[.string d1, .int .i64 d2, .bool false] 24)).alloc (.cells #[.string e1, .int .i64 e2, .bool false] 24)) (w2.heap.size + 1) [.string e1, .int .i64 e2, .bool false] ∧ Below w.heap.size w ((w2.alloc (.cells #[.string d1, .int .i64 d2, .bool false] 24)).alloc (.cells #[.string e1, .int .i64 e2, .bool false] 24))) := ⟨((F1.out.1).step ((Below.refl _ _).alloc (Nat.le_refl _) _)).step ((Below.refl _ _).alloc (Nat.le_refl _) _), ((F1.out.2.1).step ((Below.refl _ _).alloc (Nat.le_refl _) _)).step ((Below.refl _ _).alloc (Nat.le_refl _) _), (Bk.new3 w2 (.string d1) (.int .i64 d2) (.bool false) 24).step ((Below.refl _ _).alloc (Nat.le_refl _) _), ((by have q := Bk.new3 (w2.alloc (.cells #[.string d1, .int .i64 d2, .bool false] 24)) (.string e1) (.int .i64 e2) (.bool false) 24; simpa using q) : Bk ((w2.alloc (.cells #[.string d1, .int .i64 d2, .bool false] 24)).alloc (.cells #[.string e1, .int .i64 e2, .bool false] 24)) (w2.heap.size + 1) [.string e1, .int .i64 e2, .bool false]), ((F1.out.2.2).alloc ((F1.out.2.2).size) _).alloc (((F1.out.2.2).alloc ((F1.out.2.2).size) _).size) _⟩
 clear F1
 go_upto_region 2 with fail
 generalize ((w2.alloc (.cells #[.string d1, .int .i64 d2, .bool false] 24)).alloc (.cells #[.string e1, .int .i64 e2, .bool false] 24)) = w3 at *
 have l2_0 := F2.out.1.lt
 have a2_0_0 := F2.out.1.cell 0 _ rfl
 have f2_0_0 := F2.out.1.fz 0
 have a2_0_1 := F2.out.1.cell 1 _ rfl
 have f2_0_1 := F2.out.1.fz 1
 have a2_0_2 := F2.out.1.cell 2 _ rfl
 have f2_0_2 := F2.out.1.fz 2
 have l2_1 := F2.out.2.1.lt
 have a2_1_0 := F2.out.2.1.cell 0 _ rfl
 have f2_1_0 := F2.out.2.1.fz 0
 have a2_1_1 := F2.out.2.1.cell 1 _ rfl
 have f2_1_1 := F2.out.2.1.fz 1
 have a2_1_2 := F2.out.2.1.cell 2 _ rfl
 have f2_1_2 := F2.out.2.1.fz 2
 have l2_2 := F2.out.2.2.1.lt
 have a2_2_0 := F2.out.2.2.1.cell 0 _ rfl
 have f2_2_0 := F2.out.2.2.1.fz 0
 have a2_2_1 := F2.out.2.2.1.cell 1 _ rfl
 have f2_2_1 := F2.out.2.2.1.fz 1
 have a2_2_2 := F2.out.2.2.1.cell 2 _ rfl
 have f2_2_2 := F2.out.2.2.1.fz 2
 have l2_3 := F2.out.2.2.2.1.lt
 have a2_3_0 := F2.out.2.2.2.1.cell 0 _ rfl
 have f2_3_0 := F2.out.2.2.2.1.fz 0
 have a2_3_1 := F2.out.2.2.2.1.cell 1 _ rfl
 have f2_3_1 := F2.out.2.2.2.1.fz 1
 have a2_3_2 := F2.out.2.2.2.1.cell 2 _ rfl
 have f2_3_2 := F2.out.2.2.2.1.fz 2
 have ne2_0_1 : ¬ w.heap.size = w.heap.size + 1 := by omega
 have ne2_0_2 : ¬ w.heap.size = w2.heap.size := by omega
 have ne2_0_3 : ¬ w.heap.size = w2.heap.size + 1 := by omega
 have ne2_1_0 : ¬ w.heap.size + 1 = w.heap.size := by omega
 have ne2_1_2 : ¬ w.heap.size + 1 = w2.heap.size := by omega
 have ne2_1_3 : ¬ w.heap.size + 1 = w2.heap.size + 1 := by omega
 have ne2_2_0 : ¬ w2.heap.size = w.heap.size := by omega
 have ne2_2_1 : ¬ w2.heap.size = w.heap.size + 1 := by omega
 have ne2_2_3 : ¬ w2.heap.size = w2.heap.size + 1 := by omega
 have ne2_3_0 : ¬ w2.heap.size + 1 = w.heap.size := by omega
 have ne2_3_1 : ¬ w2.heap.size + 1 = w.heap.size + 1 := by omega
 have ne2_3_2 : ¬ w2.heap.size + 1 = w2.heap.size := by omega
 go_wp2_with fail
 all_goals first | (exfalso; omega) | skip
 refine (HH _).mono ?_
 rintro o4 w4 ⟨rfl, bb⟩
 have F3 : Hid (Bk w4 (w.heap.size) [.string u, .int .i64 o, .bool false] ∧ Bk w4 (w.heap.size + 1) [.string ⟨#[]⟩, .int .i64 0, .bool false] ∧ Bk w4 (w2.heap.size) [.string d1, .int .i64 d2, .bool false] ∧ Bk w4 (w2.heap.size + 1) [.string e1, .int .i64 e2, .bool false] ∧ Below w.heap.size w w4) := ⟨(F2.out.1).step bb, (F2.out.2.1).step bb, (F2.out.2.2.1).step bb, (F2.out.2.2.2.1).step bb, (F2.out.2.2.2.2).trans (bb.mono (F2.out.2.2.2.2).size)⟩
 clear F2
 clear bb
 clear l2_0 a2_0_0 f2_0_0 a2_0_1 f2_0_1 a2_0_2 f2_0_2 l2_1 a2_1_0 f2_1_0 a2_1_1 f2_1_1 a2_1_2 f2_1_2 l2_2 a2_2_0 f2_2_0 a2_2_1 f2_2_1 a2_2_2 f2_2_2 l2_3 a2_3_0 f2_3_0 a2_3_1 f2_3_1 a2_3_2 f2_3_2
 have l3_0 := F3.out.1.lt
 have a3_0_0 := F3.out.1.cell 0 _ rfl
 have f3_0_0 := F3.out.1.fz 0
 have a3_0_1 := F3.out.1.cell 1 _ rfl
 have f3_0_1 := F3.out.1.fz 1
 have a3_0_2 := F3.out.1.cell 2 _ rfl
 have f3_0_2 := F3.out.1.fz 2
 have l3_1 := F3.out.2.1.lt
 have a3_1_0 := F3.out.2.1.cell 0 _ rfl
 have f3_1_0 := F3.out.2.1.fz 0
 have a3_1_1 := F3.out.2.1.cell 1 _ rfl
 have f3_1_1 := F3.out.2.1.fz 1
 have a3_1_2 := F3.out.2.1.cell 2 _ rfl
 have f3_1_2 := F3.out.2.1.fz 2
 have l3_2 := F3.out.2.2.1.lt
 have a3_2_0 := F3.out.2.2.1.cell 0 _ rfl
 have f3_2_0 := F3.out.2.2.1.fz 0
 have a3_2_1 := F3.out.2.2.1.cell 1 _ rfl
 have f3_2_1 := F3.out.2.2.1.fz 1
 have a3_2_2 := F3.out.2.2.1.cell 2 _ rfl
 have f3_2_2 := F3.out.2.2.1.fz 2
 have l3_3 := F3.out.2.2.2.1.lt
 have a3_3_0 := F3.out.2.2.2.1.cell 0 _ rfl
 have f3_3_0 := F3.out.2.2.2.1.fz 0
 have a3_3_1 := F3.out.2.2.2.1.cell 1 _ rfl
 have f3_3_1 := F3.out.2.2.2.1.fz 1
 have a3_3_2 := F3.out.2.2.2.1.cell 2 _ rfl
 have f3_3_2 := F3.out.2.2.2.1.fz 2
 have ne3_0_1 : ¬ w.heap.size = w.heap.size + 1 := by omega
 have ne3_0_2 : ¬ w.heap.size = w2.heap.size := by omega
 have ne3_0_3 : ¬ w.heap.size = w2.heap.size + 1 := by omega
 have ne3_1_0 : ¬ w.heap.size + 1 = w.heap.size := by omega
 have ne3_1_2 : ¬ w.heap.size + 1 = w2.heap.size := by omega
 have ne3_1_3 : ¬ w.heap.size + 1 = w2.heap.size + 1 := by omega
 have ne3_2_0 : ¬ w2.heap.size = w.heap.size := by omega
 have ne3_2_1 : ¬ w2.heap.size = w.heap.size + 1 := by omega
 have ne3_2_3 : ¬ w2.heap.size = w2.heap.size + 1 := by omega
 have ne3_3_0 : ¬ w2.heap.size + 1 = w.heap.size := by omega
 have ne3_3_1 : ¬ w2.heap.size + 1 = w.heap.size + 1 := by omega
 have ne3_3_2 : ¬ w2.heap.size + 1 = w2.heap.size := by omega
 go_wp2_with fail
 all_goals first | (exfalso; omega) | skip
 refine (HA _).mono ?_
 rintro o5 w5 ⟨rfl, bb⟩
 have F4 : Hid (Bk w5 (w.heap.size) [.string u, .int .i64 o, .bool false] ∧ Bk w5 (w.heap.size + 1) [.string ⟨#[]⟩, .int .i64 0, .bool false] ∧ Bk w5 (w2.heap.size) [.string d1, .int .i64 d2, .bool false] ∧ Bk w5 (w2.heap.size + 1) [.string e1, .int .i64 e2, .bool false] ∧ Below w.heap.size w w5) := ⟨(F3.out.1).step bb, (F3.out.2.1).step bb, (F3.out.2.2.1).step bb, (F3.out.2.2.2.1).step bb, (F3.out.2.2.2.2).trans (bb.mono (F3.out.2.2.2.2).size)⟩
 clear F3
 clear bb
 clear l3_0 a3_0_0 f3_0_0 a3_0_1 f3_0_1 a3_0_2 f3_0_2 l3_1 a3_1_0 f3_1_0 a3_1_1 f3_1_1 a3_1_2 f3_1_2 l3_2 a3_2_0 f3_2_0 a3_2_1 f3_2_1 a3_2_2 f3_2_2 l3_3 a3_3_0 f3_3_0 a3_3_1 f3_3_1 a3_3_2 f3_3_2
 have l4_0 := F4.out.1.lt
 have a4_0_0 := F4.out.1.cell 0 _ rfl
 have f4_0_0 := F4.out.1.fz 0
 have a4_0_1 := F4.out.1.cell 1 _ rfl
 have f4_0_1 := F4.out.1.fz 1
 have a4_0_2 := F4.out.1.cell 2 _ rfl
 have f4_0_2 := F4.out.1.fz 2
 have l4_1 := F4.out.2.1.lt
 have a4_1_0 := F4.out.2.1.cell 0 _ rfl
 have f4_1_0 := F4.out.2.1.fz 0
 have a4_1_1 := F4.out.2.1.cell 1 _ rfl
 have f4_1_1 := F4.out.2.1.fz 1
 have a4_1_2 := F4.out.2.1.cell 2 _ rfl
 have f4_1_2 := F4.out.2.1.fz 2
 have l4_2 := F4.out.2.2.1.lt
 have a4_2_0 := F4.out.2.2.1.cell 0 _ rfl
 have f4_2_0 := F4.out.2.2.1.fz 0
 have a4_2_1 := F4.out.2.2.1.cell 1 _ rfl
 have f4_2_1 := F4.out.2.2.1.fz 1
 have a4_2_2 := F4.out.2.2.1.cell 2 _ rfl
 have f4_2_2 := F4.out.2.2.1.fz 2
 have l4_3 := F4.out.2.2.2.1.lt
 have a4_3_0 := F4.out.2.2.2.1.cell 0 _ rfl
 have f4_3_0 := F4.out.2.2.2.1.fz 0
 have a4_3_1 := F4.out.2.2.2.1.cell 1 _ rfl
 have f4_3_1 := F4.out.2.2.2.1.fz 1
 have a4_3_2 := F4.out.2.2.2.1.cell 2 _ rfl
 have f4_3_2 := F4.out.2.2.2.1.fz 2
 have ne4_0_1 : ¬ w.heap.size = w.heap.size + 1 := by omega
 have ne4_0_2 : ¬ w.heap.size = w2.heap.size := by omega
 have ne4_0_3 : ¬ w.heap.size = w2.heap.size + 1 := by omega
 have ne4_1_0 : ¬ w.heap.size + 1 = w.heap.size := by omega
 have ne4_1_2 : ¬ w.heap.size + 1 = w2.heap.size := by omega
 have ne4_1_3 : ¬ w.heap.size + 1 = w2.heap.size + 1 := by omega
 have ne4_2_0 : ¬ w2.heap.size = w.heap.size := by omega
 have ne4_2_1 : ¬ w2.heap.size = w.heap.size + 1 := by omega
 have ne4_2_3 : ¬ w2.heap.size = w2.heap.size + 1 := by omega
 have ne4_3_0 : ¬ w2.heap.size + 1 = w.heap.size := by omega
 have ne4_3_1 : ¬ w2.heap.size + 1 = w.heap.size + 1 := by omega
 have ne4_3_2 : ¬ w2.heap.size + 1 = w2.heap.size := by omega
 go_wp2
 refine bodyPost_ret (v := .agg #[.string e1, .int .i64 e2, .bool false]) (by simp [results, Tryz.results31, go_sem, World.cell?_setCell_same, World.cell?_setCell_other, *]) rfl ⟨rfl, ?_⟩
 repeat (first | refine Below.setCell ?_ (by first | exact Nat.le_refl _ | (dsimp only; omega)) _ | refine Below.alloc ?_ (by first | exact Nat.le_refl _ | omega | (simp; omega)) _ | refine Below.drew ?_)
 exact F4.out.2.2.2.2
theorem rne_even {u d1 e1 : ByteArray} {o d2 e2 n x : Int} (n8 : n ≤ 1000000) (q1 : 0 < n) (q2 : x.tmod 2 = 0) (HR : ∀ W, Calls Tryz.prog 46 #[.agg #[.string u, .int .i64 o, .bool false], .int .i64 n] W fun e w' => e = .returned (.tuple #[.agg #[.string d1, .int .i64 d2, .bool false], .agg #[.string e1, .int .i64 e2, .bool false]]) ∧ Below W.heap.size W w') (HH : ∀ W, Calls Tryz.prog 47 #[.agg #[.string u, .int .i64 o, .bool false], .int .i64 n] W fun e w' => e = .returned (.int .i64 0) ∧ Below W.heap.size W w') (HA : ∀ W, Calls Tryz.prog 48 #[.agg #[.string u, .int .i64 o, .bool false], .int .i64 (n - 1)] W fun e w' => e = .returned (.int .u8 x) ∧ Below W.heap.size W w') (w : World) :
 Calls Tryz.prog 31 #[.agg #[.string u, .int .i64 o, .bool false], .int .i64 n] w fun x w' => x = .returned (.agg #[.string d1, .int .i64 d2, .bool false]) ∧ Below w.heap.size w w' := by
 have F0 : Hid (Bk ((w.alloc (.cells #[.string u, .int .i64 o, .bool false] 24)).alloc (.cells #[.string ⟨#[]⟩, .int .i64 0, .bool false] 24)) (w.heap.size) [.string u, .int .i64 o, .bool false] ∧ Bk ((w.alloc (.cells #[.string u, .int .i64 o, .bool false] 24)).alloc (.cells #[.string ⟨#[]⟩, .int .i64 0, .bool false] 24)) (w.heap.size + 1) [.string ⟨#[]⟩, .int .i64 0, .bool false] ∧ Below w.heap.size w ((w.alloc (.cells #[.string u, .int .i64 o, .bool false] 24)).alloc (.cells #[.string ⟨#[]⟩, .int .i64 0, .bool false] 24))) := ⟨(Bk.new3 w (.string u) (.int .i64 o) (.bool false) 24).step ((Below.refl _ _).alloc (Nat.le_refl _) _), ((by have q := Bk.new3 (w.alloc (.cells #[.string u, .int .i64 o, .bool false] 24)) (.string ⟨#[]⟩) (.int .i64 0) (.bool false) 24; simpa using q) : Bk ((w.alloc (.cells #[.string u, .int .i64 o, .bool false] 24)).alloc (.cells #[.string ⟨#[]⟩, .int .i64 0, .bool false] 24)) (w.heap.size + 1) [.string ⟨#[]⟩, .int .i64 0, .bool false]), (((Below.refl w.heap.size w)).alloc (Nat.le_refl _) _).alloc ((((Below.refl w.heap.size w)).alloc (Nat.le_refl _) _).size) _⟩
 go_enter Tryz.func31, Tryz.ntmps31
 go_upto_region 1 with fail
 generalize ((w.alloc (.cells #[.string u, .int .i64 o, .bool false] 24)).alloc (.cells #[.string ⟨#[]⟩, .int .i64 0, .bool false] 24)) = w1 at *
 have l1_0 := F0.out.1.lt
 have a1_0_0 := F0.out.1.cell 0 _ rfl
 have f1_0_0 := F0.out.1.fz 0
 have a1_0_1 := F0.out.1.cell 1 _ rfl
 have f1_0_1 := F0.out.1.fz 1
 have a1_0_2 := F0.out.1.cell 2 _ rfl
 have f1_0_2 := F0.out.1.fz 2
 have l1_1 := F0.out.2.1.lt
 have a1_1_0 := F0.out.2.1.cell 0 _ rfl
 have f1_1_0 := F0.out.2.1.fz 0
 have a1_1_1 := F0.out.2.1.cell 1 _ rfl
 have f1_1_1 := F0.out.2.1.fz 1
 have a1_1_2 := F0.out.2.1.cell 2 _ rfl
 have f1_1_2 := F0.out.2.1.fz 2
 have ne1_0_1 : ¬ w.heap.size = w.heap.size + 1 := by omega
 have ne1_1_0 : ¬ w.heap.size + 1 = w.heap.size := by omega
 go_wp2_with fail
 all_goals first | (exfalso; omega) | skip
 refine (HR _).mono ?_
 rintro o2 w2 ⟨rfl, bb⟩
 have F1 : Hid (Bk w2 (w.heap.size) [.string u, .int .i64 o, .bool false] ∧ Bk w2 (w.heap.size + 1) [.string ⟨#[]⟩, .int .i64 0, .bool false] ∧ Below w.heap.size w w2) := ⟨(F0.out.1).step bb, (F0.out.2.1).step bb, (F0.out.2.2).trans (bb.mono (F0.out.2.2).size)⟩
 clear F0
 clear bb
 clear l1_0 a1_0_0 f1_0_0 a1_0_1 f1_0_1 a1_0_2 f1_0_2 l1_1 a1_1_0 f1_1_0 a1_1_1 f1_1_1 a1_1_2 f1_1_2
 have lt0_2 := (F1.out.1).lt
 have lt1_2 := (F1.out.2.1).lt
 have le2 := (F1.out.2.2).size
 have F2 : Hid (Bk ((w2.alloc (.cells #[.string d1, .int .i64 d2, .bool false] 24)).alloc (.cells #[.string e1, .int .i64 e2, .bool false] 24)) (w.heap.size) [.string u, .int .i64 o, .bool false] ∧ Bk ((w2.alloc (.cells #[.string d1, .int .i64 d2, .bool false] 24)).alloc (.cells #[.string e1, .int .i64 e2, .bool false] 24)) (w.heap.size + 1) [.string ⟨#[]⟩, .int .i64 0, .bool false] ∧ Bk ((w2.alloc (.cells #[.string d1, .int .i64 d2, .bool false] 24)).alloc (.cells #[.string e1, .int .i64 e2, .bool false] 24)) (w2.heap.size) [.string d1, .int .i64 d2, .bool false] ∧ Bk ((w2.alloc (.cells #[.string d1, .int .i64 d2, .bool false] 24)).alloc (.cells #[.string e1, .int .i64 e2, .bool false] 24)) (w2.heap.size + 1) [.string e1, .int .i64 e2, .bool false] ∧ Below w.heap.size w ((w2.alloc (.cells #[.string d1, .int .i64 d2, .bool false] 24)).alloc (.cells #[.string e1, .int .i64 e2, .bool false] 24))) := ⟨((F1.out.1).step ((Below.refl _ _).alloc (Nat.le_refl _) _)).step ((Below.refl _ _).alloc (Nat.le_refl _) _), ((F1.out.2.1).step ((Below.refl _ _).alloc (Nat.le_refl _) _)).step ((Below.refl _ _).alloc (Nat.le_refl _) _), (Bk.new3 w2 (.string d1) (.int .i64 d2) (.bool false) 24).step ((Below.refl _ _).alloc (Nat.le_refl _) _), ((by have q := Bk.new3 (w2.alloc (.cells #[.string d1, .int .i64 d2, .bool false] 24)) (.string e1) (.int .i64 e2) (.bool false) 24; simpa using q) : Bk ((w2.alloc (.cells #[.string d1, .int .i64 d2, .bool false] 24)).alloc (.cells #[.string e1, .int .i64 e2, .bool false] 24)) (w2.heap.size + 1) [.string e1, .int .i64 e2, .bool false]), ((F1.out.2.2).alloc ((F1.out.2.2).size) _).alloc (((F1.out.2.2).alloc ((F1.out.2.2).size) _).size) _⟩
 clear F1
 go_upto_region 2 with fail
 generalize ((w2.alloc (.cells #[.string d1, .int .i64 d2, .bool false] 24)).alloc (.cells #[.string e1, .int .i64 e2, .bool false] 24)) = w3 at *
 have l2_0 := F2.out.1.lt
 have a2_0_0 := F2.out.1.cell 0 _ rfl
 have f2_0_0 := F2.out.1.fz 0
 have a2_0_1 := F2.out.1.cell 1 _ rfl
 have f2_0_1 := F2.out.1.fz 1
 have a2_0_2 := F2.out.1.cell 2 _ rfl
 have f2_0_2 := F2.out.1.fz 2
 have l2_1 := F2.out.2.1.lt
 have a2_1_0 := F2.out.2.1.cell 0 _ rfl
 have f2_1_0 := F2.out.2.1.fz 0
 have a2_1_1 := F2.out.2.1.cell 1 _ rfl
 have f2_1_1 := F2.out.2.1.fz 1
 have a2_1_2 := F2.out.2.1.cell 2 _ rfl
 have f2_1_2 := F2.out.2.1.fz 2
 have l2_2 := F2.out.2.2.1.lt
 have a2_2_0 := F2.out.2.2.1.cell 0 _ rfl
 have f2_2_0 := F2.out.2.2.1.fz 0
 have a2_2_1 := F2.out.2.2.1.cell 1 _ rfl
 have f2_2_1 := F2.out.2.2.1.fz 1
 have a2_2_2 := F2.out.2.2.1.cell 2 _ rfl
 have f2_2_2 := F2.out.2.2.1.fz 2
 have l2_3 := F2.out.2.2.2.1.lt
 have a2_3_0 := F2.out.2.2.2.1.cell 0 _ rfl
 have f2_3_0 := F2.out.2.2.2.1.fz 0
 have a2_3_1 := F2.out.2.2.2.1.cell 1 _ rfl
 have f2_3_1 := F2.out.2.2.2.1.fz 1
 have a2_3_2 := F2.out.2.2.2.1.cell 2 _ rfl
 have f2_3_2 := F2.out.2.2.2.1.fz 2
 have ne2_0_1 : ¬ w.heap.size = w.heap.size + 1 := by omega
 have ne2_0_2 : ¬ w.heap.size = w2.heap.size := by omega
 have ne2_0_3 : ¬ w.heap.size = w2.heap.size + 1 := by omega
 have ne2_1_0 : ¬ w.heap.size + 1 = w.heap.size := by omega
 have ne2_1_2 : ¬ w.heap.size + 1 = w2.heap.size := by omega
 have ne2_1_3 : ¬ w.heap.size + 1 = w2.heap.size + 1 := by omega
 have ne2_2_0 : ¬ w2.heap.size = w.heap.size := by omega
 have ne2_2_1 : ¬ w2.heap.size = w.heap.size + 1 := by omega
 have ne2_2_3 : ¬ w2.heap.size = w2.heap.size + 1 := by omega
 have ne2_3_0 : ¬ w2.heap.size + 1 = w.heap.size := by omega
 have ne2_3_1 : ¬ w2.heap.size + 1 = w.heap.size + 1 := by omega
 have ne2_3_2 : ¬ w2.heap.size + 1 = w2.heap.size := by omega
 go_wp2_with fail
 all_goals first | (exfalso; omega) | skip
 refine (HH _).mono ?_
 rintro o4 w4 ⟨rfl, bb⟩
 have F3 : Hid (Bk w4 (w.heap.size) [.string u, .int .i64 o, .bool false] ∧ Bk w4 (w.heap.size + 1) [.string ⟨#[]⟩, .int .i64 0, .bool false] ∧ Bk w4 (w2.heap.size) [.string d1, .int .i64 d2, .bool false] ∧ Bk w4 (w2.heap.size + 1) [.string e1, .int .i64 e2, .bool false] ∧ Below w.heap.size w w4) := ⟨(F2.out.1).step bb, (F2.out.2.1).step bb, (F2.out.2.2.1).step bb, (F2.out.2.2.2.1).step bb, (F2.out.2.2.2.2).trans (bb.mono (F2.out.2.2.2.2).size)⟩
 clear F2
 clear bb
 clear l2_0 a2_0_0 f2_0_0 a2_0_1 f2_0_1 a2_0_2 f2_0_2 l2_1 a2_1_0 f2_1_0 a2_1_1 f2_1_1 a2_1_2 f2_1_2 l2_2 a2_2_0 f2_2_0 a2_2_1 f2_2_1 a2_2_2 f2_2_2 l2_3 a2_3_0 f2_3_0 a2_3_1 f2_3_1 a2_3_2 f2_3_2
 have l3_0 := F3.out.1.lt
 have a3_0_0 := F3.out.1.cell 0 _ rfl
 have f3_0_0 := F3.out.1.fz 0
 have a3_0_1 := F3.out.1.cell 1 _ rfl
 have f3_0_1 := F3.out.1.fz 1
 have a3_0_2 := F3.out.1.cell 2 _ rfl
 have f3_0_2 := F3.out.1.fz 2
 have l3_1 := F3.out.2.1.lt
 have a3_1_0 := F3.out.2.1.cell 0 _ rfl
 have f3_1_0 := F3.out.2.1.fz 0
 have a3_1_1 := F3.out.2.1.cell 1 _ rfl
 have f3_1_1 := F3.out.2.1.fz 1
 have a3_1_2 := F3.out.2.1.cell 2 _ rfl
 have f3_1_2 := F3.out.2.1.fz 2
 have l3_2 := F3.out.2.2.1.lt
 have a3_2_0 := F3.out.2.2.1.cell 0 _ rfl
 have f3_2_0 := F3.out.2.2.1.fz 0
 have a3_2_1 := F3.out.2.2.1.cell 1 _ rfl
 have f3_2_1 := F3.out.2.2.1.fz 1
 have a3_2_2 := F3.out.2.2.1.cell 2 _ rfl
 have f3_2_2 := F3.out.2.2.1.fz 2
 have l3_3 := F3.out.2.2.2.1.lt
 have a3_3_0 := F3.out.2.2.2.1.cell 0 _ rfl
 have f3_3_0 := F3.out.2.2.2.1.fz 0
 have a3_3_1 := F3.out.2.2.2.1.cell 1 _ rfl
 have f3_3_1 := F3.out.2.2.2.1.fz 1
 have a3_3_2 := F3.out.2.2.2.1.cell 2 _ rfl
 have f3_3_2 := F3.out.2.2.2.1.fz 2
 have ne3_0_1 : ¬ w.heap.size = w.heap.size + 1 := by omega
 have ne3_0_2 : ¬ w.heap.size = w2.heap.size := by omega
 have ne3_0_3 : ¬ w.heap.size = w2.heap.size + 1 := by omega
 have ne3_1_0 : ¬ w.heap.size + 1 = w.heap.size := by omega
 have ne3_1_2 : ¬ w.heap.size + 1 = w2.heap.size := by omega
 have ne3_1_3 : ¬ w.heap.size + 1 = w2.heap.size + 1 := by omega
 have ne3_2_0 : ¬ w2.heap.size = w.heap.size := by omega
 have ne3_2_1 : ¬ w2.heap.size = w.heap.size + 1 := by omega
 have ne3_2_3 : ¬ w2.heap.size = w2.heap.size + 1 := by omega
 have ne3_3_0 : ¬ w2.heap.size + 1 = w.heap.size := by omega
 have ne3_3_1 : ¬ w2.heap.size + 1 = w.heap.size + 1 := by omega
 have ne3_3_2 : ¬ w2.heap.size + 1 = w2.heap.size := by omega
 go_wp2_with fail
 all_goals first | (exfalso; omega) | skip
 refine (HA _).mono ?_
 rintro o5 w5 ⟨rfl, bb⟩
 have F4 : Hid (Bk w5 (w.heap.size) [.string u, .int .i64 o, .bool false] ∧ Bk w5 (w.heap.size + 1) [.string ⟨#[]⟩, .int .i64 0, .bool false] ∧ Bk w5 (w2.heap.size) [.string d1, .int .i64 d2, .bool false] ∧ Bk w5 (w2.heap.size + 1) [.string e1, .int .i64 e2, .bool false] ∧ Below w.heap.size w w5) := ⟨(F3.out.1).step bb, (F3.out.2.1).step bb, (F3.out.2.2.1).step bb, (F3.out.2.2.2.1).step bb, (F3.out.2.2.2.2).trans (bb.mono (F3.out.2.2.2.2).size)⟩
 clear F3
 clear bb
 clear l3_0 a3_0_0 f3_0_0 a3_0_1 f3_0_1 a3_0_2 f3_0_2 l3_1 a3_1_0 f3_1_0 a3_1_1 f3_1_1 a3_1_2 f3_1_2 l3_2 a3_2_0 f3_2_0 a3_2_1 f3_2_1 a3_2_2 f3_2_2 l3_3 a3_3_0 f3_3_0 a3_3_1 f3_3_1 a3_3_2 f3_3_2
 have l4_0 := F4.out.1.lt
 have a4_0_0 := F4.out.1.cell 0 _ rfl
 have f4_0_0 := F4.out.1.fz 0
 have a4_0_1 := F4.out.1.cell 1 _ rfl
 have f4_0_1 := F4.out.1.fz 1
 have a4_0_2 := F4.out.1.cell 2 _ rfl
 have f4_0_2 := F4.out.1.fz 2
 have l4_1 := F4.out.2.1.lt
 have a4_1_0 := F4.out.2.1.cell 0 _ rfl
 have f4_1_0 := F4.out.2.1.fz 0
 have a4_1_1 := F4.out.2.1.cell 1 _ rfl
 have f4_1_1 := F4.out.2.1.fz 1
 have a4_1_2 := F4.out.2.1.cell 2 _ rfl
 have f4_1_2 := F4.out.2.1.fz 2
 have l4_2 := F4.out.2.2.1.lt
 have a4_2_0 := F4.out.2.2.1.cell 0 _ rfl
 have f4_2_0 := F4.out.2.2.1.fz 0
 have a4_2_1 := F4.out.2.2.1.cell 1 _ rfl
 have f4_2_1 := F4.out.2.2.1.fz 1
 have a4_2_2 := F4.out.2.2.1.cell 2 _ rfl
 have f4_2_2 := F4.out.2.2.1.fz 2
 have l4_3 := F4.out.2.2.2.1.lt
 have a4_3_0 := F4.out.2.2.2.1.cell 0 _ rfl
 have f4_3_0 := F4.out.2.2.2.1.fz 0
 have a4_3_1 := F4.out.2.2.2.1.cell 1 _ rfl
 have f4_3_1 := F4.out.2.2.2.1.fz 1
 have a4_3_2 := F4.out.2.2.2.1.cell 2 _ rfl
 have f4_3_2 := F4.out.2.2.2.1.fz 2
 have ne4_0_1 : ¬ w.heap.size = w.heap.size + 1 := by omega
 have ne4_0_2 : ¬ w.heap.size = w2.heap.size := by omega
 have ne4_0_3 : ¬ w.heap.size = w2.heap.size + 1 := by omega
 have ne4_1_0 : ¬ w.heap.size + 1 = w.heap.size := by omega
 have ne4_1_2 : ¬ w.heap.size + 1 = w2.heap.size := by omega
 have ne4_1_3 : ¬ w.heap.size + 1 = w2.heap.size + 1 := by omega
 have ne4_2_0 : ¬ w2.heap.size = w.heap.size := by omega
 have ne4_2_1 : ¬ w2.heap.size = w.heap.size + 1 := by omega
 have ne4_2_3 : ¬ w2.heap.size = w2.heap.size + 1 := by omega
 have ne4_3_0 : ¬ w2.heap.size + 1 = w.heap.size := by omega
 have ne4_3_1 : ¬ w2.heap.size + 1 = w.heap.size + 1 := by omega
 have ne4_3_2 : ¬ w2.heap.size + 1 = w2.heap.size := by omega
 go_wp2
 refine bodyPost_ret (v := .agg #[.string d1, .int .i64 d2, .bool false]) (by simp [results, Tryz.results31, go_sem, World.cell?_setCell_same, World.cell?_setCell_other, *]) rfl ⟨rfl, ?_⟩
 repeat (first | refine Below.setCell ?_ (by first | exact Nat.le_refl _ | (dsimp only; omega)) _ | refine Below.alloc ?_ (by first | exact Nat.le_refl _ | omega | (simp; omega)) _ | refine Below.drew ?_)
 exact F4.out.2.2.2.2
theorem rrd_eq {u d1 : ByteArray} {o d2 k1 : Int} (h0 : 0 < u.size) (hs : u.size ≤ 800) (M1 : ∀ W, Calls Tryz.prog 58 #[.string u, .int .i64 o, .bool false] W fun e w' => e = .returned (.tuple #[.agg #[.string d1, .int .i64 d2, .bool false], .int .i64 k1]) ∧ Below W.heap.size W w') (w : World) :
 Calls Tryz.prog 46 #[.agg #[.string u, .int .i64 o, .bool false], .int .i64 (u.size : Int)] w fun x w' => x = .returned (.tuple #[.agg #[.string u, .int .i64 o, .bool false], .agg #[.string u, .int .i64 o, .bool false]]) ∧ Below w.heap.size w w' := by
 have he : u.toList.isEmpty = false := empty_false h0
 have n0 : ¬ (u.size : Int) < 0 := by omega
 have sz : (u.size : Int) ≤ 9223372036854775807 := by omega
 have F0 : Hid (Bk (((w.alloc (.cells #[.string u, .int .i64 o, .bool false] 24)).alloc (.cells #[.string ⟨#[]⟩, .int .i64 0, .bool false] 24)).alloc (.cells #[.string ⟨#[]⟩, .int .i64 0, .bool false] 24)) (w.heap.size) [.string u, .int .i64 o, .bool false] ∧ Bk (((w.alloc (.cells #[.string u, .int .i64 o, .bool false] 24)).alloc (.cells #[.string ⟨#[]⟩, .int .i64 0, .bool false] 24)).alloc (.cells #[.string ⟨#[]⟩, .int .i64 0, .bool false] 24)) (w.heap.size + 1) [.string ⟨#[]⟩, .int .i64 0, .bool false] ∧ Bk (((w.alloc (.cells #[.string u, .int .i64 o, .bool false] 24)).alloc (.cells #[.string ⟨#[]⟩, .int .i64 0, .bool false] 24)).alloc (.cells #[.string ⟨#[]⟩, .int .i64 0, .bool false] 24)) (w.heap.size + 1 + 1) [.string ⟨#[]⟩, .int .i64 0, .bool false] ∧ Below w.heap.size w (((w.alloc (.cells #[.string u, .int .i64 o, .bool false] 24)).alloc (.cells #[.string ⟨#[]⟩, .int .i64 0, .bool false] 24)).alloc (.cells #[.string ⟨#[]⟩, .int .i64 0, .bool false] 24))) := ⟨((Bk.new3 w (.string u) (.int .i64 o) (.bool false) 24).step ((Below.refl _ _).alloc (Nat.le_refl _) _)).step ((Below.refl _ _).alloc (Nat.le_refl _) _), (((by have q := Bk.new3 (w.alloc (.cells #[.string u, .int .i64 o, .bool false] 24)) (.string ⟨#[]⟩) (.int .i64 0) (.bool false) 24; simpa using q) : Bk ((w.alloc (.cells #[.string u, .int .i64 o, .bool false] 24)).alloc (.cells #[.string ⟨#[]⟩, .int .i64 0, .bool false] 24)) (w.heap.size + 1) [.string ⟨#[]⟩, .int .i64 0, .bool false])).step ((Below.refl _ _).alloc (Nat.le_refl _) _), ((by have q := Bk.new3 ((w.alloc (.cells #[.string u, .int .i64 o, .bool false] 24)).alloc (.cells #[.string ⟨#[]⟩, .int .i64 0, .bool false] 24)) (.string ⟨#[]⟩) (.int .i64 0) (.bool false) 24; simpa using q) : Bk (((w.alloc (.cells #[.string u, .int .i64 o, .bool false] 24)).alloc (.cells #[.string ⟨#[]⟩, .int .i64 0, .bool false] 24)).alloc (.cells #[.string ⟨#[]⟩, .int .i64 0, .bool false] 24)) (w.heap.size + 1 + 1) [.string ⟨#[]⟩, .int .i64 0, .bool false]), ((((Below.refl w.heap.size w)).alloc (Nat.le_refl _) _).alloc ((((Below.refl w.heap.size w)).alloc (Nat.le_refl _) _).size) _).alloc (((((Below.refl w.heap.size w)).alloc (Nat.le_refl _) _).alloc ((((Below.refl w.heap.size w)).alloc (Nat.le_refl _) _).size) _).size) _⟩
 go_enter Tryz.func46, Tryz.ntmps46
 go_upto_region 1 with fail
 generalize (((w.alloc (.cells #[.string u, .int .i64 o, .bool false] 24)).alloc (.cells #[.string ⟨#[]⟩, .int .i64 0, .bool false] 24)).alloc (.cells #[.string ⟨#[]⟩, .int .i64 0, .bool false] 24)) = w1 at *
 have l1_0 := F0.out.1.lt
 have a1_0_0 := F0.out.1.cell 0 _ rfl
 have f1_0_0 := F0.out.1.fz 0
 have a1_0_1 := F0.out.1.cell 1 _ rfl
 have f1_0_1 := F0.out.1.fz 1
 have a1_0_2 := F0.out.1.cell 2 _ rfl
 have f1_0_2 := F0.out.1.fz 2
 have l1_1 := F0.out.2.1.lt
 have a1_1_0 := F0.out.2.1.cell 0 _ rfl
 have f1_1_0 := F0.out.2.1.fz 0
 have a1_1_1 := F0.out.2.1.cell 1 _ rfl
 have f1_1_1 := F0.out.2.1.fz 1
 have a1_1_2 := F0.out.2.1.cell 2 _ rfl
 have f1_1_2 := F0.out.2.1.fz 2
 have l1_2 := F0.out.2.2.1.lt
 have a1_2_0 := F0.out.2.2.1.cell 0 _ rfl
 have f1_2_0 := F0.out.2.2.1.fz 0
 have a1_2_1 := F0.out.2.2.1.cell 1 _ rfl
 have f1_2_1 := F0.out.2.2.1.fz 1
 have a1_2_2 := F0.out.2.2.1.cell 2 _ rfl
 have f1_2_2 := F0.out.2.2.1.fz 2
 have ne1_0_1 : ¬ w.heap.size = w.heap.size + 1 := by omega
 have ne1_0_2 : ¬ w.heap.size = w.heap.size + 1 + 1 := by omega
 have ne1_1_0 : ¬ w.heap.size + 1 = w.heap.size := by omega
 have ne1_1_2 : ¬ w.heap.size + 1 = w.heap.size + 1 + 1 := by omega
 have ne1_2_0 : ¬ w.heap.size + 1 + 1 = w.heap.size := by omega
 have ne1_2_1 : ¬ w.heap.size + 1 + 1 = w.heap.size + 1 := by omega
 go_upto_region 4 with fail
 go_cut [6, 7] from 26 to 35 (fun bv kv wx => ∃ K : Nat, bv = .pointer (some ⟨K, 0, none⟩) ∧ w.heap.size + 1 + 1 < K ∧ Hid (Bk wx (w.heap.size) [.string u, .int .i64 o, .bool false] ∧ Bk wx (w.heap.size + 1) [.string ⟨#[]⟩, .int .i64 0, .bool false] ∧ Bk wx (w.heap.size + 1 + 1) [.string ⟨#[]⟩, .int .i64 0, .bool false] ∧ Bk wx K [.string d1, .int .i64 d2, .bool false] ∧ Below w.heap.size w wx))
 case first =>
  go_region_held3 (fun w' => w'.cell? ⟨w.heap.size, 0, none⟩ = some (.string u) ∧ w'.cell? ⟨w.heap.size, 1, none⟩ = some (.int .i64 o) ∧ w'.cell? ⟨w.heap.size, 2, none⟩ = some (.bool false)) (simp [*, go_sem]) (first | (go_at_call 58; refine (M1 _).mono ?_; rintro p1 v1 ⟨rfl, bb⟩; first | (have G1 : Hid (Bk v1 (w.heap.size) [.string u, .int .i64 o, .bool false] ∧ Bk v1 (w.heap.size + 1) [.string ⟨#[]⟩, .int .i64 0, .bool false] ∧ Bk v1 (w.heap.size + 1 + 1) [.string ⟨#[]⟩, .int .i64 0, .bool false] ∧ Below w.heap.size w v1) := ⟨((F0.out.1).step ((Below.refl w1.heap.size w1).alloc (Nat.le_refl _) (.cells #[.string ⟨#[]⟩, .int .i64 0, .bool false] 24)).drew).step bb, ((F0.out.2.1).step ((Below.refl w1.heap.size w1).alloc (Nat.le_refl _) (.cells #[.string ⟨#[]⟩, .int .i64 0, .bool false] 24)).drew).step bb, ((F0.out.2.2.1).step ((Below.refl w1.heap.size w1).alloc (Nat.le_refl _) (.cells #[.string ⟨#[]⟩, .int .i64 0, .bool false] 24)).drew).step bb, ((F0.out.2.2.2).trans (((Below.refl w1.heap.size w1).alloc (Nat.le_refl _) (.cells #[.string ⟨#[]⟩, .int .i64 0, .bool false] 24)).drew.mono (F0.out.2.2.2).size)).trans (bb.mono ((F0.out.2.2.2).trans (((Below.refl w1.heap.size w1).alloc (Nat.le_refl _) (.cells #[.string ⟨#[]⟩, .int .i64 0, .bool false] 24)).drew.mono (F0.out.2.2.2).size)).size)⟩; have N1 : Hid (Bk v1 (w1.heap.size) [.string ⟨#[]⟩, .int .i64 0, .bool false]) := ((Bk.new3 w1 _ _ _ 24).step (Below.refl _ _).drew).step bb; clear bb; have d1_0 := (G1.out.1).lt; have d1_0_0 := (G1.out.1).cell 0 _ rfl; have e1_0_0 := (G1.out.1).fz 0; have d1_0_1 := (G1.out.1).cell 1 _ rfl; have e1_0_1 := (G1.out.1).fz 1; have d1_0_2 := (G1.out.1).cell 2 _ rfl; have e1_0_2 := (G1.out.1).fz 2; have d1_1 := (G1.out.2.1).lt; have d1_1_0 := (G1.out.2.1).cell 0 _ rfl; have e1_1_0 := (G1.out.2.1).fz 0; have d1_1_1 := (G1.out.2.1).cell 1 _ rfl; have e1_1_1 := (G1.out.2.1).fz 1; have d1_1_2 := (G1.out.2.1).cell 2 _ rfl; have e1_1_2 := (G1.out.2.1).fz 2; have d1_2 := (G1.out.2.2.1).lt; have d1_2_0 := (G1.out.2.2.1).cell 0 _ rfl; have e1_2_0 := (G1.out.2.2.1).fz 0; have d1_2_1 := (G1.out.2.2.1).cell 1 _ rfl; have e1_2_1 := (G1.out.2.2.1).fz 1; have d1_2_2 := (G1.out.2.2.1).cell 2 _ rfl; have e1_2_2 := (G1.out.2.2.1).fz 2; have n1 := N1.out.lt; have n1_0 := N1.out.cell 0 _ rfl; have n1_1 := N1.out.cell 1 _ rfl; have n1_2 := N1.out.cell 2 _ rfl; have m1_0 := N1.out.fz 0; have m1_1 := N1.out.fz 1; have m1_2 := N1.out.fz 2) | (have G1 : Hid (Bk v1 (w.heap.size) [.string u, .int .i64 o, .bool false] ∧ Bk v1 (w.heap.size + 1) [.string ⟨#[]⟩, .int .i64 0, .bool false] ∧ Bk v1 (w.heap.size + 1 + 1) [.string ⟨#[]⟩, .int .i64 0, .bool false] ∧ Below w.heap.size w v1) := ⟨((F0.out.1).step ((Below.refl w1.heap.size w1).drew)).step bb, ((F0.out.2.1).step ((Below.refl w1.heap.size w1).drew)).step bb, ((F0.out.2.2.1).step ((Below.refl w1.heap.size w1).drew)).step bb, ((F0.out.2.2.2).trans (((Below.refl w1.heap.size w1).drew).mono (F0.out.2.2.2).size)).trans (bb.mono ((F0.out.2.2.2).trans (((Below.refl w1.heap.size w1).drew).mono (F0.out.2.2.2).size)).size)⟩; clear bb; have d1_0 := (G1.out.1).lt; have d1_0_0 := (G1.out.1).cell 0 _ rfl; have e1_0_0 := (G1.out.1).fz 0; have d1_0_1 := (G1.out.1).cell 1 _ rfl; have e1_0_1 := (G1.out.1).fz 1; have d1_0_2 := (G1.out.1).cell 2 _ rfl; have e1_0_2 := (G1.out.1).fz 2; have d1_1 := (G1.out.2.1).lt; have d1_1_0 := (G1.out.2.1).cell 0 _ rfl; have e1_1_0 := (G1.out.2.1).fz 0; have d1_1_1 := (G1.out.2.1).cell 1 _ rfl; have e1_1_1 := (G1.out.2.1).fz 1; have d1_1_2 := (G1.out.2.1).cell 2 _ rfl; have e1_1_2 := (G1.out.2.1).fz 2; have d1_2 := (G1.out.2.2.1).lt; have d1_2_0 := (G1.out.2.2.1).cell 0 _ rfl; have e1_2_0 := (G1.out.2.2.1).fz 0; have d1_2_1 := (G1.out.2.2.1).cell 1 _ rfl; have e1_2_1 := (G1.out.2.2.1).fz 1; have d1_2_2 := (G1.out.2.2.1).cell 2 _ rfl; have e1_2_2 := (G1.out.2.2.1).fz 2)))
  all_goals go_wp2
  all_goals go_meet
  all_goals refine ⟨_, rfl, by omega, ?_⟩
  all_goals show (_ ∧ _)
  all_goals first | exact ⟨(G1.out.1).step ((Below.refl _ _).alloc (Nat.le_refl _) _), (G1.out.2.1).step ((Below.refl _ _).alloc (Nat.le_refl _) _), (G1.out.2.2.1).step ((Below.refl _ _).alloc (Nat.le_refl _) _), Bk.new3 v1 _ _ _ _, (G1.out.2.2.2).alloc (G1.out.2.2.2).size _⟩ | exact ⟨(((G1.out.1).setC (by omega) 0 _).setC (by omega) 1 _).setC (by omega) 2 _, (((G1.out.2.1).setC (by omega) 0 _).setC (by omega) 1 _).setC (by omega) 2 _, (((G1.out.2.2.1).setC (by omega) 0 _).setC (by omega) 1 _).setC (by omega) 2 _, N1.out.fill3 _ _ _, (((G1.out.2.2.2).setCell (by show w.heap.size ≤ w1.heap.size; omega) _).setCell (by show w.heap.size ≤ w1.heap.size; omega) _).setCell (by show w.heap.size ≤ w1.heap.size; omega) _⟩
 case rest =>
 obtain ⟨K, rfl, hK, HC⟩ := hcut
 clear F0 M1
 have F60 : Hid (Bk wc (w.heap.size) [.string u, .int .i64 o, .bool false] ∧ Bk wc (w.heap.size + 1) [.string ⟨#[]⟩, .int .i64 0, .bool false] ∧ Bk wc (w.heap.size + 1 + 1) [.string ⟨#[]⟩, .int .i64 0, .bool false] ∧ Bk wc K [.string d1, .int .i64 d2, .bool false] ∧ Below w.heap.size w wc) := HC
 clear HC
 have l11_0 := F60.out.1.lt
 have a11_0_0 := F60.out.1.cell 0 _ rfl
 have f11_0_0 := F60.out.1.fz 0
 have a11_0_1 := F60.out.1.cell 1 _ rfl
 have f11_0_1 := F60.out.1.fz 1
 have a11_0_2 := F60.out.1.cell 2 _ rfl
 have f11_0_2 := F60.out.1.fz 2
 have l11_1 := F60.out.2.1.lt
 have a11_1_0 := F60.out.2.1.cell 0 _ rfl
 have f11_1_0 := F60.out.2.1.fz 0
 have a11_1_1 := F60.out.2.1.cell 1 _ rfl
 have f11_1_1 := F60.out.2.1.fz 1
 have a11_1_2 := F60.out.2.1.cell 2 _ rfl
 have f11_1_2 := F60.out.2.1.fz 2
 have l11_2 := F60.out.2.2.1.lt
 have a11_2_0 := F60.out.2.2.1.cell 0 _ rfl
 have f11_2_0 := F60.out.2.2.1.fz 0
 have a11_2_1 := F60.out.2.2.1.cell 1 _ rfl
 have f11_2_1 := F60.out.2.2.1.fz 1
 have a11_2_2 := F60.out.2.2.1.cell 2 _ rfl
 have f11_2_2 := F60.out.2.2.1.fz 2
 go_upto_region 6 with fail
 have ne1 : ¬ w.heap.size = w.heap.size + 1 := by omega
 have ne2 : ¬ w.heap.size = w.heap.size + 1 + 1 := by omega
 have ne3 : ¬ w.heap.size + 1 = w.heap.size + 1 + 1 := by omega
 go_region_held3 (fun w' => w'.cell? ⟨w.heap.size, 0, none⟩ = some (.string u) ∧ w'.cell? ⟨w.heap.size, 1, none⟩ = some (.int .i64 o) ∧ w'.cell? ⟨w.heap.size, 2, none⟩ = some (.bool false)) (simp [*, go_sem, World.cell?_setCell_other]) (fail)
 all_goals go_wp2
 all_goals
  refine bodyPost_ret (v := .tuple #[.agg #[.string u, .int .i64 o, .bool false], .agg #[.string u, .int .i64 o, .bool false]]) (by simp [results, Tryz.results46, go_sem, World.cell?_setCell_same, World.cell?_setCell_other, *]) rfl ⟨rfl, ?_⟩
  refine Below.drew ?_
  repeat (first | refine Below.setCell ?_ (by first | exact Nat.le_refl _ | (dsimp only; omega)) _ | refine Below.alloc ?_ (by first | exact Nat.le_refl _ | omega | (simp; omega)) _ | refine Below.drew ?_)
  exact F60.out.2.2.2.2
theorem rrd_more {u d1 : ByteArray} {o d2 k1 n : Int} (h0 : 0 < u.size) (hs : u.size ≤ 800) (hn : (u.size : Int) < n) (M1 : ∀ W, Calls Tryz.prog 58 #[.string u, .int .i64 o, .bool false] W fun e w' => e = .returned (.tuple #[.agg #[.string d1, .int .i64 d2, .bool false], .int .i64 k1]) ∧ Below W.heap.size W w') (w : World) :
 Calls Tryz.prog 46 #[.agg #[.string u, .int .i64 o, .bool false], .int .i64 n] w fun x w' => x = .returned (.tuple #[.agg #[.string u, .int .i64 o, .bool false], .agg #[.string u, .int .i64 o, .bool false]]) ∧ Below w.heap.size w w' := by
 have he : u.toList.isEmpty = false := empty_false h0
 have n0 : ¬ (u.size : Int) < 0 := by omega
 have sz : (u.size : Int) ≤ 9223372036854775807 := by omega
 have hn2 : ¬ n ≤ (u.size : Int) := by omega
 have F0 : Hid (Bk (((w.alloc (.cells #[.string u, .int .i64 o, .bool false] 24)).alloc (.cells #[.string ⟨#[]⟩, .int .i64 0, .bool false] 24)).alloc (.cells #[.string ⟨#[]⟩, .int .i64 0, .bool false] 24)) (w.heap.size) [.string u, .int .i64 o, .bool false] ∧ Bk (((w.alloc (.cells #[.string u, .int .i64 o, .bool false] 24)).alloc (.cells #[.string ⟨#[]⟩, .int .i64 0, .bool false] 24)).alloc (.cells #[.string ⟨#[]⟩, .int .i64 0, .bool false] 24)) (w.heap.size + 1) [.string ⟨#[]⟩, .int .i64 0, .bool false] ∧ Bk (((w.alloc (.cells #[.string u, .int .i64 o, .bool false] 24)).alloc (.cells #[.string ⟨#[]⟩, .int .i64 0, .bool false] 24)).alloc (.cells #[.string ⟨#[]⟩, .int .i64 0, .bool false] 24)) (w.heap.size + 1 + 1) [.string ⟨#[]⟩, .int .i64 0, .bool false] ∧ Below w.heap.size w (((w.alloc (.cells #[.string u, .int .i64 o, .bool false] 24)).alloc (.cells #[.string ⟨#[]⟩, .int .i64 0, .bool false] 24)).alloc (.cells #[.string ⟨#[]⟩, .int .i64 0, .bool false] 24))) := ⟨((Bk.new3 w (.string u) (.int .i64 o) (.bool false) 24).step ((Below.refl _ _).alloc (Nat.le_refl _) _)).step ((Below.refl _ _).alloc (Nat.le_refl _) _), (((by have q := Bk.new3 (w.alloc (.cells #[.string u, .int .i64 o, .bool false] 24)) (.string ⟨#[]⟩) (.int .i64 0) (.bool false) 24; simpa using q) : Bk ((w.alloc (.cells #[.string u, .int .i64 o, .bool false] 24)).alloc (.cells #[.string ⟨#[]⟩, .int .i64 0, .bool false] 24)) (w.heap.size + 1) [.string ⟨#[]⟩, .int .i64 0, .bool false])).step ((Below.refl _ _).alloc (Nat.le_refl _) _), ((by have q := Bk.new3 ((w.alloc (.cells #[.string u, .int .i64 o, .bool false] 24)).alloc (.cells #[.string ⟨#[]⟩, .int .i64 0, .bool false] 24)) (.string ⟨#[]⟩) (.int .i64 0) (.bool false) 24; simpa using q) : Bk (((w.alloc (.cells #[.string u, .int .i64 o, .bool false] 24)).alloc (.cells #[.string ⟨#[]⟩, .int .i64 0, .bool false] 24)).alloc (.cells #[.string ⟨#[]⟩, .int .i64 0, .bool false] 24)) (w.heap.size + 1 + 1) [.string ⟨#[]⟩, .int .i64 0, .bool false]), ((((Below.refl w.heap.size w)).alloc (Nat.le_refl _) _).alloc ((((Below.refl w.heap.size w)).alloc (Nat.le_refl _) _).size) _).alloc (((((Below.refl w.heap.size w)).alloc (Nat.le_refl _) _).alloc ((((Below.refl w.heap.size w)).alloc (Nat.le_refl _) _).size) _).size) _⟩
 go_enter Tryz.func46, Tryz.ntmps46
 go_upto_region 1 with fail
 generalize (((w.alloc (.cells #[.string u, .int .i64 o, .bool false] 24)).alloc (.cells #[.string ⟨#[]⟩, .int .i64 0, .bool false] 24)).alloc (.cells #[.string ⟨#[]⟩, .int .i64 0, .bool false] 24)) = w1 at *
 have l1_0 := F0.out.1.lt
 have a1_0_0 := F0.out.1.cell 0 _ rfl
 have f1_0_0 := F0.out.1.fz 0
 have a1_0_1 := F0.out.1.cell 1 _ rfl
 have f1_0_1 := F0.out.1.fz 1
 have a1_0_2 := F0.out.1.cell 2 _ rfl
 have f1_0_2 := F0.out.1.fz 2
 have l1_1 := F0.out.2.1.lt
 have a1_1_0 := F0.out.2.1.cell 0 _ rfl
 have f1_1_0 := F0.out.2.1.fz 0
 have a1_1_1 := F0.out.2.1.cell 1 _ rfl
 have f1_1_1 := F0.out.2.1.fz 1
 have a1_1_2 := F0.out.2.1.cell 2 _ rfl
 have f1_1_2 := F0.out.2.1.fz 2
 have l1_2 := F0.out.2.2.1.lt
 have a1_2_0 := F0.out.2.2.1.cell 0 _ rfl
 have f1_2_0 := F0.out.2.2.1.fz 0
 have a1_2_1 := F0.out.2.2.1.cell 1 _ rfl
 have f1_2_1 := F0.out.2.2.1.fz 1
 have a1_2_2 := F0.out.2.2.1.cell 2 _ rfl
 have f1_2_2 := F0.out.2.2.1.fz 2
 have ne1_0_1 : ¬ w.heap.size = w.heap.size + 1 := by omega
 have ne1_0_2 : ¬ w.heap.size = w.heap.size + 1 + 1 := by omega
 have ne1_1_0 : ¬ w.heap.size + 1 = w.heap.size := by omega
 have ne1_1_2 : ¬ w.heap.size + 1 = w.heap.size + 1 + 1 := by omega
 have ne1_2_0 : ¬ w.heap.size + 1 + 1 = w.heap.size := by omega
 have ne1_2_1 : ¬ w.heap.size + 1 + 1 = w.heap.size + 1 := by omega
 go_upto_region 4 with fail
 go_cut [6, 7] from 26 to 35 (fun bv kv wx => ∃ K : Nat, bv = .pointer (some ⟨K, 0, none⟩) ∧ w.heap.size + 1 + 1 < K ∧ Hid (Bk wx (w.heap.size) [.string u, .int .i64 o, .bool false] ∧ Bk wx (w.heap.size + 1) [.string ⟨#[]⟩, .int .i64 0, .bool false] ∧ Bk wx (w.heap.size + 1 + 1) [.string ⟨#[]⟩, .int .i64 0, .bool false] ∧ Bk wx K [.string d1, .int .i64 d2, .bool false] ∧ Below w.heap.size w wx))
 case first =>
  go_region_held3 (fun w' => w'.cell? ⟨w.heap.size, 0, none⟩ = some (.string u) ∧ w'.cell? ⟨w.heap.size, 1, none⟩ = some (.int .i64 o) ∧ w'.cell? ⟨w.heap.size, 2, none⟩ = some (.bool false)) (simp [*, go_sem]) (first | (go_at_call 58; refine (M1 _).mono ?_; rintro p1 v1 ⟨rfl, bb⟩; first | (have G1 : Hid (Bk v1 (w.heap.size) [.string u, .int .i64 o, .bool false] ∧ Bk v1 (w.heap.size + 1) [.string ⟨#[]⟩, .int .i64 0, .bool false] ∧ Bk v1 (w.heap.size + 1 + 1) [.string ⟨#[]⟩, .int .i64 0, .bool false] ∧ Below w.heap.size w v1) := ⟨((F0.out.1).step ((Below.refl w1.heap.size w1).alloc (Nat.le_refl _) (.cells #[.string ⟨#[]⟩, .int .i64 0, .bool false] 24)).drew).step bb, ((F0.out.2.1).step ((Below.refl w1.heap.size w1).alloc (Nat.le_refl _) (.cells #[.string ⟨#[]⟩, .int .i64 0, .bool false] 24)).drew).step bb, ((F0.out.2.2.1).step ((Below.refl w1.heap.size w1).alloc (Nat.le_refl _) (.cells #[.string ⟨#[]⟩, .int .i64 0, .bool false] 24)).drew).step bb, ((F0.out.2.2.2).trans (((Below.refl w1.heap.size w1).alloc (Nat.le_refl _) (.cells #[.string ⟨#[]⟩, .int .i64 0, .bool false] 24)).drew.mono (F0.out.2.2.2).size)).trans (bb.mono ((F0.out.2.2.2).trans (((Below.refl w1.heap.size w1).alloc (Nat.le_refl _) (.cells #[.string ⟨#[]⟩, .int .i64 0, .bool false] 24)).drew.mono (F0.out.2.2.2).size)).size)⟩; have N1 : Hid (Bk v1 (w1.heap.size) [.string ⟨#[]⟩, .int .i64 0, .bool false]) := ((Bk.new3 w1 _ _ _ 24).step (Below.refl _ _).drew).step bb; clear bb; have d1_0 := (G1.out.1).lt; have d1_0_0 := (G1.out.1).cell 0 _ rfl; have e1_0_0 := (G1.out.1).fz 0; have d1_0_1 := (G1.out.1).cell 1 _ rfl; have e1_0_1 := (G1.out.1).fz 1; have d1_0_2 := (G1.out.1).cell 2 _ rfl; have e1_0_2 := (G1.out.1).fz 2; have d1_1 := (G1.out.2.1).lt; have d1_1_0 := (G1.out.2.1).cell 0 _ rfl; have e1_1_0 := (G1.out.2.1).fz 0; have d1_1_1 := (G1.out.2.1).cell 1 _ rfl; have e1_1_1 := (G1.out.2.1).fz 1; have d1_1_2 := (G1.out.2.1).cell 2 _ rfl; have e1_1_2 := (G1.out.2.1).fz 2; have d1_2 := (G1.out.2.2.1).lt; have d1_2_0 := (G1.out.2.2.1).cell 0 _ rfl; have e1_2_0 := (G1.out.2.2.1).fz 0; have d1_2_1 := (G1.out.2.2.1).cell 1 _ rfl; have e1_2_1 := (G1.out.2.2.1).fz 1; have d1_2_2 := (G1.out.2.2.1).cell 2 _ rfl; have e1_2_2 := (G1.out.2.2.1).fz 2; have n1 := N1.out.lt; have n1_0 := N1.out.cell 0 _ rfl; have n1_1 := N1.out.cell 1 _ rfl; have n1_2 := N1.out.cell 2 _ rfl; have m1_0 := N1.out.fz 0; have m1_1 := N1.out.fz 1; have m1_2 := N1.out.fz 2) | (have G1 : Hid (Bk v1 (w.heap.size) [.string u, .int .i64 o, .bool false] ∧ Bk v1 (w.heap.size + 1) [.string ⟨#[]⟩, .int .i64 0, .bool false] ∧ Bk v1 (w.heap.size + 1 + 1) [.string ⟨#[]⟩, .int .i64 0, .bool false] ∧ Below w.heap.size w v1) := ⟨((F0.out.1).step ((Below.refl w1.heap.size w1).drew)).step bb, ((F0.out.2.1).step ((Below.refl w1.heap.size w1).drew)).step bb, ((F0.out.2.2.1).step ((Below.refl w1.heap.size w1).drew)).step bb, ((F0.out.2.2.2).trans (((Below.refl w1.heap.size w1).drew).mono (F0.out.2.2.2).size)).trans (bb.mono ((F0.out.2.2.2).trans (((Below.refl w1.heap.size w1).drew).mono (F0.out.2.2.2).size)).size)⟩; clear bb; have d1_0 := (G1.out.1).lt; have d1_0_0 := (G1.out.1).cell 0 _ rfl; have e1_0_0 := (G1.out.1).fz 0; have d1_0_1 := (G1.out.1).cell 1 _ rfl; have e1_0_1 := (G1.out.1).fz 1; have d1_0_2 := (G1.out.1).cell 2 _ rfl; have e1_0_2 := (G1.out.1).fz 2; have d1_1 := (G1.out.2.1).lt; have d1_1_0 := (G1.out.2.1).cell 0 _ rfl; have e1_1_0 := (G1.out.2.1).fz 0; have d1_1_1 := (G1.out.2.1).cell 1 _ rfl; have e1_1_1 := (G1.out.2.1).fz 1; have d1_1_2 := (G1.out.2.1).cell 2 _ rfl; have e1_1_2 := (G1.out.2.1).fz 2; have d1_2 := (G1.out.2.2.1).lt; have d1_2_0 := (G1.out.2.2.1).cell 0 _ rfl; have e1_2_0 := (G1.out.2.2.1).fz 0; have d1_2_1 := (G1.out.2.2.1).cell 1 _ rfl; have e1_2_1 := (G1.out.2.2.1).fz 1; have d1_2_2 := (G1.out.2.2.1).cell 2 _ rfl; have e1_2_2 := (G1.out.2.2.1).fz 2)))
  all_goals go_wp2
  all_goals go_meet
  all_goals refine ⟨_, rfl, by omega, ?_⟩
  all_goals show (_ ∧ _)
  all_goals first | exact ⟨(G1.out.1).step ((Below.refl _ _).alloc (Nat.le_refl _) _), (G1.out.2.1).step ((Below.refl _ _).alloc (Nat.le_refl _) _), (G1.out.2.2.1).step ((Below.refl _ _).alloc (Nat.le_refl _) _), Bk.new3 v1 _ _ _ _, (G1.out.2.2.2).alloc (G1.out.2.2.2).size _⟩ | exact ⟨(((G1.out.1).setC (by omega) 0 _).setC (by omega) 1 _).setC (by omega) 2 _, (((G1.out.2.1).setC (by omega) 0 _).setC (by omega) 1 _).setC (by omega) 2 _, (((G1.out.2.2.1).setC (by omega) 0 _).setC (by omega) 1 _).setC (by omega) 2 _, N1.out.fill3 _ _ _, (((G1.out.2.2.2).setCell (by show w.heap.size ≤ w1.heap.size; omega) _).setCell (by show w.heap.size ≤ w1.heap.size; omega) _).setCell (by show w.heap.size ≤ w1.heap.size; omega) _⟩
 case rest =>
 obtain ⟨K, rfl, hK, HC⟩ := hcut
 clear F0 M1
 have F60 : Hid (Bk wc (w.heap.size) [.string u, .int .i64 o, .bool false] ∧ Bk wc (w.heap.size + 1) [.string ⟨#[]⟩, .int .i64 0, .bool false] ∧ Bk wc (w.heap.size + 1 + 1) [.string ⟨#[]⟩, .int .i64 0, .bool false] ∧ Bk wc K [.string d1, .int .i64 d2, .bool false] ∧ Below w.heap.size w wc) := HC
 clear HC
 have l11_0 := F60.out.1.lt
 have a11_0_0 := F60.out.1.cell 0 _ rfl
 have f11_0_0 := F60.out.1.fz 0
 have a11_0_1 := F60.out.1.cell 1 _ rfl
 have f11_0_1 := F60.out.1.fz 1
 have a11_0_2 := F60.out.1.cell 2 _ rfl
 have f11_0_2 := F60.out.1.fz 2
 have l11_1 := F60.out.2.1.lt
 have a11_1_0 := F60.out.2.1.cell 0 _ rfl
 have f11_1_0 := F60.out.2.1.fz 0
 have a11_1_1 := F60.out.2.1.cell 1 _ rfl
 have f11_1_1 := F60.out.2.1.fz 1
 have a11_1_2 := F60.out.2.1.cell 2 _ rfl
 have f11_1_2 := F60.out.2.1.fz 2
 have l11_2 := F60.out.2.2.1.lt
 have a11_2_0 := F60.out.2.2.1.cell 0 _ rfl
 have f11_2_0 := F60.out.2.2.1.fz 0
 have a11_2_1 := F60.out.2.2.1.cell 1 _ rfl
 have f11_2_1 := F60.out.2.2.1.fz 1
 have a11_2_2 := F60.out.2.2.1.cell 2 _ rfl
 have f11_2_2 := F60.out.2.2.1.fz 2
 go_upto_region 6 with fail
 have ne1 : ¬ w.heap.size = w.heap.size + 1 := by omega
 have ne2 : ¬ w.heap.size = w.heap.size + 1 + 1 := by omega
 have ne3 : ¬ w.heap.size + 1 = w.heap.size + 1 + 1 := by omega
 go_region_held3 (fun w' => w'.cell? ⟨w.heap.size, 0, none⟩ = some (.string u) ∧ w'.cell? ⟨w.heap.size, 1, none⟩ = some (.int .i64 o) ∧ w'.cell? ⟨w.heap.size, 2, none⟩ = some (.bool false)) (simp [*, go_sem, World.cell?_setCell_other]) (fail)
 all_goals go_wp2
 all_goals
  refine bodyPost_ret (v := .tuple #[.agg #[.string u, .int .i64 o, .bool false], .agg #[.string u, .int .i64 o, .bool false]]) (by simp [results, Tryz.results46, go_sem, World.cell?_setCell_same, World.cell?_setCell_other, *]) rfl ⟨rfl, ?_⟩
  refine Below.drew ?_
  repeat (first | refine Below.setCell ?_ (by first | exact Nat.le_refl _ | (dsimp only; omega)) _ | refine Below.alloc ?_ (by first | exact Nat.le_refl _ | omega | (simp; omega)) _ | refine Below.drew ?_)
  exact F60.out.2.2.2.2
theorem rrd_cut {u d1 e1 : ByteArray} {o d2 e2 k1 k2 : Int} {n k : Nat} (hs : u.size ≤ 800) (hd : DG u) (ho : -1099511627776 ≤ o) (ho2 : o ≤ 1099511627776) (hn : n < u.size) (kn : k ≤ n) (h9 : ∀ i, k ≤ i → i < n → dgt u i = 57) (hk : 0 < k → dgt u (k - 1) ≠ 57) (M1 : ∀ W, Calls Tryz.prog 58 #[.string (u.extract 0 n), .int .i64 o, .bool false] W fun e w' => e = .returned (.tuple #[.agg #[.string d1, .int .i64 d2, .bool false], .int .i64 k1]) ∧ Below W.heap.size W w') (M2 : ∀ v : ByteArray, v.size = n + 1 → (∀ i, i < n + 1 → dgt v i = incT u k i) → ∀ W, Calls Tryz.prog 58 #[.string v, .int .i64 (o + 1), .bool false] W fun e w' => e = .returned (.tuple #[.agg #[.string e1, .int .i64 e2, .bool false], .int .i64 k2]) ∧ Below W.heap.size W w') (w : World) :
 Calls Tryz.prog 46 #[.agg #[.string u, .int .i64 o, .bool false], .int .i64 (n : Int)] w fun x w' => x = .returned (.tuple #[.agg #[.string d1, .int .i64 d2, .bool false], .agg #[.string e1, .int .i64 e2, .bool false]]) ∧ Below w.heap.size w w' := by
 have he : u.toList.isEmpty = false := empty_false (by omega)
 have n0 : ¬ (n : Int) < 0 := by omega
 have nl : (n : Int) ≤ (u.size : Int) := by omega
 have nn : ¬ (n : Int) = (u.size : Int) := by omega
 have sz : (u.size : Int) ≤ 9223372036854775807 := by omega
 have ni : ((n : Int)).toNat = n := by omega
 have HP : Hid ((∀ i, k ≤ i → i < n → dgt u i = 57) ∧ (0 < k → dgt u (k - 1) ≠ 57) ∧ k ≤ n ∧ DG u ∧ n < u.size ∧ u.size ≤ 800) := ⟨h9, hk, kn, hd, hn, hs⟩
 have HM2 : Hid (∀ v : ByteArray, v.size = n + 1 → (∀ i, i < n + 1 → dgt v i = incT u k i) → ∀ W, Calls Tryz.prog 58 #[.string v, .int .i64 (o + 1), .bool false] W fun e w' => e = .returned (.tuple #[.agg #[.string e1, .int .i64 e2, .bool false], .int .i64 k2]) ∧ Below W.heap.size W w') := M2
 clear h9 hk kn hd hn hs M2
 have F0 : Hid (Bk (((w.alloc (.cells #[.string u, .int .i64 o, .bool false] 24)).alloc (.cells #[.string ⟨#[]⟩, .int .i64 0, .bool false] 24)).alloc (.cells #[.string ⟨#[]⟩, .int .i64 0, .bool false] 24)) (w.heap.size) [.string u, .int .i64 o, .bool false] ∧ Bk (((w.alloc (.cells #[.string u, .int .i64 o, .bool false] 24)).alloc (.cells #[.string ⟨#[]⟩, .int .i64 0, .bool false] 24)).alloc (.cells #[.string ⟨#[]⟩, .int .i64 0, .bool false] 24)) (w.heap.size + 1) [.string ⟨#[]⟩, .int .i64 0, .bool false] ∧ Bk (((w.alloc (.cells #[.string u, .int .i64 o, .bool false] 24)).alloc (.cells #[.string ⟨#[]⟩, .int .i64 0, .bool false] 24)).alloc (.cells #[.string ⟨#[]⟩, .int .i64 0, .bool false] 24)) (w.heap.size + 1 + 1) [.string ⟨#[]⟩, .int .i64 0, .bool false] ∧ Below w.heap.size w (((w.alloc (.cells #[.string u, .int .i64 o, .bool false] 24)).alloc (.cells #[.string ⟨#[]⟩, .int .i64 0, .bool false] 24)).alloc (.cells #[.string ⟨#[]⟩, .int .i64 0, .bool false] 24))) := ⟨((Bk.new3 w (.string u) (.int .i64 o) (.bool false) 24).step ((Below.refl _ _).alloc (Nat.le_refl _) _)).step ((Below.refl _ _).alloc (Nat.le_refl _) _), (((by have q := Bk.new3 (w.alloc (.cells #[.string u, .int .i64 o, .bool false] 24)) (.string ⟨#[]⟩) (.int .i64 0) (.bool false) 24; simpa using q) : Bk ((w.alloc (.cells #[.string u, .int .i64 o, .bool false] 24)).alloc (.cells #[.string ⟨#[]⟩, .int .i64 0, .bool false] 24)) (w.heap.size + 1) [.string ⟨#[]⟩, .int .i64 0, .bool false])).step ((Below.refl _ _).alloc (Nat.le_refl _) _), ((by have q := Bk.new3 ((w.alloc (.cells #[.string u, .int .i64 o, .bool false] 24)).alloc (.cells #[.string ⟨#[]⟩, .int .i64 0, .bool false] 24)) (.string ⟨#[]⟩) (.int .i64 0) (.bool false) 24; simpa using q) : Bk (((w.alloc (.cells #[.string u, .int .i64 o, .bool false] 24)).alloc (.cells #[.string ⟨#[]⟩, .int .i64 0, .bool false] 24)).alloc (.cells #[.string ⟨#[]⟩, .int .i64 0, .bool false] 24)) (w.heap.size + 1 + 1) [.string ⟨#[]⟩, .int .i64 0, .bool false]), ((((Below.refl w.heap.size w)).alloc (Nat.le_refl _) _).alloc ((((Below.refl w.heap.size w)).alloc (Nat.le_refl _) _).size) _).alloc (((((Below.refl w.heap.size w)).alloc (Nat.le_refl _) _).alloc ((((Below.refl w.heap.size w)).alloc (Nat.le_refl _) _).size) _).size) _⟩
 go_enter Tryz.func46, Tryz.ntmps46
 go_upto_region 1 with fail
 generalize (((w.alloc (.cells #[.string u, .int .i64 o, .bool false] 24)).alloc (.cells #[.string ⟨#[]⟩, .int .i64 0, .bool false] 24)).alloc (.cells #[.string ⟨#[]⟩, .int .i64 0, .bool false] 24)) = w1 at *
 have l1_0 := F0.out.1.lt
 have a1_0_0 := F0.out.1.cell 0 _ rfl
 have f1_0_0 := F0.out.1.fz 0
 have a1_0_1 := F0.out.1.cell 1 _ rfl
 have f1_0_1 := F0.out.1.fz 1
 have a1_0_2 := F0.out.1.cell 2 _ rfl
 have f1_0_2 := F0.out.1.fz 2
 have l1_1 := F0.out.2.1.lt
 have a1_1_0 := F0.out.2.1.cell 0 _ rfl
 have f1_1_0 := F0.out.2.1.fz 0
 have a1_1_1 := F0.out.2.1.cell 1 _ rfl
 have f1_1_1 := F0.out.2.1.fz 1
 have a1_1_2 := F0.out.2.1.cell 2 _ rfl
 have f1_1_2 := F0.out.2.1.fz 2
 have l1_2 := F0.out.2.2.1.lt
 have a1_2_0 := F0.out.2.2.1.cell 0 _ rfl
 have f1_2_0 := F0.out.2.2.1.fz 0
 have a1_2_1 := F0.out.2.2.1.cell 1 _ rfl
 have f1_2_1 := F0.out.2.2.1.fz 1
 have a1_2_2 := F0.out.2.2.1.cell 2 _ rfl
 have f1_2_2 := F0.out.2.2.1.fz 2
 have ne1_0_1 : ¬ w.heap.size = w.heap.size + 1 := by omega
 have ne1_0_2 : ¬ w.heap.size = w.heap.size + 1 + 1 := by omega
 have ne1_1_0 : ¬ w.heap.size + 1 = w.heap.size := by omega
 have ne1_1_2 : ¬ w.heap.size + 1 = w.heap.size + 1 + 1 := by omega
 have ne1_2_0 : ¬ w.heap.size + 1 + 1 = w.heap.size := by omega
 have ne1_2_1 : ¬ w.heap.size + 1 + 1 = w.heap.size + 1 := by omega
 go_upto_region 4 with fail
 go_cut [6, 7] from 26 to 35 (fun bv kv wx => ∃ K : Nat, bv = .pointer (some ⟨K, 0, none⟩) ∧ w.heap.size + 1 + 1 < K ∧ Hid (Bk wx (w.heap.size) [.string u, .int .i64 o, .bool false] ∧ Bk wx (w.heap.size + 1) [.string ⟨#[]⟩, .int .i64 0, .bool false] ∧ Bk wx (w.heap.size + 1 + 1) [.string ⟨#[]⟩, .int .i64 0, .bool false] ∧ Bk wx K [.string d1, .int .i64 d2, .bool false] ∧ Below w.heap.size w wx))
 case first =>
  go_region_held3 (fun w' => w'.cell? ⟨w.heap.size, 0, none⟩ = some (.string u) ∧ w'.cell? ⟨w.heap.size, 1, none⟩ = some (.int .i64 o) ∧ w'.cell? ⟨w.heap.size, 2, none⟩ = some (.bool false)) (simp [*, go_sem]) (first | (go_at_call 58; refine (M1 _).mono ?_; rintro p1 v1 ⟨rfl, bb⟩; first | (have G1 : Hid (Bk v1 (w.heap.size) [.string u, .int .i64 o, .bool false] ∧ Bk v1 (w.heap.size + 1) [.string ⟨#[]⟩, .int .i64 0, .bool false] ∧ Bk v1 (w.heap.size + 1 + 1) [.string ⟨#[]⟩, .int .i64 0, .bool false] ∧ Below w.heap.size w v1) := ⟨((F0.out.1).step ((Below.refl w1.heap.size w1).alloc (Nat.le_refl _) (.cells #[.string ⟨#[]⟩, .int .i64 0, .bool false] 24)).drew).step bb, ((F0.out.2.1).step ((Below.refl w1.heap.size w1).alloc (Nat.le_refl _) (.cells #[.string ⟨#[]⟩, .int .i64 0, .bool false] 24)).drew).step bb, ((F0.out.2.2.1).step ((Below.refl w1.heap.size w1).alloc (Nat.le_refl _) (.cells #[.string ⟨#[]⟩, .int .i64 0, .bool false] 24)).drew).step bb, ((F0.out.2.2.2).trans (((Below.refl w1.heap.size w1).alloc (Nat.le_refl _) (.cells #[.string ⟨#[]⟩, .int .i64 0, .bool false] 24)).drew.mono (F0.out.2.2.2).size)).trans (bb.mono ((F0.out.2.2.2).trans (((Below.refl w1.heap.size w1).alloc (Nat.le_refl _) (.cells #[.string ⟨#[]⟩, .int .i64 0, .bool false] 24)).drew.mono (F0.out.2.2.2).size)).size)⟩; have N1 : Hid (Bk v1 (w1.heap.size) [.string ⟨#[]⟩, .int .i64 0, .bool false]) := ((Bk.new3 w1 _ _ _ 24).step (Below.refl _ _).drew).step bb; clear bb; have d1_0 := (G1.out.1).lt; have d1_0_0 := (G1.out.1).cell 0 _ rfl; have e1_0_0 := (G1.out.1).fz 0; have d1_0_1 := (G1.out.1).cell 1 _ rfl; have e1_0_1 := (G1.out.1).fz 1; have d1_0_2 := (G1.out.1).cell 2 _ rfl; have e1_0_2 := (G1.out.1).fz 2; have d1_1 := (G1.out.2.1).lt; have d1_1_0 := (G1.out.2.1).cell 0 _ rfl; have e1_1_0 := (G1.out.2.1).fz 0; have d1_1_1 := (G1.out.2.1).cell 1 _ rfl; have e1_1_1 := (G1.out.2.1).fz 1; have d1_1_2 := (G1.out.2.1).cell 2 _ rfl; have e1_1_2 := (G1.out.2.1).fz 2; have d1_2 := (G1.out.2.2.1).lt; have d1_2_0 := (G1.out.2.2.1).cell 0 _ rfl; have e1_2_0 := (G1.out.2.2.1).fz 0; have d1_2_1 := (G1.out.2.2.1).cell 1 _ rfl; have e1_2_1 := (G1.out.2.2.1).fz 1; have d1_2_2 := (G1.out.2.2.1).cell 2 _ rfl; have e1_2_2 := (G1.out.2.2.1).fz 2; have n1 := N1.out.lt; have n1_0 := N1.out.cell 0 _ rfl; have n1_1 := N1.out.cell 1 _ rfl; have n1_2 := N1.out.cell 2 _ rfl; have m1_0 := N1.out.fz 0; have m1_1 := N1.out.fz 1; have m1_2 := N1.out.fz 2) | (have G1 : Hid (Bk v1 (w.heap.size) [.string u, .int .i64 o, .bool false] ∧ Bk v1 (w.heap.size + 1) [.string ⟨#[]⟩, .int .i64 0, .bool false] ∧ Bk v1 (w.heap.size + 1 + 1) [.string ⟨#[]⟩, .int .i64 0, .bool false] ∧ Below w.heap.size w v1) := ⟨((F0.out.1).step ((Below.refl w1.heap.size w1).drew)).step bb, ((F0.out.2.1).step ((Below.refl w1.heap.size w1).drew)).step bb, ((F0.out.2.2.1).step ((Below.refl w1.heap.size w1).drew)).step bb, ((F0.out.2.2.2).trans (((Below.refl w1.heap.size w1).drew).mono (F0.out.2.2.2).size)).trans (bb.mono ((F0.out.2.2.2).trans (((Below.refl w1.heap.size w1).drew).mono (F0.out.2.2.2).size)).size)⟩; clear bb; have d1_0 := (G1.out.1).lt; have d1_0_0 := (G1.out.1).cell 0 _ rfl; have e1_0_0 := (G1.out.1).fz 0; have d1_0_1 := (G1.out.1).cell 1 _ rfl; have e1_0_1 := (G1.out.1).fz 1; have d1_0_2 := (G1.out.1).cell 2 _ rfl; have e1_0_2 := (G1.out.1).fz 2; have d1_1 := (G1.out.2.1).lt; have d1_1_0 := (G1.out.2.1).cell 0 _ rfl; have e1_1_0 := (G1.out.2.1).fz 0; have d1_1_1 := (G1.out.2.1).cell 1 _ rfl; have e1_1_1 := (G1.out.2.1).fz 1; have d1_1_2 := (G1.out.2.1).cell 2 _ rfl; have e1_1_2 := (G1.out.2.1).fz 2; have d1_2 := (G1.out.2.2.1).lt; have d1_2_0 := (G1.out.2.2.1).cell 0 _ rfl; have e1_2_0 := (G1.out.2.2.1).fz 0; have d1_2_1 := (G1.out.2.2.1).cell 1 _ rfl; have e1_2_1 := (G1.out.2.2.1).fz 1; have d1_2_2 := (G1.out.2.2.1).cell 2 _ rfl; have e1_2_2 := (G1.out.2.2.1).fz 2)))
  all_goals go_wp2
  all_goals go_meet
  all_goals refine ⟨_, rfl, by omega, ?_⟩
  all_goals show (_ ∧ _)
  all_goals first | exact ⟨(G1.out.1).step ((Below.refl _ _).alloc (Nat.le_refl _) _), (G1.out.2.1).step ((Below.refl _ _).alloc (Nat.le_refl _) _), (G1.out.2.2.1).step ((Below.refl _ _).alloc (Nat.le_refl _) _), Bk.new3 v1 _ _ _ _, (G1.out.2.2.2).alloc (G1.out.2.2.2).size _⟩ | exact ⟨(((G1.out.1).setC (by omega) 0 _).setC (by omega) 1 _).setC (by omega) 2 _, (((G1.out.2.1).setC (by omega) 0 _).setC (by omega) 1 _).setC (by omega) 2 _, (((G1.out.2.2.1).setC (by omega) 0 _).setC (by omega) 1 _).setC (by omega) 2 _, N1.out.fill3 _ _ _, (((G1.out.2.2.2).setCell (by show w.heap.size ≤ w1.heap.size; omega) _).setCell (by show w.heap.size ≤ w1.heap.size; omega) _).setCell (by show w.heap.size ≤ w1.heap.size; omega) _⟩
 case rest =>
 obtain ⟨K, rfl, hK, HC⟩ := hcut
 clear F0 M1
 have F60 : Hid (Bk wc (w.heap.size) [.string u, .int .i64 o, .bool false] ∧ Bk wc (w.heap.size + 1) [.string ⟨#[]⟩, .int .i64 0, .bool false] ∧ Bk wc (w.heap.size + 1 + 1) [.string ⟨#[]⟩, .int .i64 0, .bool false] ∧ Bk wc K [.string d1, .int .i64 d2, .bool false] ∧ Below w.heap.size w wc) := HC
 clear HC
 have l11_0 := F60.out.1.lt
 have a11_0_0 := F60.out.1.cell 0 _ rfl
 have f11_0_0 := F60.out.1.fz 0
 have a11_0_1 := F60.out.1.cell 1 _ rfl
 have f11_0_1 := F60.out.1.fz 1
 have a11_0_2 := F60.out.1.cell 2 _ rfl
 have f11_0_2 := F60.out.1.fz 2
 have l11_1 := F60.out.2.1.lt
 have a11_1_0 := F60.out.2.1.cell 0 _ rfl
 have f11_1_0 := F60.out.2.1.fz 0
 have a11_1_1 := F60.out.2.1.cell 1 _ rfl
 have f11_1_1 := F60.out.2.1.fz 1
 have a11_1_2 := F60.out.2.1.cell 2 _ rfl
 have f11_1_2 := F60.out.2.1.fz 2
 have l11_2 := F60.out.2.2.1.lt
 have a11_2_0 := F60.out.2.2.1.cell 0 _ rfl
 have f11_2_0 := F60.out.2.2.1.fz 0
 have a11_2_1 := F60.out.2.2.1.cell 1 _ rfl
 have f11_2_1 := F60.out.2.2.1.fz 1
 have a11_2_2 := F60.out.2.2.1.cell 2 _ rfl
 have f11_2_2 := F60.out.2.2.1.fz 2
 go_upto_region 7 with fail
 obtain ⟨t, ht⟩ : ∃ t, t = (⟨#[48]⟩ ++ u.extract 0 n : ByteArray) := ⟨_, rfl⟩
 obtain ⟨ts, td⟩ := dgt_zero_app ht (by have := HP.out.2.2.2.2.1; omega)
 obtain ⟨W1, C, hcv, hC1, hC2, hbW, R0⟩ := conv_row wc t (by have := HP.out.2.2.2.2.2; have := HP.out.2.2.2.2.1; omega)
 rw [ts] at hcv hC1 R0
 have HT : Hid (∀ i, i < n + 1 → dgt t i = zeroT u i) := td
 rw [ht] at hcv
 have lex := pre_size (s := u) (k := n) (by have := HP.out.2.2.2.2.1; omega)
 go_wp2_with fail
 have lk0 := (F60.out.1).lt
 have lk1 := (F60.out.2.1).lt
 have lk2 := (F60.out.2.2.1).lt
 have lk3 := (F60.out.2.2.2.1).lt
 have lw := (F60.out.2.2.2.2).size
 have IB : Hid (Bk W1 (w.heap.size) [.string u, .int .i64 o, .bool false] ∧ Bk W1 (w.heap.size + 1) [.string ⟨#[]⟩, .int .i64 0, .bool false] ∧ Bk W1 (w.heap.size + 1 + 1) [.string ⟨#[]⟩, .int .i64 0, .bool false] ∧ Bk W1 (K) [.string d1, .int .i64 d2, .bool false] ∧ BR W1 (wc.heap.size) (n + 1) (dgt t) ∧ Below w.heap.size w W1) := ⟨(F60.out.1).step hbW, (F60.out.2.1).step hbW, (F60.out.2.2.1).step hbW, (F60.out.2.2.2.1).step hbW, R0, (F60.out.2.2.2.2).trans (hbW.mono (F60.out.2.2.2.2).size)⟩
 clear l11_0 a11_0_0 f11_0_0 a11_0_1 f11_0_1 a11_0_2 f11_0_2 l11_1 a11_1_0 f11_1_0 a11_1_1 f11_1_1 a11_1_2 f11_1_2 l11_2 a11_2_0 f11_2_0 a11_2_1 f11_2_1 a11_2_2 f11_2_2 F60 R0 hbW hcv
 go_loopw [9] (fun iv wr => ∃ (j : Nat) (F : Nat → Nat), iv = .int .i64 (j : Int) ∧ k ≤ j ∧ j ≤ n ∧ Hid (Bk wr (w.heap.size) [.string u, .int .i64 o, .bool false] ∧ Bk wr (w.heap.size + 1) [.string ⟨#[]⟩, .int .i64 0, .bool false] ∧ Bk wr (w.heap.size + 1 + 1) [.string ⟨#[]⟩, .int .i64 0, .bool false] ∧ Bk wr (K) [.string d1, .int .i64 d2, .bool false] ∧ BR wr (wc.heap.size) (n + 1) F ∧ Below w.heap.size w wr) ∧ Hid ((∀ i, i ≤ j → F i = zeroT u i) ∧ (∀ i, j < i → i < n + 1 → F i = 48))) (fun iv _ => (intOf iv).toNat)
 case atStart => exact ⟨n, dgt t, rfl, HP.out.2.2.1, Nat.le_refl _, IB.out, fun i hi => HT.out i (by omega), fun i a b => absurd a (by omega)⟩
 case round =>
  obtain ⟨j, F, rfl, hkj, hjn, HB, HF⟩ := hrel
  clear IB
  have ix : ((j : Int)).toNat = j := by omega
  have hg := HB.out.2.2.2.2.1.lt
  by_cases c1 : k < j
  · have e9 : F j = 57 := by
     rw [HF.out.1 j (Nat.le_refl _)]
     unfold zeroT
     rw [if_neg (by omega)]
     exact HP.out.1 (j - 1) (by omega) (by omega)
    have hc := HB.out.2.2.2.2.1.row.cell j (by omega)
    have hf := HB.out.2.2.2.2.1.row.fr j (by omega)
    rw [e9] at hc
    clear e9
    go_wp2
    go_roundw
    case rel =>
     refine ⟨j - 1, putF F j 48, by go_num, by omega, by omega, ⟨(HB.out.1).setC (by omega) _ _, (HB.out.2.1).setC (by omega) _ _, (HB.out.2.2.1).setC (by omega) _ _, (HB.out.2.2.2.1).setC (by omega) _ _, (HB.out.2.2.2.2.1).set (by omega) 48, (HB.out.2.2.2.2.2).setCell (by show w.heap.size ≤ wc.heap.size; omega) _⟩, fun i hi => ?_, fun i a b => ?_⟩
     · unfold putF
       rw [if_neg (by omega)]
       exact HF.out.1 i (by omega)
     · unfold putF
       by_cases z : i = j
       · rw [if_pos z]
       · rw [if_neg z]; exact HF.out.2 i (by omega) b
    case measure => simp [intOf]; omega
  · obtain rfl : j = k := by omega
    obtain ⟨y, hy⟩ : ∃ y, y = zeroT u j := ⟨_, rfl⟩
    have ey : F j = y := (HF.out.1 j (Nat.le_refl _)).trans hy.symm
    have hc := HB.out.2.2.2.2.1.row.cell j (by omega)
    have hf := HB.out.2.2.2.2.1.row.fr j (by omega)
    rw [ey] at hc
    have y9 : y < 57 := by
     rw [hy]
     unfold zeroT
     by_cases z : j = 0
     · rw [if_pos z]; omega
     · rw [if_neg z]
       have := HP.out.2.1 (by omega)
       have := dgt_in HP.out.2.2.2.1 (j - 1)
       omega
    have HYY : Hid (y = zeroT u j) := hy
    have e9 : ((y : Int) == 57) = false := beq_eq_false_iff_ne.mpr (by omega)
    obtain ⟨y1, hy1⟩ : ∃ y1, y1 = y + 1 := ⟨_, rfl⟩
    have HY1 : Hid (y1 = y + 1) := hy1
    have wx : IntKind.u8.wrap ((y : Int) + 1) = (y1 : Int) := by
     rw [hy1]
     unfold IntKind.wrap
     simp [IntKind.bits, IntKind.signed]
     omega
    clear hy ey hy1
    have RB := (HB.out.2.2.2.2.1).set (i := j) (by omega) y1
    obtain ⟨v, vs, vd, vc⟩ := row_text (C := C) RB (fun i hi => by
     unfold putF
     split
     · have := HY1.out; omega
     · rcases Nat.lt_or_ge i j with q | q
       · rw [HF.out.1 i (by omega)]
         unfold zeroT
         split
         · omega
         · have := dgt_in HP.out.2.2.2.1 (i - 1); omega
       · rw [HF.out.2 i (by omega) hi]; omega)
    have vcv := vc _ (fun i _ => rfl)
    have HV : Hid (∀ i, i < n + 1 → dgt v i = incT u j i) := fun i hi => by
     rw [vd i hi]
     unfold putF incT
     by_cases z : i = j
     · rw [if_pos z, if_neg (by omega), if_pos z, HY1.out, HYY.out]
     · rw [if_neg z]
       by_cases q : i < j
       · rw [if_pos q]; exact HF.out.1 i (by omega)
       · rw [if_neg q, if_neg z]; exact HF.out.2 i (by omega) hi
    have MM := HM2.out v vs HV.out
    have wo : IntKind.i64.wrap (o + 1) = o + 1 := by
     unfold IntKind.wrap
     simp [IntKind.bits, IntKind.signed]
     omega
    have F70 : Hid (Bk (wr.setCell ⟨wc.heap.size, j, none⟩ (.int .u8 (y1 : Int))) (w.heap.size) [.string u, .int .i64 o, .bool false] ∧ Bk (wr.setCell ⟨wc.heap.size, j, none⟩ (.int .u8 (y1 : Int))) (w.heap.size + 1) [.string ⟨#[]⟩, .int .i64 0, .bool false] ∧ Bk (wr.setCell ⟨wc.heap.size, j, none⟩ (.int .u8 (y1 : Int))) (w.heap.size + 1 + 1) [.string ⟨#[]⟩, .int .i64 0, .bool false] ∧ Bk (wr.setCell ⟨wc.heap.size, j, none⟩ (.int .u8 (y1 : Int))) (K) [.string d1, .int .i64 d2, .bool false] ∧ Below w.heap.size w (wr.setCell ⟨wc.heap.size, j, none⟩ (.int .u8 (y1 : Int)))) := ⟨(HB.out.1).setC (by omega) _ _, (HB.out.2.1).setC (by omega) _ _, (HB.out.2.2.1).setC (by omega) _ _, (HB.out.2.2.2.1).setC (by omega) _ _, (HB.out.2.2.2.2.2).setCell (by show w.heap.size ≤ wc.heap.size; omega) _⟩
    clear RB vc vd
    go_upto_region 13 with fail
    generalize (wr.setCell ⟨wc.heap.size, j, none⟩ (.int .u8 (y1 : Int))) = w71 at *
    have hco := (F70.out.1).cell 1 _ rfl
    go_wp2_with fail
    all_goals first | (exfalso; omega) | skip
    refine (MM _).mono ?_
    rintro o72 w72 ⟨rfl, bb⟩
    have F71 : Hid (Bk w72 (w.heap.size) [.string u, .int .i64 o, .bool false] ∧ Bk w72 (w.heap.size + 1) [.string ⟨#[]⟩, .int .i64 0, .bool false] ∧ Bk w72 (w.heap.size + 1 + 1) [.string ⟨#[]⟩, .int .i64 0, .bool false] ∧ Bk w72 (K) [.string d1, .int .i64 d2, .bool false] ∧ Below w.heap.size w w72) := ⟨(F70.out.1).step bb, (F70.out.2.1).step bb, (F70.out.2.2.1).step bb, (F70.out.2.2.2.1).step bb, (F70.out.2.2.2.2).trans (bb.mono (F70.out.2.2.2.2).size)⟩
    clear F70
    clear bb
    clear hco vcv
    have lt0_4 := (F71.out.1).lt
    have lt1_4 := (F71.out.2.1).lt
    have lt2_4 := (F71.out.2.2.1).lt
    have lt3_4 := (F71.out.2.2.2.1).lt
    have le4 := (F71.out.2.2.2.2).size
    have F72 : Hid (Bk (w72.alloc (.cells #[.string e1, .int .i64 e2, .bool false] 24)) (w.heap.size) [.string u, .int .i64 o, .bool false] ∧ Bk (w72.alloc (.cells #[.string e1, .int .i64 e2, .bool false] 24)) (w.heap.size + 1) [.string ⟨#[]⟩, .int .i64 0, .bool false] ∧ Bk (w72.alloc (.cells #[.string e1, .int .i64 e2, .bool false] 24)) (w.heap.size + 1 + 1) [.string ⟨#[]⟩, .int .i64 0, .bool false] ∧ Bk (w72.alloc (.cells #[.string e1, .int .i64 e2, .bool false] 24)) (K) [.string d1, .int .i64 d2, .bool false] ∧ Bk (w72.alloc (.cells #[.string e1, .int .i64 e2, .bool false] 24)) (w72.heap.size) [.string e1, .int .i64 e2, .bool false] ∧ Below w.heap.size w (w72.alloc (.cells #[.string e1, .int .i64 e2, .bool false] 24))) := ⟨(F71.out.1).step ((Below.refl _ _).alloc (Nat.le_refl _) _), (F71.out.2.1).step ((Below.refl _ _).alloc (Nat.le_refl _) _), (F71.out.2.2.1).step ((Below.refl _ _).alloc (Nat.le_refl _) _), (F71.out.2.2.2.1).step ((Below.refl _ _).alloc (Nat.le_refl _) _), Bk.new3 w72 (.string e1) (.int .i64 e2) (.bool false) 24, (F71.out.2.2.2.2).alloc ((F71.out.2.2.2.2).size) _⟩
    clear F71
    go_upto_region 14 with fail
    generalize (w72.alloc (.cells #[.string e1, .int .i64 e2, .bool false] 24)) = w73 at *
    have l31_0 := F72.out.1.lt
    have a31_0_0 := F72.out.1.cell 0 _ rfl
    have f31_0_0 := F72.out.1.fz 0
    have a31_0_1 := F72.out.1.cell 1 _ rfl
    have f31_0_1 := F72.out.1.fz 1
    have a31_0_2 := F72.out.1.cell 2 _ rfl
    have f31_0_2 := F72.out.1.fz 2
    have l31_1 := F72.out.2.1.lt
    have a31_1_0 := F72.out.2.1.cell 0 _ rfl
    have f31_1_0 := F72.out.2.1.fz 0
    have a31_1_1 := F72.out.2.1.cell 1 _ rfl
    have f31_1_1 := F72.out.2.1.fz 1
    have a31_1_2 := F72.out.2.1.cell 2 _ rfl
    have f31_1_2 := F72.out.2.1.fz 2
    have l31_2 := F72.out.2.2.1.lt
    have a31_2_0 := F72.out.2.2.1.cell 0 _ rfl
    have f31_2_0 := F72.out.2.2.1.fz 0
    have a31_2_1 := F72.out.2.2.1.cell 1 _ rfl
    have f31_2_1 := F72.out.2.2.1.fz 1
    have a31_2_2 := F72.out.2.2.1.cell 2 _ rfl
    have f31_2_2 := F72.out.2.2.1.fz 2
    have l31_3 := F72.out.2.2.2.1.lt
    have a31_3_0 := F72.out.2.2.2.1.cell 0 _ rfl
    have f31_3_0 := F72.out.2.2.2.1.fz 0
    have a31_3_1 := F72.out.2.2.2.1.cell 1 _ rfl
    have f31_3_1 := F72.out.2.2.2.1.fz 1
    have a31_3_2 := F72.out.2.2.2.1.cell 2 _ rfl
    have f31_3_2 := F72.out.2.2.2.1.fz 2
    have l31_4 := F72.out.2.2.2.2.1.lt
    have a31_4_0 := F72.out.2.2.2.2.1.cell 0 _ rfl
    have f31_4_0 := F72.out.2.2.2.2.1.fz 0
    have a31_4_1 := F72.out.2.2.2.2.1.cell 1 _ rfl
    have f31_4_1 := F72.out.2.2.2.2.1.fz 1
    have a31_4_2 := F72.out.2.2.2.2.1.cell 2 _ rfl
    have f31_4_2 := F72.out.2.2.2.2.1.fz 2
    have ne31_0_1 : ¬ w.heap.size = w.heap.size + 1 := by omega
    have ne31_0_2 : ¬ w.heap.size = w.heap.size + 1 + 1 := by omega
    have ne31_0_3 : ¬ w.heap.size = K := by omega
    have ne31_0_4 : ¬ w.heap.size = w72.heap.size := by omega
    have ne31_1_0 : ¬ w.heap.size + 1 = w.heap.size := by omega
    have ne31_1_2 : ¬ w.heap.size + 1 = w.heap.size + 1 + 1 := by omega
    have ne31_1_3 : ¬ w.heap.size + 1 = K := by omega
    have ne31_1_4 : ¬ w.heap.size + 1 = w72.heap.size := by omega
    have ne31_2_0 : ¬ w.heap.size + 1 + 1 = w.heap.size := by omega
    have ne31_2_1 : ¬ w.heap.size + 1 + 1 = w.heap.size + 1 := by omega
    have ne31_2_3 : ¬ w.heap.size + 1 + 1 = K := by omega
    have ne31_2_4 : ¬ w.heap.size + 1 + 1 = w72.heap.size := by omega
    have ne31_3_0 : ¬ K = w.heap.size := by omega
    have ne31_3_1 : ¬ K = w.heap.size + 1 := by omega
    have ne31_3_2 : ¬ K = w.heap.size + 1 + 1 := by omega
    have ne31_3_4 : ¬ K = w72.heap.size := by omega
    have ne31_4_0 : ¬ w72.heap.size = w.heap.size := by omega
    have ne31_4_1 : ¬ w72.heap.size = w.heap.size + 1 := by omega
    have ne31_4_2 : ¬ w72.heap.size = w.heap.size + 1 + 1 := by omega
    have ne31_4_3 : ¬ w72.heap.size = K := by omega
    go_region_held3 (fun w' => w'.cell? ⟨K, 0, none⟩ = some (.string d1) ∧ w'.cell? ⟨K, 1, none⟩ = some (.int .i64 d2) ∧ w'.cell? ⟨K, 2, none⟩ = some (.bool false) ∧ w'.cell? ⟨w72.heap.size, 0, none⟩ = some (.string e1) ∧ w'.cell? ⟨w72.heap.size, 1, none⟩ = some (.int .i64 e2) ∧ w'.cell? ⟨w72.heap.size, 2, none⟩ = some (.bool false)) (simp [*, go_sem, World.cell?_setCell_other]) (fail)
    all_goals go_wp2
    all_goals
     refine bodyPost_ret (v := .tuple #[.agg #[.string d1, .int .i64 d2, .bool false], .agg #[.string e1, .int .i64 e2, .bool false]]) (by simp [results, Tryz.results46, go_sem, World.cell?_setCell_same, World.cell?_setCell_other, *]) rfl ⟨rfl, ?_⟩
     refine Below.drew ?_
     repeat (first | refine Below.setCell ?_ (by first | exact Nat.le_refl _ | (dsimp only; omega)) _ | refine Below.alloc ?_ (by first | exact Nat.le_refl _ | omega | (simp; omega)) _ | refine Below.drew ?_)
     exact F72.out.2.2.2.2.2
def nxD (s : ByteArray) (p : Int) (k : Nat) : Dp := if k = 0 then (if p = 1099511627776 then (⟨#[]⟩, 0) else (⟨#[49]⟩, p + 1)) else (upS s k, p)
def nxK (p : Int) (k : Nat) : Int := if k = 0 ∧ p = 1099511627776 then 4 else 0
theorem inc_make {s : ByteArray} {p : Int} (hd : DG s) (hf : dgt s 0 ≠ 48) (hp : -1099511627776 ≤ p) (hp2 : p ≤ 1099511627776) {n k : Nat} (n0 : 0 < n) (hn : n ≤ 800) (kn : k ≤ n) (ks : k ≤ s.size) (k9 : 0 < k → dgt s (k - 1) ≠ 57) {v : ByteArray} (vs : v.size = n + 1) (hv : ∀ i, i < n + 1 → dgt v i = incT s k i) (W : World) :
 Calls Tryz.prog 58 #[.string v, .int .i64 (p + 1), .bool false] W fun e w' => e = .returned (.tuple #[dcV (nxD s p k).1 (nxD s p k).2 false, .int .i64 (nxK p k)]) ∧ Below W.heap.size W w' := by
 have dz : ∀ i, 48 ≤ zeroT s i ∧ zeroT s i ≤ 57 := fun i => by
  unfold zeroT
  split
  · omega
  · exact dgt_in hd _
 have dk : zeroT s k + 1 ≤ 57 := by
  have a := dz k
  unfold zeroT at a ⊢
  split
  · omega
  · rename_i c
    rw [if_neg c] at a
    have := k9 (by omega)
    omega
 have dv : DG v := fun i hi => by
  rw [← dgt_lt hi, hv i (by omega)]
  have a := dz i
  have b := dz k
  unfold incT
  split
  · exact a
  · split <;> omega
 by_cases c : k = 0
 · subst c
   have v0 : dgt v 0 = 49 := by
    rw [hv 0 (by omega)]
    unfold incT zeroT
    rw [if_neg (by omega), if_pos rfl, if_pos rfl]
   have vi : ∀ i, 1 ≤ i → i < v.size → dgt v i = 48 := fun i a b => by
    rw [hv i (by omega)]
    unfold incT
    rw [if_neg (by omega), if_neg (by omega)]
   have e1 : v.extract 0 v.size = v := ext_zero v
   have e2 : v.extract 0 1 = ⟨#[49]⟩ := by
    refine ba_ext (by rw [pre_size (by omega)]; rfl) (fun i hi => ?_)
    rw [pre_size (by omega)] at hi
    obtain rfl : i = 0 := by omega
    rw [pre_dgt (by omega) (by omega), v0]
    decide
   unfold nxD nxK
   rw [if_pos rfl]
   have h2 : dgt v (1 - 1) ≠ 48 := by show dgt v 0 ≠ 48; rw [v0]; decide
   by_cases n8 : n = 800
   · subst n8
     obtain ⟨vv, hvv⟩ : ∃ vv, v.extract 0 800 = vv := ⟨_, rfl⟩
     have vz : vv.size = 800 := by rw [← hvv]; exact pre_size (by omega)
     have vvd : ∀ i, i < 800 → dgt vv i = dgt v i := fun i hi => by rw [← hvv]; exact pre_dgt (by omega) hi
     have e3 : vv.extract 0 1 = ⟨#[49]⟩ := by rw [← hvv, pre_pre (by omega)]; exact e2
     have f0 : dgt v 0 ≠ 48 := by rw [v0]; decide
     have f1 : ∀ i, 1 ≤ i → i < vv.size → dgt vv i = 48 := fun i a b => by rw [vvd i (by omega)]; exact vi i a (by omega)
     have f2 : dgt vv (1 - 1) ≠ 48 := by rw [vvd 0 (by omega)]; exact f0
     by_cases q : p = 1099511627776
     · rw [if_pos q, if_pos ⟨rfl, q⟩]
       exact rmake_last_out (by omega) dv f0 (vi 800 (by omega) (by omega)) hvv (m := 1) (by omega) (by omega) f1 f2 (by omega) (by omega) W
     · rw [if_neg q, if_neg (fun g => q g.2)]
       have r := rmake_last_in (p := p + 1) (by omega) dv f0 (vi 800 (by omega) (by omega)) hvv (m := 1) (by omega) (by omega) f1 f2 (by omega) (by omega) W
       rw [e3] at r
       exact r
   by_cases q : p = 1099511627776
   · rw [if_pos q, if_pos ⟨rfl, q⟩]
     exact rmake_out (by omega) dv (z := 0) (by omega) (fun i a => by omega) (by rw [v0]; decide) (u := v) (by rw [e1]) (by omega) (m := 1) (by omega) (by omega) vi h2 (by omega) (by omega) (fun g => by have := g.2; omega) W
   · rw [if_neg q, if_neg (fun g => q g.2)]
     have r := rmake_in (p := p + 1) (by omega) dv (z := 0) (by omega) (fun i a => by omega) (by rw [v0]; decide) (u := v) (by rw [e1]) (by omega) (m := 1) (by omega) (by omega) vi h2 (by omega) (by omega) ⟨by omega, by omega⟩ W
     rw [e2, show p + 1 - ((0 : Nat) : Int) = p + 1 by omega] at r
     exact r
 · have k0 : 0 < k := by omega
   have v0 : dgt v 0 = 48 := by
    rw [hv 0 (by omega)]
    unfold incT zeroT
    rw [if_pos k0, if_pos rfl]
   have v1 : dgt v 1 ≠ 48 := by
    rw [hv 1 (by omega)]
    unfold incT
    by_cases c1 : k = 1
    · subst c1
      rw [if_neg (by omega), if_pos rfl]
      have := dz 1
      omega
    · rw [if_pos (by omega)]
      unfold zeroT
      rw [if_neg (by decide)]
      exact hf
   obtain ⟨u, hu⟩ : ∃ u, v.extract 1 v.size = u := ⟨_, rfl⟩
   have us : u.size = n := by rw [← hu, ext_size (by omega)]; omega
   have ud : ∀ i, i < n → dgt u i = dgt v (1 + i) := fun i hi => by
    rw [← hu]
    exact dgt_sub (Nat.le_refl _) (by omega)
   have e2 : u.extract 0 k = upS s k := by
    obtain ⟨a1, a2⟩ := upS_dgt hd (m := k) k0 ks
    refine ba_ext (by rw [pre_size (by omega), upS_size k0 ks]) (fun i hi => ?_)
    rw [pre_size (by omega)] at hi
    rw [pre_dgt (by omega) hi, ud i (by omega), hv (1 + i) (by omega)]
    unfold incT
    by_cases c1 : i = k - 1
    · rw [if_neg (by omega), if_pos (by omega), c1, a2]
      unfold zeroT
      rw [if_neg (by omega)]
    · rw [if_pos (by omega), a1 i (by omega)]
      unfold zeroT
      rw [if_neg (by omega), show 1 + i - 1 = i by omega]
   unfold nxD nxK
   rw [if_neg c, if_neg (fun g => c g.1)]
   have r := rmake_in (p := p + 1) (by omega) dv (z := 1) (by omega) (fun i a => by rw [show i = 0 by omega]; exact v0) v1 hu (by omega) (m := k) (by omega) k0 (fun i a b => by
    rw [ud i (by omega), hv (1 + i) (by omega)]
    unfold incT
    rw [if_neg (by omega), if_neg (by omega)]) (by
    rw [ud (k - 1) (by omega), show 1 + (k - 1) = k by omega, hv k (by omega)]
    unfold incT
    rw [if_neg (by omega), if_pos rfl]
    have := dz k
    omega) (by omega) (by omega) ⟨by omega, by omega⟩ W
   rw [e2, show p + 1 - ((1 : Nat) : Int) = p by omega] at r
   exact r
theorem rrd_gen {s : ByteArray} {p : Int} (g : VN s p false) {n m k : Nat} (hn : n < s.size) (n0 : 0 < n) (m0 : 0 < m) (mn : m ≤ n) (h0 : ∀ i, m ≤ i → i < n → dgt s i = 48) (hm : dgt s (m - 1) ≠ 48) (kn : k ≤ n) (h9 : ∀ i, k ≤ i → i < n → dgt s i = 57) (hk : 0 < k → dgt s (k - 1) ≠ 57) (w : World) :
 Calls Tryz.prog 46 #[dcV s p false, .int .i64 (n : Int)] w fun x w' => x = .returned (.tuple #[dcV (s.extract 0 m) p false, dcV (nxD s p k).1 (nxD s p k).2 false]) ∧ Below w.heap.size w w' := by
 have nf := vn_nf g
 have hl := g.len
 refine rrd_cut hl g.dg g.lo g.hi hn kn h9 hk (k1 := 0) (k2 := nxK p k) (fun W => ?_) (fun v vs hv W => inc_make g.dg nf.first g.lo g.hi n0 (by omega) kn (by omega) hk vs hv W) w
 have e := pre_size (s := s) (k := n) (by omega)
 have r := rmake_ok (s := s.extract 0 n) (p := p) (by omega) (by omega) (pre_dg g.dg (by omega)) (by rw [pre_dgt (by omega) n0]; exact nf.first) (m := m) (by omega) m0 (fun i a b => by rw [pre_dgt (by omega) (by omega)]; exact h0 i a (by omega)) (by rw [pre_dgt (by omega) (by omega)]; exact hm) g.lo g.hi W
 rw [pre_pre mn] at r
 exact r
theorem rrd_none {s : ByteArray} {p : Int} (g : VN s p false) {n : Nat} (hn : s.size ≤ n) (w : World) :
 Calls Tryz.prog 46 #[dcV s p false, .int .i64 (n : Int)] w fun x w' => x = .returned (.tuple #[dcV s p false, dcV s p false]) ∧ Below w.heap.size w w' := by
 have nf := vn_nf g
 have hl := g.len
 have M := fun W => rmake_ok (s := s) (p := p) g.pos hl g.dg nf.first (m := s.size) (Nat.le_refl _) g.pos (fun i a b => by omega) nf.last g.lo g.hi W
 rw [ext_zero] at M
 rcases Nat.eq_or_lt_of_le hn with e | e
 · rw [← e]; exact rrd_eq g.pos hl M w
 · exact rrd_more g.pos hl (by omega) M w
theorem rrd_is {s : ByteArray} {p : Int} {n : Nat} {s1 s2 : ByteArray} {p2 : Int} (g : VN s p false) (hp : p ≤ 1000) (n0 : 0 < n) (D : Du s p n s1 s2 p2) (w : World) :
 Calls Tryz.prog 46 #[dcV s p false, .int .i64 (n : Int)] w fun x w' => x = .returned (.tuple #[dcV s1 p false, dcV s2 p2 false]) ∧ Below w.heap.size w w' := by
 rcases D.way with ⟨c, e1, e2, e3⟩ | ⟨c, m, k, mz, m1, m2, m3, e1, k1, k2, K⟩
 · rw [e1, e2, e3]
   exact rrd_none g c w
 · have r := rrd_gen g c n0 mz m1 m2 m3 k1 k2 (fun h => by
    rcases K with ⟨z, _⟩ | ⟨_, d9, _⟩
    · omega
    · exact d9) w
   have e : nxD s p k = (s2, p2) := by
    unfold nxD
    rcases K with ⟨z, a, b⟩ | ⟨z, _, a, b⟩
    · rw [if_pos z, if_neg (by omega), a, b]
    · rw [if_neg (by omega), a, b]
   rw [e] at r
   rw [e1]
   exact r
theorem rhf_is {s : ByteArray} {p : Int} (n : Nat) (hn : n ≤ 1000000) (w : World) :
 Calls Tryz.prog 47 #[dcV s p false, .int .i64 (n : Int)] w fun x w' => x = .returned (.int .i64 (if 53 < dgt s n then 1 else if dgt s n < 53 then -1 else if n + 1 < s.size then 1 else 0)) ∧ Below w.heap.size w w' := by
 have A := fun W => rat_any (u := s) (o := p) n W
 rcases Nat.lt_trichotomy (dgt s n) 53 with c | c | c
 · rw [if_neg (by omega), if_pos c]
   exact rhf_lt (by omega) (by omega) A w
 · rw [if_neg (by omega), if_neg (by omega)]
   by_cases q : n + 1 < s.size
   · rw [if_pos q]; exact rhf_more (by omega) (by omega) (by omega) (by omega) A w
   · rw [if_neg q]; exact rhf_eq (by omega) (by omega) (by omega) (by omega) A w
 · rw [if_pos c]
   exact rhf_gt (by omega) (by omega) A w
theorem rne_is {s : ByteArray} {p : Int} {n : Nat} {s1 s2 : ByteArray} {p2 : Int} (g : VN s p false) (hp : p ≤ 1000) (n0 : 0 < n) (hn : n ≤ 1000000) (D : Du s p n s1 s2 p2) (w : World) :
 Calls Tryz.prog 31 #[dcV s p false, .int .i64 (n : Int)] w fun x w' => x = .returned (if n < s.size ∧ upB s false n = true then dcV s2 p2 false else dcV s1 p false) ∧ Below w.heap.size w w' := by
 have R := fun W => rrd_is g hp n0 D W
 have H := fun W => rhf_is (s := s) (p := p) n hn W
 by_cases c : n < s.size
 · rcases Nat.lt_trichotomy (dgt s n) 53 with q | q | q
   · have e : upB s false n = false := by unfold upB; rw [if_neg (by omega)]; exact decide_eq_false (by omega)
     rw [if_neg (by rw [e]; simp)]
     rw [if_neg (by omega), if_pos q] at H
     exact rne_dn R H w
   · rw [if_neg (by omega), if_neg (by omega)] at H
     by_cases q2 : n + 1 < s.size
     · have e : upB s false n = true := by unfold upB; rw [if_pos q, decide_eq_true q2]; rfl
       rw [if_pos ⟨c, e⟩]
       rw [if_pos q2] at H
       exact rne_up R H w
     · rw [if_neg q2] at H
       have A := fun W => rat_any (u := s) (o := p) (n - 1) W
       rw [show ((n - 1 : Nat) : Int) = (n : Int) - 1 by omega] at A
       have d := dgt_in g.dg (n - 1)
       by_cases od : (dgt s (n - 1) - 48) % 2 = 1
       · have e : upB s false n = true := by unfold upB; rw [if_pos q, decide_eq_true od, decide_eq_true n0]; simp
         rw [if_pos ⟨c, e⟩]
         exact rne_odd (by omega) (by omega) (by rw [Int.tmod_eq_emod_of_nonneg (by omega)]; omega) R H A w
       · have e : upB s false n = false := by unfold upB; rw [if_pos q, decide_eq_false od, decide_eq_false q2]; simp
         rw [if_neg (by rw [e]; simp)]
         exact rne_even (by omega) (by omega) (by rw [Int.tmod_eq_emod_of_nonneg (by omega)]; omega) R H A w
   · have e : upB s false n = true := by unfold upB; rw [if_neg (by omega)]; exact decide_eq_true q
     rw [if_pos ⟨c, e⟩]
     rw [if_pos q] at H
     exact rne_up R H w
 · rw [if_neg (fun z => c z.1)]
   have z : dgt s n = 48 := dgt_ge (by omega)
   rw [if_neg (by omega), if_pos (by omega)] at H
   exact rne_dn R H w
end Go.Proofs.YtohhmobfmmeohaaGreatDoor
