/-
  Holds: VBsK FxW LawFxA LawFxB.
-/
import Derived.Test.YtohhmobfmmeohaaGreatDoorRows
import Derived.Laws.Externs
import Derived.WalkKit
import Derived.WalkSpells
import Derived.WalkLawsBesides
import Derived.Lib.Mul64
import Derived.Stop.Asserts
import Derived.RowKitTokens
import Derived.Lib.Strings
import Derived.Lib.BufferWrite
import Derived.Deep.OwnRows
import Derived.Deep.RegionHeld3
import Derived.BigQuiet
import Derived.Lib.ConvBytes
import Derived.Laws.CopyOwn
import Derived.Lib.TrailingZeros
import Derived.Lib.ItoaNum
import Derived.Deep.LoopGhost
import Derived.Deep.AppendLies
import Derived.Deep.DeepCutAuto
import Derived.Test.YtohhmobfmmeohaaGreatDoorKi32
set_option maxRecDepth 100000
set_option maxHeartbeats 4000000
namespace Go.Proofs.YtohhmobfmmeohaaGreatDoor
open Go.RowKit
theorem num_nil (w : World) : Calls Tryz.prog 11 #[.nilIface] w fun e w' => e = .returned (.int .i64 0) ∧ w' = w := by
 go_enter Tryz.func11, Tryz.ntmps11
 go_wp2
 go_ret
 exact ⟨rfl, rfl⟩
theorem taNN (v : Value) (w : World) : (Instr.typeAssert (.iface 57 v) 26 57 true).run Tryz.prog w = .ok (.tuple #[v, .bool true]) w := by kernel_rfl
theorem num_errno (k : Int) (w : World) : Calls Tryz.prog 11 #[.iface 57 (.int .i64 k)] w fun e w' => e = .returned (.int .i64 k) ∧ w' = w := by
 have ta := fun W => taNN (.int .i64 k) W
 go_enter Tryz.func11, Tryz.ntmps11
 go_wp2
 go_ret
 exact ⟨rfl, rfl⟩
theorem numB_nil (w : World) : Calls Tryz.prog 11 #[.nilIface] w fun e w' => e = .returned (.int .i64 0) ∧ Below w.heap.size w w' := toB' (fun W => num_nil W) w
theorem numB_errno (k : Int) (w : World) : Calls Tryz.prog 11 #[.iface 57 (.int .i64 k)] w fun e w' => e = .returned (.int .i64 k) ∧ Below w.heap.size w w' := toB' (fun W => num_errno k W) w
theorem one_dig {c : Nat} (c1 : 49 ≤ c) (c9 : c ≤ 57) (p : Int) (h0 : -1000 ≤ p) (h1 : p ≤ 1000) {j k : Nat} (hj : c - 48 = j) (hk : (p + (R0 : Int) - 1).toNat = k) : Dx ⟨#[UInt8.ofNat c]⟩ p (j * 10 ^ k) := by
 have e : (UInt8.ofNat c).toNat = c := by
  rw [UInt8.toNat_ofNat']
  omega
 have s1 : (⟨#[UInt8.ofNat c]⟩ : ByteArray).size = 1 := rfl
 have d0 : dgt ⟨#[UInt8.ofNat c]⟩ 0 = c := by
  rw [dgt_lt (by rw [s1]; decide)]
  exact e
 have dg : DG ⟨#[UInt8.ofNat c]⟩ := fun i hi => by
  rw [← dgt_lt hi, show i = 0 by rw [s1] at hi; omega, d0]
  omega
 refine ⟨Or.inr (nf_vn ⟨by rw [s1]; decide, dg, by rw [d0]; omega, by show dgt _ 0 ≠ 48; rw [d0]; omega⟩ (by rw [s1]; decide) (by omega) (by omega)), ?_, ?_⟩
 · rw [s1]; unfold R0; omega
 · rw [s1]
   show (10 * 0 + (dgt ⟨#[UInt8.ofNat c]⟩ 0 - 48)) * _ = _
   rw [d0, Nat.mul_zero, Nat.zero_add, hj]
   rw [← hk]
   rfl
theorem dx_75 : Dx ⟨#[55, 53]⟩ 0 (75 * 10 ^ 1098) := by
 have s2 : (⟨#[55, 53]⟩ : ByteArray).size = 2 := rfl
 have dg : DG ⟨#[55, 53]⟩ := fun i hi => by
  rw [← dgt_lt hi]
  rw [s2] at hi
  rcases (by omega : i = 0 ∨ i = 1) with rfl | rfl <;> decide
 have v : pv ⟨#[55, 53]⟩ 2 = 75 := by decide +kernel
 refine ⟨Or.inr (nf_vn ⟨by rw [s2]; decide, dg, by decide, by rw [s2]; decide⟩ (by rw [s2]; decide) (by omega) (by omega)), ?_, ?_⟩
 · rw [s2]; unfold R0; omega
 · rw [s2, v, show (0 + (R0 : Int) - ((2 : Nat) : Int)).toNat = 1098 from rfl]
theorem dx_place {u : ByteArray} {o : Int} {X B : Nat} (G : Dx u o X) (h1 : 10 ^ B ≤ X) (h2 : X < 10 ^ (B + 1)) : o + (R0 : Int) = ((B + 1 : Nat) : Int) := by
 have u0 : 0 < u.size := G.pos.2 (Nat.lt_of_lt_of_le (Nat.pow_pos (by decide)) h1)
 obtain ⟨d, a, b⟩ := G.some u0
 have x1 := (Nat.pow_lt_pow_iff_right (a := 10) (by decide)).1 (Nat.lt_of_le_of_lt h1 b)
 have x2 := (Nat.pow_lt_pow_iff_right (a := 10) (by decide)).1 (Nat.lt_of_le_of_lt a h2)
 omega
theorem wk_fn1 : Fn 64 52 2047 (-1074) 9223372036854775808 9218868437227405312 4612811918334230528 := ⟨Or.inr ⟨rfl, rfl, rfl, rfl, rfl, rfl⟩, by decide, by decide +kernel⟩
theorem wk_fn2 : Fn 64 52 2047 (-1074) 9223372036854775808 9218868437227405312 4602678819172646912 := ⟨Or.inr ⟨rfl, rfl, rfl, rfl, rfl, rfl⟩, by decide, by decide +kernel⟩
theorem wk_fn3 : Fn 64 52 2047 (-1074) 9223372036854775808 9218868437227405312 4587366580439587226 := ⟨Or.inr ⟨rfl, rfl, rfl, rfl, rfl, rfl⟩, by decide, by decide +kernel⟩
theorem wk_fn4 : Fn 64 52 2047 (-1074) 9223372036854775808 9218868437227405312 4604930618986332160 := ⟨Or.inr ⟨rfl, rfl, rfl, rfl, rfl, rfl⟩, by decide, by decide +kernel⟩
theorem wk_k1 : 10 ^ 1100 ≤ (vlF 52 (-1074) (mg 9223372036854775808 4612811918334230528)) ∧ (vlF 52 (-1074) (mg 9223372036854775808 4612811918334230528)) < 10 ^ (1100 + 1) ∧ rnU (vlF 52 (-1074) (mg 9223372036854775808 4612811918334230528)) (10 ^ 1100) = 2 * 10 ^ 1100 := by decide +kernel
theorem wk_k2 : rnU (vlF 52 (-1074) (mg 9223372036854775808 4602678819172646912)) (10 ^ 1100) = 0 := by decide +kernel
theorem wk_k3 : rnU (vlF 52 (-1074) (mg 9223372036854775808 4587366580439587226)) (10 ^ 1099) = 1 * 10 ^ 1099 := by decide +kernel
theorem wk_k4 : (vlF 52 (-1074) (mg 9223372036854775808 4604930618986332160)) = 75 * 10 ^ 1098 := by decide +kernel
theorem fdg_fx {z : Int} {f T : Nat} {L : Int} {S I b : Nat} (h : Fn z f T L S I b) {u : ByteArray} {o : Int} (G : Dx u o (vlF f L (mg S b))) (o1 : o ≤ 310) {n : Int} (n0 : 1 ≤ n) (n1 : n ≤ 1101) {v : ByteArray} {k : Int} (x : Fx u o n v k) (w : World) :
 Calls Tryz.prog 7 #[.int .u64 (b : Int), .int .i64 z, .int .i64 n] w fun e w' => e = .returned (.tuple #[dcV v k false, .nilIface]) ∧ Below w.heap.size w w' :=
 fdg_ok (by omega) (by omega) (fun W => ex_is h G W) (fun W => fx_prog G (by omega) x W) w
theorem fvp_fx {z : Int} {f T : Nat} {L : Int} {S I b : Nat} (h : Fn z f T L S I b) {u : ByteArray} {o : Int} (G : Dx u o (vlF f L (mg S b))) (o0 : -1100 ≤ o) (o1 : o ≤ 310) {n : Int} (n0 : 0 ≤ n) (n1 : n ≤ 1100) {v : ByteArray} {k : Int} (x : Fx u o (o + n) v k) (w : World) :
 Calls Tryz.prog 32 #[.int .u64 (b : Int), .int .i64 z, .int .i64 n] w fun e w' => e = .returned (.tuple #[dcV u o false, dcV v k false, .nilIface]) ∧ Below w.heap.size w w' :=
 fvp_ok (by omega) (by omega) (by omega) (by omega) (fun W => ex_is h G W) (fun W => fx_prog G (by omega) x W) w
theorem fpl_fx {z : Int} {f T : Nat} {L : Int} {S I b : Nat} (h : Fn z f T L S I b) {u : ByteArray} {o : Int} (G : Dx u o (vlF f L (mg S b))) (o0 : -1100 ≤ o) (o1 : o ≤ 310) {n : Int} (n0 : 0 ≤ n) (n1 : n ≤ 1100) {v : ByteArray} {k : Int} (x : Fx u o (o + n) v k) (w : World) :
 Calls Tryz.prog 9 #[.int .u64 (b : Int), .int .i64 z, .int .i64 n] w fun e w' => e = .returned (.tuple #[dcV v k false, .nilIface]) ∧ Below w.heap.size w w' :=
 fpl_any (fun W => fvp_fx h G o0 o1 n0 n1 x W) w
theorem wk_1 (w : World) : Calls Tryz.prog 7 #[.int .u64 4612811918334230528, .int .i64 64, .int .i64 1] w fun e w' => e = .returned (.tuple #[.agg #[.string ⟨#[50]⟩, .int .i64 1, .bool false], .nilIface]) ∧ Below w.heap.size w w' := by
 obtain ⟨u, o, G, o0, o1, _⟩ := fl_dx wk_fn1
 obtain ⟨k1, k2, k3⟩ := wk_k1
 have hA := dx_place G k1 k2
 obtain ⟨v, k, x, D⟩ := fx_ex G (by omega) 1
 rw [show (o + (R0 : Int) - 1).toNat = 1100 by omega, k3] at D
 obtain ⟨rfl, rfl⟩ := D.uniq (one_dig (c := 50) (by decide) (by decide) 1 (by decide) (by decide) (j := 2) (k := 1100) rfl rfl)
 exact fdg_fx wk_fn1 G o1 (by decide) (by decide) x w
theorem wk_2 (w : World) : Calls Tryz.prog 9 #[.int .u64 4602678819172646912, .int .i64 64, .int .i64 0] w fun e w' => e = .returned (.tuple #[.agg #[.string ⟨#[]⟩, .int .i64 0, .bool false], .nilIface]) ∧ Below w.heap.size w w' := by
 obtain ⟨u, o, G, o0, o1, _⟩ := fl_dx wk_fn2
 obtain ⟨v, k, x, D⟩ := fx_ex G (by omega) (o + 0)
 rw [show (o + (R0 : Int) - (o + 0)).toNat = 1100 by unfold R0; omega, wk_k2] at D
 obtain ⟨rfl, rfl⟩ := D.uniq dx_nought
 exact fpl_fx wk_fn2 G o0 o1 (by decide) (by decide) x w
theorem wk_3 (w : World) : Calls Tryz.prog 9 #[.int .u64 4587366580439587226, .int .i64 64, .int .i64 1] w fun e w' => e = .returned (.tuple #[.agg #[.string ⟨#[49]⟩, .int .i64 0, .bool false], .nilIface]) ∧ Below w.heap.size w w' := by
 obtain ⟨u, o, G, o0, o1, _⟩ := fl_dx wk_fn3
 obtain ⟨v, k, x, D⟩ := fx_ex G (by omega) (o + 1)
 rw [show (o + (R0 : Int) - (o + 1)).toNat = 1099 by unfold R0; omega, wk_k3] at D
 obtain ⟨rfl, rfl⟩ := D.uniq (one_dig (c := 49) (by decide) (by decide) 0 (by decide) (by decide) (j := 1) (k := 1099) rfl rfl)
 exact fpl_fx wk_fn3 G o0 o1 (by decide) (by decide) x w
theorem wk_4 (w : World) : Calls Tryz.prog 13 #[.int .u64 4604930618986332160, .int .i64 64] w fun e w' => e = .returned (.tuple #[.int .i64 0, .int .i64 2, .nilIface]) ∧ Below w.heap.size w w' := by
 obtain ⟨u, o, G, o0, o1, u8⟩ := fl_dx wk_fn4
 rw [wk_k4] at G
 obtain ⟨rfl, rfl⟩ := G.uniq dx_75
 have r := fen_ok (o := 0) u8 (by decide) (by decide) (fun W => ex_is wk_fn4 (by rw [wk_k4]; exact dx_75) W) w
 exact r
theorem works22  (w : World) :
 Calls Tryz.prog 12 #[] w fun x w' => x = .returned (.bool true) ∧ Below w.heap.size w w' := by
 have F0 : Hid (Below w.heap.size w w) := Below.refl _ _
 go_enter Tryz.func12, Tryz.ntmps12
 go_wp2_with fail
 all_goals first | (exfalso; omega) | skip
 refine (wk_1 _).mono ?_
 rintro o1 w1 ⟨rfl, bb⟩
 have F1 : Hid (Below w.heap.size w w1) := (F0.out).trans (bb.mono (F0.out).size)
 clear F0
 clear bb
 have le0 := (F1.out).size
 have F2 : Hid (Bk (w1.alloc (.cells #[.string ⟨#[50]⟩, .int .i64 1, .bool false] 24)) (w1.heap.size) [.string ⟨#[50]⟩, .int .i64 1, .bool false] ∧ Below w.heap.size w (w1.alloc (.cells #[.string ⟨#[50]⟩, .int .i64 1, .bool false] 24))) := ⟨Bk.new3 w1 (.string ⟨#[50]⟩) (.int .i64 1) (.bool false) 24, (F1.out).alloc ((F1.out).size) _⟩
 clear F1
 go_upto_region 2 with fail
 generalize (w1.alloc (.cells #[.string ⟨#[50]⟩, .int .i64 1, .bool false] 24)) = w2 at *
 go_wp2_with fail
 all_goals first | (exfalso; omega) | skip
 refine (wk_2 _).mono ?_
 rintro o3 w3 ⟨rfl, bb⟩
 have F3 : Hid (Bk w3 (w1.heap.size) [.string ⟨#[50]⟩, .int .i64 1, .bool false] ∧ Below w.heap.size w w3) := ⟨(F2.out.1).step bb, (F2.out.2).trans (bb.mono (F2.out.2).size)⟩
 clear F2
 clear bb
 have lt0_1 := (F3.out.1).lt
 have le1 := (F3.out.2).size
 have F4 : Hid (Bk (w3.alloc (.cells #[.string ⟨#[]⟩, .int .i64 0, .bool false] 24)) (w1.heap.size) [.string ⟨#[50]⟩, .int .i64 1, .bool false] ∧ Bk (w3.alloc (.cells #[.string ⟨#[]⟩, .int .i64 0, .bool false] 24)) (w3.heap.size) [.string ⟨#[]⟩, .int .i64 0, .bool false] ∧ Below w.heap.size w (w3.alloc (.cells #[.string ⟨#[]⟩, .int .i64 0, .bool false] 24))) := ⟨(F3.out.1).step ((Below.refl _ _).alloc (Nat.le_refl _) _), Bk.new3 w3 (.string ⟨#[]⟩) (.int .i64 0) (.bool false) 24, (F3.out.2).alloc ((F3.out.2).size) _⟩
 clear F3
 go_upto_region 3 with fail
 generalize (w3.alloc (.cells #[.string ⟨#[]⟩, .int .i64 0, .bool false] 24)) = w4 at *
 go_wp2_with fail
 all_goals first | (exfalso; omega) | skip
 refine (wk_3 _).mono ?_
 rintro o5 w5 ⟨rfl, bb⟩
 have F5 : Hid (Bk w5 (w1.heap.size) [.string ⟨#[50]⟩, .int .i64 1, .bool false] ∧ Bk w5 (w3.heap.size) [.string ⟨#[]⟩, .int .i64 0, .bool false] ∧ Below w.heap.size w w5) := ⟨(F4.out.1).step bb, (F4.out.2.1).step bb, (F4.out.2.2).trans (bb.mono (F4.out.2.2).size)⟩
 clear F4
 clear bb
 have lt0_2 := (F5.out.1).lt
 have lt1_2 := (F5.out.2.1).lt
 have le2 := (F5.out.2.2).size
 have F6 : Hid (Bk (w5.alloc (.cells #[.string ⟨#[49]⟩, .int .i64 0, .bool false] 24)) (w1.heap.size) [.string ⟨#[50]⟩, .int .i64 1, .bool false] ∧ Bk (w5.alloc (.cells #[.string ⟨#[49]⟩, .int .i64 0, .bool false] 24)) (w3.heap.size) [.string ⟨#[]⟩, .int .i64 0, .bool false] ∧ Bk (w5.alloc (.cells #[.string ⟨#[49]⟩, .int .i64 0, .bool false] 24)) (w5.heap.size) [.string ⟨#[49]⟩, .int .i64 0, .bool false] ∧ Below w.heap.size w (w5.alloc (.cells #[.string ⟨#[49]⟩, .int .i64 0, .bool false] 24))) := ⟨(F5.out.1).step ((Below.refl _ _).alloc (Nat.le_refl _) _), (F5.out.2.1).step ((Below.refl _ _).alloc (Nat.le_refl _) _), Bk.new3 w5 (.string ⟨#[49]⟩) (.int .i64 0) (.bool false) 24, (F5.out.2.2).alloc ((F5.out.2.2).size) _⟩
 clear F5
 go_upto_region 4 with fail
 generalize (w5.alloc (.cells #[.string ⟨#[49]⟩, .int .i64 0, .bool false] 24)) = w6 at *
 go_wp2_with fail
 all_goals first | (exfalso; omega) | skip
 refine (wk_4 _).mono ?_
 rintro o7 w7 ⟨rfl, bb⟩
 have F7 : Hid (Bk w7 (w1.heap.size) [.string ⟨#[50]⟩, .int .i64 1, .bool false] ∧ Bk w7 (w3.heap.size) [.string ⟨#[]⟩, .int .i64 0, .bool false] ∧ Bk w7 (w5.heap.size) [.string ⟨#[49]⟩, .int .i64 0, .bool false] ∧ Below w.heap.size w w7) := ⟨(F6.out.1).step bb, (F6.out.2.1).step bb, (F6.out.2.2.1).step bb, (F6.out.2.2.2).trans (bb.mono (F6.out.2.2.2).size)⟩
 clear F6
 clear bb
 have l1_0 := F7.out.1.lt
 have a1_0_0 := F7.out.1.cell 0 _ rfl
 have f1_0_0 := F7.out.1.fz 0
 have a1_0_1 := F7.out.1.cell 1 _ rfl
 have f1_0_1 := F7.out.1.fz 1
 have a1_0_2 := F7.out.1.cell 2 _ rfl
 have f1_0_2 := F7.out.1.fz 2
 have l1_1 := F7.out.2.1.lt
 have a1_1_0 := F7.out.2.1.cell 0 _ rfl
 have f1_1_0 := F7.out.2.1.fz 0
 have a1_1_1 := F7.out.2.1.cell 1 _ rfl
 have f1_1_1 := F7.out.2.1.fz 1
 have a1_1_2 := F7.out.2.1.cell 2 _ rfl
 have f1_1_2 := F7.out.2.1.fz 2
 have l1_2 := F7.out.2.2.1.lt
 have a1_2_0 := F7.out.2.2.1.cell 0 _ rfl
 have f1_2_0 := F7.out.2.2.1.fz 0
 have a1_2_1 := F7.out.2.2.1.cell 1 _ rfl
 have f1_2_1 := F7.out.2.2.1.fz 1
 have a1_2_2 := F7.out.2.2.1.cell 2 _ rfl
 have f1_2_2 := F7.out.2.2.1.fz 2
 have ne1_0_1 : ¬ w1.heap.size = w3.heap.size := by omega
 have ne1_0_2 : ¬ w1.heap.size = w5.heap.size := by omega
 have ne1_1_0 : ¬ w3.heap.size = w1.heap.size := by omega
 have ne1_1_2 : ¬ w3.heap.size = w5.heap.size := by omega
 have ne1_2_0 : ¬ w5.heap.size = w1.heap.size := by omega
 have ne1_2_1 : ¬ w5.heap.size = w3.heap.size := by omega
 go_wp2
 go_ret
 exact ⟨rfl, F7.out.2.2.2⟩
theorem both_digits (b : Nat) (hb : b < 18446744073709551616) (z n : Int) : ∃ (v : ByteArray) (k : Int) (E : Value) (m : Int), (∀ W, Calls Tryz.prog 7 #[.int .u64 (b : Int), .int .i64 z, .int .i64 n] W fun e w' => e = .returned (.tuple #[dcV v k false, E]) ∧ Below W.heap.size W w') ∧ (∀ W, Calls Tryz.prog 8 #[.int .u64 (b : Int), .int .i64 z, .int .i64 n] W fun e w' => e = .returned (.tuple #[dcV v k false, .int .i64 m]) ∧ Below W.heap.size W w') ∧ (∀ W, Calls Tryz.prog 11 #[E] W fun e w' => e = .returned (.int .i64 m) ∧ Below W.heap.size W w') := by
 rcases kinds b z hb with ⟨m, h⟩ | ⟨f, T, L, S, I, h⟩
 · exact ⟨_, _, _, m, fun W => fdg_err (fun W => pex_bad h W) W, fun W => rfi_err h.not0 (fun W => rex_bad h W) W, fun W => numB_errno m W⟩
 · obtain ⟨u, o, G, o0, o1, _⟩ := fl_dx h
   by_cases c1 : n < 1
   · exact ⟨_, _, _, 8, fun W => fdg_low c1 (fun W => ex_is h G W) W, fun W => rfi_low c1 (fun W => rex_is h G W) W, fun W => numB_errno 8 W⟩
   · by_cases c2 : 1101 < n
     · exact ⟨_, _, _, 8, fun W => fdg_high c1 c2 (fun W => ex_is h G W) W, fun W => rfi_high c1 c2 (fun W => rex_is h G W) W, fun W => numB_errno 8 W⟩
     · obtain ⟨v, k, x, _⟩ := fx_ex G (by omega) n
       exact ⟨v, k, _, 0, fun W => fdg_fx h G o1 (by omega) (by omega) x W, fun W => rfi_ok c1 c2 (fun W => rex_is h G W) (fun W => fx_doc G (by omega) (by omega) x W) W, fun W => numB_nil W⟩
theorem rpl_fx {z : Int} {f T : Nat} {L : Int} {S I b : Nat} (h : Fn z f T L S I b) {u : ByteArray} {o : Int} (G : Dx u o (vlF f L (mg S b))) (o0 : -1100 ≤ o) (o1 : o ≤ 310) {n : Int} (n0 : 0 ≤ n) (n1 : n ≤ 1100) {v : ByteArray} {k : Int} (x : Fx u o (o + n) v k) (w : World) :
 Calls Tryz.prog 10 #[.int .u64 (b : Int), .int .i64 z, .int .i64 n] w fun e w' => e = .returned (.tuple #[dcV v k false, .int .i64 0]) ∧ Below w.heap.size w w' :=
 rpl_ok (by omega) (by omega) (by omega) (by omega) (fun W => rex_is h G W) (fun W => fx_doc G (by omega) (by omega) x W) w
theorem both_places (b : Nat) (hb : b < 18446744073709551616) (z n : Int) : ∃ (v : ByteArray) (k : Int) (B : Bool) (E : Value) (m : Int), (∀ W, Calls Tryz.prog 9 #[.int .u64 (b : Int), .int .i64 z, .int .i64 n] W fun e w' => e = .returned (.tuple #[dcV v k false, E]) ∧ Below W.heap.size W w') ∧ (∀ W, Calls Tryz.prog 10 #[.int .u64 (b : Int), .int .i64 z, .int .i64 n] W fun e w' => e = .returned (.tuple #[dcV v k false, .int .i64 m]) ∧ Below W.heap.size W w') ∧ (∀ W, Calls Tryz.prog 15 #[.int .u64 (b : Int), .int .i64 z, .int .i64 n] W fun e w' => e = .returned (.tuple #[.bool B, E]) ∧ Below W.heap.size W w') ∧ (∀ W, Calls Tryz.prog 16 #[.int .u64 (b : Int), .int .i64 z, .int .i64 n] W fun e w' => e = .returned (.tuple #[.bool B, .int .i64 m]) ∧ Below W.heap.size W w') ∧ (∀ W, Calls Tryz.prog 11 #[E] W fun e w' => e = .returned (.int .i64 m) ∧ Below W.heap.size W w') := by
 rcases kinds b z hb with ⟨m, h⟩ | ⟨f, T, L, S, I, h⟩
 · have HV := fun W => fvp_err (n := n) (fun W => pex_bad h W) W
   have HP := fun W => rpl_err (n := n) h.not0 (fun W => rex_bad h W) W
   exact ⟨_, _, _, _, m, fun W => fpl_any HV W, HP, fun W => fxa_err HV W, fun W => rxa_err h.not0 HP W, fun W => numB_errno m W⟩
 · obtain ⟨u, o, G, o0, o1, _⟩ := fl_dx h
   by_cases c1 : n < 0
   · have HV := fun W => fvp_low c1 (fun W => ex_is h G W) W
     have HP := fun W => rpl_low c1 (fun W => rex_is h G W) W
     exact ⟨_, _, _, _, 8, fun W => fpl_any HV W, HP, fun W => fxa_err HV W, fun W => rxa_err rfl HP W, fun W => numB_errno 8 W⟩
   · by_cases c2 : 1100 < n
     · have HV := fun W => fvp_high c1 c2 (fun W => ex_is h G W) W
       have HP := fun W => rpl_high c1 c2 (fun W => rex_is h G W) W
       exact ⟨_, _, _, _, 8, fun W => fpl_any HV W, HP, fun W => fxa_err HV W, fun W => rxa_err rfl HP W, fun W => numB_errno 8 W⟩
     · obtain ⟨v, k, x, _⟩ := fx_ex G (by omega) (o + n)
       have HV := fun W => fvp_fx h G o0 o1 (by omega) (by omega) x W
       have HP := fun W => rpl_fx h G o0 o1 (by omega) (by omega) x W
       exact ⟨v, k, exB v k u o, _, 0, fun W => fpl_any HV W, HP, fun W => fxa_is HV W, fun W => rxa_is HP (fun W => rex_is h G W) W, fun W => numB_nil W⟩
theorem both_ends (b : Nat) (hb : b < 18446744073709551616) (z : Int) : ∃ (x y : Int) (E : Value) (m : Int), (∀ W, Calls Tryz.prog 13 #[.int .u64 (b : Int), .int .i64 z] W fun e w' => e = .returned (.tuple #[.int .i64 x, .int .i64 y, E]) ∧ Below W.heap.size W w') ∧ (∀ W, Calls Tryz.prog 14 #[.int .u64 (b : Int), .int .i64 z] W fun e w' => e = .returned (.tuple #[.int .i64 x, .int .i64 y, .int .i64 m]) ∧ Below W.heap.size W w') ∧ (∀ W, Calls Tryz.prog 11 #[E] W fun e w' => e = .returned (.int .i64 m) ∧ Below W.heap.size W w') := by
 rcases kinds b z hb with ⟨m, h⟩ | ⟨f, T, L, S, I, h⟩
 · exact ⟨_, _, _, m, fun W => fen_err (fun W => pex_bad h W) W, fun W => ren_err h.not0 (fun W => rex_bad h W) W, fun W => numB_errno m W⟩
 · obtain ⟨u, o, G, o0, o1, u8⟩ := fl_dx h
   exact ⟨_, _, _, 0, fun W => fen_ok u8 (by omega) (by omega) (fun W => ex_is h G W) W, fun W => ren_ok u8 (by omega) (by omega) (fun W => rex_is h G W) W, fun W => numB_nil W⟩
theorem rounds_walk {b z n : Int} {d1 p1 : ByteArray} {d2 p2 n1 n2 : Int} {E1 E2 : Value} (HD : ∀ W, Calls Tryz.prog 7 #[.int .u64 b, .int .i64 z, .int .i64 n] W fun e w' => e = .returned (.tuple #[.agg #[.string d1, .int .i64 d2, .bool false], E1]) ∧ Below W.heap.size W w') (HF : ∀ W, Calls Tryz.prog 8 #[.int .u64 b, .int .i64 z, .int .i64 n] W fun e w' => e = .returned (.tuple #[.agg #[.string d1, .int .i64 d2, .bool false], .int .i64 n1]) ∧ Below W.heap.size W w') (HP : ∀ W, Calls Tryz.prog 9 #[.int .u64 b, .int .i64 z, .int .i64 n] W fun e w' => e = .returned (.tuple #[.agg #[.string p1, .int .i64 p2, .bool false], E2]) ∧ Below W.heap.size W w') (HQ : ∀ W, Calls Tryz.prog 10 #[.int .u64 b, .int .i64 z, .int .i64 n] W fun e w' => e = .returned (.tuple #[.agg #[.string p1, .int .i64 p2, .bool false], .int .i64 n2]) ∧ Below W.heap.size W w') (N1 : ∀ W, Calls Tryz.prog 11 #[E1] W fun e w' => e = .returned (.int .i64 n1) ∧ Below W.heap.size W w') (N2 : ∀ W, Calls Tryz.prog 11 #[E2] W fun e w' => e = .returned (.int .i64 n2) ∧ Below W.heap.size W w') (w : World) :
 Calls Tryz.prog 3 #[.int .u64 b, .int .i64 z, .int .i64 n] w fun x w' => x = .returned (.bool true) ∧ Below w.heap.size w w' := by
 have F0 : Hid (Below w.heap.size w w) := Below.refl _ _
 go_enter Tryz.func3, Tryz.ntmps3
 go_wp2_with fail
 all_goals first | (exfalso; omega) | skip
 refine (HD _).mono ?_
 rintro o1 w1 ⟨rfl, bb⟩
 have F1 : Hid (Below w.heap.size w w1) := (F0.out).trans (bb.mono (F0.out).size)
 clear F0
 clear bb
 have le0 := (F1.out).size
 have F2 : Hid (Bk (w1.alloc (.cells #[.string d1, .int .i64 d2, .bool false] 24)) (w1.heap.size) [.string d1, .int .i64 d2, .bool false] ∧ Below w.heap.size w (w1.alloc (.cells #[.string d1, .int .i64 d2, .bool false] 24))) := ⟨Bk.new3 w1 (.string d1) (.int .i64 d2) (.bool false) 24, (F1.out).alloc ((F1.out).size) _⟩
 clear F1
 go_upto_region 2 with fail
 generalize (w1.alloc (.cells #[.string d1, .int .i64 d2, .bool false] 24)) = w2 at *
 go_wp2_with fail
 all_goals first | (exfalso; omega) | skip
 refine (HF _).mono ?_
 rintro o3 w3 ⟨rfl, bb⟩
 have F3 : Hid (Bk w3 (w1.heap.size) [.string d1, .int .i64 d2, .bool false] ∧ Below w.heap.size w w3) := ⟨(F2.out.1).step bb, (F2.out.2).trans (bb.mono (F2.out.2).size)⟩
 clear F2
 clear bb
 have lt0_1 := (F3.out.1).lt
 have le1 := (F3.out.2).size
 have F4 : Hid (Bk (w3.alloc (.cells #[.string d1, .int .i64 d2, .bool false] 24)) (w1.heap.size) [.string d1, .int .i64 d2, .bool false] ∧ Bk (w3.alloc (.cells #[.string d1, .int .i64 d2, .bool false] 24)) (w3.heap.size) [.string d1, .int .i64 d2, .bool false] ∧ Below w.heap.size w (w3.alloc (.cells #[.string d1, .int .i64 d2, .bool false] 24))) := ⟨(F3.out.1).step ((Below.refl _ _).alloc (Nat.le_refl _) _), Bk.new3 w3 (.string d1) (.int .i64 d2) (.bool false) 24, (F3.out.2).alloc ((F3.out.2).size) _⟩
 clear F3
 go_upto_region 3 with fail
 generalize (w3.alloc (.cells #[.string d1, .int .i64 d2, .bool false] 24)) = w4 at *
 go_wp2_with fail
 all_goals first | (exfalso; omega) | skip
 refine (HP _).mono ?_
 rintro o5 w5 ⟨rfl, bb⟩
 have F5 : Hid (Bk w5 (w1.heap.size) [.string d1, .int .i64 d2, .bool false] ∧ Bk w5 (w3.heap.size) [.string d1, .int .i64 d2, .bool false] ∧ Below w.heap.size w w5) := ⟨(F4.out.1).step bb, (F4.out.2.1).step bb, (F4.out.2.2).trans (bb.mono (F4.out.2.2).size)⟩
 clear F4
 clear bb
 have lt0_2 := (F5.out.1).lt
 have lt1_2 := (F5.out.2.1).lt
 have le2 := (F5.out.2.2).size
 have F6 : Hid (Bk (w5.alloc (.cells #[.string p1, .int .i64 p2, .bool false] 24)) (w1.heap.size) [.string d1, .int .i64 d2, .bool false] ∧ Bk (w5.alloc (.cells #[.string p1, .int .i64 p2, .bool false] 24)) (w3.heap.size) [.string d1, .int .i64 d2, .bool false] ∧ Bk (w5.alloc (.cells #[.string p1, .int .i64 p2, .bool false] 24)) (w5.heap.size) [.string p1, .int .i64 p2, .bool false] ∧ Below w.heap.size w (w5.alloc (.cells #[.string p1, .int .i64 p2, .bool false] 24))) := ⟨(F5.out.1).step ((Below.refl _ _).alloc (Nat.le_refl _) _), (F5.out.2.1).step ((Below.refl _ _).alloc (Nat.le_refl _) _), Bk.new3 w5 (.string p1) (.int .i64 p2) (.bool false) 24, (F5.out.2.2).alloc ((F5.out.2.2).size) _⟩
 clear F5
 go_upto_region 4 with fail
 generalize (w5.alloc (.cells #[.string p1, .int .i64 p2, .bool false] 24)) = w6 at *
 go_wp2_with fail
 all_goals first | (exfalso; omega) | skip
 refine (HQ _).mono ?_
 rintro o7 w7 ⟨rfl, bb⟩
 have F7 : Hid (Bk w7 (w1.heap.size) [.string d1, .int .i64 d2, .bool false] ∧ Bk w7 (w3.heap.size) [.string d1, .int .i64 d2, .bool false] ∧ Bk w7 (w5.heap.size) [.string p1, .int .i64 p2, .bool false] ∧ Below w.heap.size w w7) := ⟨(F6.out.1).step bb, (F6.out.2.1).step bb, (F6.out.2.2.1).step bb, (F6.out.2.2.2).trans (bb.mono (F6.out.2.2.2).size)⟩
 clear F6
 clear bb
 have lt0_3 := (F7.out.1).lt
 have lt1_3 := (F7.out.2.1).lt
 have lt2_3 := (F7.out.2.2.1).lt
 have le3 := (F7.out.2.2.2).size
 have F8 : Hid (Bk (w7.alloc (.cells #[.string p1, .int .i64 p2, .bool false] 24)) (w1.heap.size) [.string d1, .int .i64 d2, .bool false] ∧ Bk (w7.alloc (.cells #[.string p1, .int .i64 p2, .bool false] 24)) (w3.heap.size) [.string d1, .int .i64 d2, .bool false] ∧ Bk (w7.alloc (.cells #[.string p1, .int .i64 p2, .bool false] 24)) (w5.heap.size) [.string p1, .int .i64 p2, .bool false] ∧ Bk (w7.alloc (.cells #[.string p1, .int .i64 p2, .bool false] 24)) (w7.heap.size) [.string p1, .int .i64 p2, .bool false] ∧ Below w.heap.size w (w7.alloc (.cells #[.string p1, .int .i64 p2, .bool false] 24))) := ⟨(F7.out.1).step ((Below.refl _ _).alloc (Nat.le_refl _) _), (F7.out.2.1).step ((Below.refl _ _).alloc (Nat.le_refl _) _), (F7.out.2.2.1).step ((Below.refl _ _).alloc (Nat.le_refl _) _), Bk.new3 w7 (.string p1) (.int .i64 p2) (.bool false) 24, (F7.out.2.2.2).alloc ((F7.out.2.2.2).size) _⟩
 clear F7
 go_upto_region 5 with fail
 generalize (w7.alloc (.cells #[.string p1, .int .i64 p2, .bool false] 24)) = w8 at *
 have l1_0 := F8.out.1.lt
 have a1_0_0 := F8.out.1.cell 0 _ rfl
 have f1_0_0 := F8.out.1.fz 0
 have a1_0_1 := F8.out.1.cell 1 _ rfl
 have f1_0_1 := F8.out.1.fz 1
 have a1_0_2 := F8.out.1.cell 2 _ rfl
 have f1_0_2 := F8.out.1.fz 2
 have l1_1 := F8.out.2.1.lt
 have a1_1_0 := F8.out.2.1.cell 0 _ rfl
 have f1_1_0 := F8.out.2.1.fz 0
 have a1_1_1 := F8.out.2.1.cell 1 _ rfl
 have f1_1_1 := F8.out.2.1.fz 1
 have a1_1_2 := F8.out.2.1.cell 2 _ rfl
 have f1_1_2 := F8.out.2.1.fz 2
 have l1_2 := F8.out.2.2.1.lt
 have a1_2_0 := F8.out.2.2.1.cell 0 _ rfl
 have f1_2_0 := F8.out.2.2.1.fz 0
 have a1_2_1 := F8.out.2.2.1.cell 1 _ rfl
 have f1_2_1 := F8.out.2.2.1.fz 1
 have a1_2_2 := F8.out.2.2.1.cell 2 _ rfl
 have f1_2_2 := F8.out.2.2.1.fz 2
 have l1_3 := F8.out.2.2.2.1.lt
 have a1_3_0 := F8.out.2.2.2.1.cell 0 _ rfl
 have f1_3_0 := F8.out.2.2.2.1.fz 0
 have a1_3_1 := F8.out.2.2.2.1.cell 1 _ rfl
 have f1_3_1 := F8.out.2.2.2.1.fz 1
 have a1_3_2 := F8.out.2.2.2.1.cell 2 _ rfl
 have f1_3_2 := F8.out.2.2.2.1.fz 2
 have ne1_0_1 : ¬ w1.heap.size = w3.heap.size := by omega
 have ne1_0_2 : ¬ w1.heap.size = w5.heap.size := by omega
 have ne1_0_3 : ¬ w1.heap.size = w7.heap.size := by omega
 have ne1_1_0 : ¬ w3.heap.size = w1.heap.size := by omega
 have ne1_1_2 : ¬ w3.heap.size = w5.heap.size := by omega
 have ne1_1_3 : ¬ w3.heap.size = w7.heap.size := by omega
 have ne1_2_0 : ¬ w5.heap.size = w1.heap.size := by omega
 have ne1_2_1 : ¬ w5.heap.size = w3.heap.size := by omega
 have ne1_2_3 : ¬ w5.heap.size = w7.heap.size := by omega
 have ne1_3_0 : ¬ w7.heap.size = w1.heap.size := by omega
 have ne1_3_1 : ¬ w7.heap.size = w3.heap.size := by omega
 have ne1_3_2 : ¬ w7.heap.size = w5.heap.size := by omega
 go_wp2_with fail
 all_goals first | (exfalso; omega) | skip
 refine (N1 _).mono ?_
 rintro o9 w9 ⟨rfl, bb⟩
 have F9 : Hid (Bk w9 (w1.heap.size) [.string d1, .int .i64 d2, .bool false] ∧ Bk w9 (w3.heap.size) [.string d1, .int .i64 d2, .bool false] ∧ Bk w9 (w5.heap.size) [.string p1, .int .i64 p2, .bool false] ∧ Bk w9 (w7.heap.size) [.string p1, .int .i64 p2, .bool false] ∧ Below w.heap.size w w9) := ⟨(F8.out.1).step bb, (F8.out.2.1).step bb, (F8.out.2.2.1).step bb, (F8.out.2.2.2.1).step bb, (F8.out.2.2.2.2).trans (bb.mono (F8.out.2.2.2.2).size)⟩
 clear F8
 clear bb
 clear l1_0 a1_0_0 f1_0_0 a1_0_1 f1_0_1 a1_0_2 f1_0_2 l1_1 a1_1_0 f1_1_0 a1_1_1 f1_1_1 a1_1_2 f1_1_2 l1_2 a1_2_0 f1_2_0 a1_2_1 f1_2_1 a1_2_2 f1_2_2 l1_3 a1_3_0 f1_3_0 a1_3_1 f1_3_1 a1_3_2 f1_3_2
 have l2_0 := F9.out.1.lt
 have a2_0_0 := F9.out.1.cell 0 _ rfl
 have f2_0_0 := F9.out.1.fz 0
 have a2_0_1 := F9.out.1.cell 1 _ rfl
 have f2_0_1 := F9.out.1.fz 1
 have a2_0_2 := F9.out.1.cell 2 _ rfl
 have f2_0_2 := F9.out.1.fz 2
 have l2_1 := F9.out.2.1.lt
 have a2_1_0 := F9.out.2.1.cell 0 _ rfl
 have f2_1_0 := F9.out.2.1.fz 0
 have a2_1_1 := F9.out.2.1.cell 1 _ rfl
 have f2_1_1 := F9.out.2.1.fz 1
 have a2_1_2 := F9.out.2.1.cell 2 _ rfl
 have f2_1_2 := F9.out.2.1.fz 2
 have l2_2 := F9.out.2.2.1.lt
 have a2_2_0 := F9.out.2.2.1.cell 0 _ rfl
 have f2_2_0 := F9.out.2.2.1.fz 0
 have a2_2_1 := F9.out.2.2.1.cell 1 _ rfl
 have f2_2_1 := F9.out.2.2.1.fz 1
 have a2_2_2 := F9.out.2.2.1.cell 2 _ rfl
 have f2_2_2 := F9.out.2.2.1.fz 2
 have l2_3 := F9.out.2.2.2.1.lt
 have a2_3_0 := F9.out.2.2.2.1.cell 0 _ rfl
 have f2_3_0 := F9.out.2.2.2.1.fz 0
 have a2_3_1 := F9.out.2.2.2.1.cell 1 _ rfl
 have f2_3_1 := F9.out.2.2.2.1.fz 1
 have a2_3_2 := F9.out.2.2.2.1.cell 2 _ rfl
 have f2_3_2 := F9.out.2.2.2.1.fz 2
 have ne2_0_1 : ¬ w1.heap.size = w3.heap.size := by omega
 have ne2_0_2 : ¬ w1.heap.size = w5.heap.size := by omega
 have ne2_0_3 : ¬ w1.heap.size = w7.heap.size := by omega
 have ne2_1_0 : ¬ w3.heap.size = w1.heap.size := by omega
 have ne2_1_2 : ¬ w3.heap.size = w5.heap.size := by omega
 have ne2_1_3 : ¬ w3.heap.size = w7.heap.size := by omega
 have ne2_2_0 : ¬ w5.heap.size = w1.heap.size := by omega
 have ne2_2_1 : ¬ w5.heap.size = w3.heap.size := by omega
 have ne2_2_3 : ¬ w5.heap.size = w7.heap.size := by omega
 have ne2_3_0 : ¬ w7.heap.size = w1.heap.size := by omega
 have ne2_3_1 : ¬ w7.heap.size = w3.heap.size := by omega
 have ne2_3_2 : ¬ w7.heap.size = w5.heap.size := by omega
 go_wp2_with fail
 all_goals first | (exfalso; omega) | skip
 refine (N2 _).mono ?_
 rintro o10 w10 ⟨rfl, bb⟩
 have F10 : Hid (Bk w10 (w1.heap.size) [.string d1, .int .i64 d2, .bool false] ∧ Bk w10 (w3.heap.size) [.string d1, .int .i64 d2, .bool false] ∧ Bk w10 (w5.heap.size) [.string p1, .int .i64 p2, .bool false] ∧ Bk w10 (w7.heap.size) [.string p1, .int .i64 p2, .bool false] ∧ Below w.heap.size w w10) := ⟨(F9.out.1).step bb, (F9.out.2.1).step bb, (F9.out.2.2.1).step bb, (F9.out.2.2.2.1).step bb, (F9.out.2.2.2.2).trans (bb.mono (F9.out.2.2.2.2).size)⟩
 clear F9
 clear bb
 clear l2_0 a2_0_0 f2_0_0 a2_0_1 f2_0_1 a2_0_2 f2_0_2 l2_1 a2_1_0 f2_1_0 a2_1_1 f2_1_1 a2_1_2 f2_1_2 l2_2 a2_2_0 f2_2_0 a2_2_1 f2_2_1 a2_2_2 f2_2_2 l2_3 a2_3_0 f2_3_0 a2_3_1 f2_3_1 a2_3_2 f2_3_2
 have l3_0 := F10.out.1.lt
 have a3_0_0 := F10.out.1.cell 0 _ rfl
 have f3_0_0 := F10.out.1.fz 0
 have a3_0_1 := F10.out.1.cell 1 _ rfl
 have f3_0_1 := F10.out.1.fz 1
 have a3_0_2 := F10.out.1.cell 2 _ rfl
 have f3_0_2 := F10.out.1.fz 2
 have l3_1 := F10.out.2.1.lt
 have a3_1_0 := F10.out.2.1.cell 0 _ rfl
 have f3_1_0 := F10.out.2.1.fz 0
 have a3_1_1 := F10.out.2.1.cell 1 _ rfl
 have f3_1_1 := F10.out.2.1.fz 1
 have a3_1_2 := F10.out.2.1.cell 2 _ rfl
 have f3_1_2 := F10.out.2.1.fz 2
 have l3_2 := F10.out.2.2.1.lt
 have a3_2_0 := F10.out.2.2.1.cell 0 _ rfl
 have f3_2_0 := F10.out.2.2.1.fz 0
 have a3_2_1 := F10.out.2.2.1.cell 1 _ rfl
 have f3_2_1 := F10.out.2.2.1.fz 1
 have a3_2_2 := F10.out.2.2.1.cell 2 _ rfl
 have f3_2_2 := F10.out.2.2.1.fz 2
 have l3_3 := F10.out.2.2.2.1.lt
 have a3_3_0 := F10.out.2.2.2.1.cell 0 _ rfl
 have f3_3_0 := F10.out.2.2.2.1.fz 0
 have a3_3_1 := F10.out.2.2.2.1.cell 1 _ rfl
 have f3_3_1 := F10.out.2.2.2.1.fz 1
 have a3_3_2 := F10.out.2.2.2.1.cell 2 _ rfl
 have f3_3_2 := F10.out.2.2.2.1.fz 2
 have ne3_0_1 : ¬ w1.heap.size = w3.heap.size := by omega
 have ne3_0_2 : ¬ w1.heap.size = w5.heap.size := by omega
 have ne3_0_3 : ¬ w1.heap.size = w7.heap.size := by omega
 have ne3_1_0 : ¬ w3.heap.size = w1.heap.size := by omega
 have ne3_1_2 : ¬ w3.heap.size = w5.heap.size := by omega
 have ne3_1_3 : ¬ w3.heap.size = w7.heap.size := by omega
 have ne3_2_0 : ¬ w5.heap.size = w1.heap.size := by omega
 have ne3_2_1 : ¬ w5.heap.size = w3.heap.size := by omega
 have ne3_2_3 : ¬ w5.heap.size = w7.heap.size := by omega
 have ne3_3_0 : ¬ w7.heap.size = w1.heap.size := by omega
 have ne3_3_1 : ¬ w7.heap.size = w3.heap.size := by omega
 have ne3_3_2 : ¬ w7.heap.size = w5.heap.size := by omega
 go_wp2_with fail
 all_goals first | (exfalso; omega) | skip
 refine (works22 _).mono ?_
 rintro o11 w11 ⟨rfl, bb⟩
 have F11 : Hid (Bk w11 (w1.heap.size) [.string d1, .int .i64 d2, .bool false] ∧ Bk w11 (w3.heap.size) [.string d1, .int .i64 d2, .bool false] ∧ Bk w11 (w5.heap.size) [.string p1, .int .i64 p2, .bool false] ∧ Bk w11 (w7.heap.size) [.string p1, .int .i64 p2, .bool false] ∧ Below w.heap.size w w11) := ⟨(F10.out.1).step bb, (F10.out.2.1).step bb, (F10.out.2.2.1).step bb, (F10.out.2.2.2.1).step bb, (F10.out.2.2.2.2).trans (bb.mono (F10.out.2.2.2.2).size)⟩
 clear F10
 clear bb
 go_wp2
 go_ret
 exact ⟨rfl, F11.out.2.2.2.2⟩
theorem law_rounds (b : Nat) (hb : b < 18446744073709551616) (z n : Int) (w : World) :
 Calls Tryz.prog 3 #[.int .u64 (b : Int), .int .i64 z, .int .i64 n] w fun x w' => x = .returned (.bool true) ∧ Below w.heap.size w w' := by
 obtain ⟨v, k, E, m, h1, h2, h3⟩ := both_digits b hb z n
 obtain ⟨v', k', _, E', m', g1, g2, _, _, g3⟩ := both_places b hb z n
 exact rounds_walk h1 h2 g1 g2 h3 g3 w
theorem ends_walk {b z n x1 y1 n1 n2 : Int} {B : Bool} {E1 E2 : Value} (HE : ∀ W, Calls Tryz.prog 13 #[.int .u64 b, .int .i64 z] W fun e w' => e = .returned (.tuple #[.int .i64 x1, .int .i64 y1, E1]) ∧ Below W.heap.size W w') (HR : ∀ W, Calls Tryz.prog 14 #[.int .u64 b, .int .i64 z] W fun e w' => e = .returned (.tuple #[.int .i64 x1, .int .i64 y1, .int .i64 n1]) ∧ Below W.heap.size W w') (HX : ∀ W, Calls Tryz.prog 15 #[.int .u64 b, .int .i64 z, .int .i64 n] W fun e w' => e = .returned (.tuple #[.bool B, E2]) ∧ Below W.heap.size W w') (HY : ∀ W, Calls Tryz.prog 16 #[.int .u64 b, .int .i64 z, .int .i64 n] W fun e w' => e = .returned (.tuple #[.bool B, .int .i64 n2]) ∧ Below W.heap.size W w') (N1 : ∀ W, Calls Tryz.prog 11 #[E1] W fun e w' => e = .returned (.int .i64 n1) ∧ Below W.heap.size W w') (N2 : ∀ W, Calls Tryz.prog 11 #[E2] W fun e w' => e = .returned (.int .i64 n2) ∧ Below W.heap.size W w') (w : World) :
 Calls Tryz.prog 4 #[.int .u64 b, .int .i64 z, .int .i64 n] w fun x w' => x = .returned (.bool true) ∧ Below w.heap.size w w' := by
 have F0 : Hid (Below w.heap.size w w) := Below.refl _ _
 go_enter Tryz.func4, Tryz.ntmps4
 go_wp2_with fail
 all_goals first | (exfalso; omega) | skip
 refine (HE _).mono ?_
 rintro o1 w1 ⟨rfl, bb⟩
 have F1 : Hid (Below w.heap.size w w1) := (F0.out).trans (bb.mono (F0.out).size)
 clear F0
 clear bb
 go_wp2_with fail
 all_goals first | (exfalso; omega) | skip
 refine (HR _).mono ?_
 rintro o2 w2 ⟨rfl, bb⟩
 have F2 : Hid (Below w.heap.size w w2) := (F1.out).trans (bb.mono (F1.out).size)
 clear F1
 clear bb
 go_wp2_with fail
 all_goals first | (exfalso; omega) | skip
 refine (HX _).mono ?_
 rintro o3 w3 ⟨rfl, bb⟩
 have F3 : Hid (Below w.heap.size w w3) := (F2.out).trans (bb.mono (F2.out).size)
 clear F2
 clear bb
 go_wp2_with fail
 all_goals first | (exfalso; omega) | skip
 refine (HY _).mono ?_
 rintro o4 w4 ⟨rfl, bb⟩
 have F4 : Hid (Below w.heap.size w w4) := (F3.out).trans (bb.mono (F3.out).size)
 clear F3
 clear bb
 go_wp2_with fail
 all_goals first | (exfalso; omega) | skip
 refine (N1 _).mono ?_
 rintro o5 w5 ⟨rfl, bb⟩
 have F5 : Hid (Below w.heap.size w w5) := (F4.out).trans (bb.mono (F4.out).size)
 clear F4
 clear bb
 go_wp2_with fail
 all_goals first | (exfalso; omega) | skip
 refine (N2 _).mono ?_
 rintro o6 w6 ⟨rfl, bb⟩
 have F6 : Hid (Below w.heap.size w w6) := (F5.out).trans (bb.mono (F5.out).size)
 clear F5
 clear bb
 go_wp2_with fail
 all_goals first | (exfalso; omega) | skip
 refine (works22 _).mono ?_
 rintro o7 w7 ⟨rfl, bb⟩
 have F7 : Hid (Below w.heap.size w w7) := (F6.out).trans (bb.mono (F6.out).size)
 clear F6
 clear bb
 go_wp2
 go_ret
 exact ⟨rfl, F7.out⟩
theorem law_ends (b : Nat) (hb : b < 18446744073709551616) (z n : Int) (w : World) :
 Calls Tryz.prog 4 #[.int .u64 (b : Int), .int .i64 z, .int .i64 n] w fun x w' => x = .returned (.bool true) ∧ Below w.heap.size w w' := by
 obtain ⟨x, y, E, m, h1, h2, h3⟩ := both_ends b hb z
 obtain ⟨_, _, B, E', m', _, _, g1, g2, g3⟩ := both_places b hb z n
 exact ends_walk h1 h2 g1 g2 h3 g3 w
end Go.Proofs.YtohhmobfmmeohaaGreatDoor
