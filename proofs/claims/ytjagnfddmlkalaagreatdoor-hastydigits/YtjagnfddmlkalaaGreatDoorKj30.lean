/-
  Holds: VWide1 QkF HaS HaZ.
-/
import Derived.Test.YtjagnfddmlkalaaGreatDoorRows
import Derived.Laws.Externs
import Derived.WalkKit
import Derived.WalkSpells
import Derived.WalkLawsBesides
import Derived.Lib.Mul64
import Derived.Stop.Asserts
import Derived.RowKitTokens
import Derived.Lib.Strings
import Derived.Lib.BufferWrite
import Derived.Deep.OwnRows
import Derived.Deep.RegionHeld3
import Derived.BigQuiet
import Derived.Lib.ConvBytes
import Derived.Laws.CopyOwn
import Derived.Lib.TrailingZeros
import Derived.Lib.ItoaNum
import Derived.Deep.LoopGhost
import Derived.Deep.AppendLies
import Derived.Deep.DeepCutAuto
import Derived.Test.YtjagnfddmlkalaaGreatDoorShelf
import Derived.Test.YtjagnfddmlkalaaGreatDoorKj28
import Derived.Test.YtjagnfddmlkalaaGreatDoorKj29
set_option maxRecDepth 100000
set_option maxHeartbeats 4000000
namespace Go.Proofs.YtjagnfddmlkalaaGreatDoor
open Go.RowKit
theorem wadd_any (ah al bh bl : Int) (h1 : Word ah) (h2 : Word al) (h3 : Word bh) (h4 : Word bl) (w : World) :
 Calls Tryz.prog 71 #[.agg #[.int .u64 ah, .int .u64 al], .agg #[.int .u64 bh, .int .u64 bl]] w fun e w' =>
  e = .returned (.tuple #[.agg #[.int .u64 (sHi ah al bh bl), .int .u64 (sLo al bl)], .bool (sOv ah al bh bl)]) ∧ Below w.heap.size w w' := by
 have k := a3C_01 h2 h4 (Int.le_refl 0) (by omega : (0:Int) ≤ 1)
 go_enter Tryz.func71, Tryz.ntmps71
 go_wp2_with (first | simp only [add64 al bl 0 h2 h4 (Int.le_refl 0) (by omega : (0:Int) ≤ 1)] | simp only [add64 ah bh _ h1 h3 k.1 k.2])
 exact bodyPost_ret (v := .tuple #[.agg #[.int .u64 (sHi ah al bh bl), .int .u64 (sLo al bl)], .bool (sOv ah al bh bl)]) (by simp [results, Tryz.results71, go_sem, sHi, sLo, sOv]) rfl ⟨rfl, (((Below.refl _ _).alloc (Nat.le_refl _) _).alloc (by simp) _).alloc (by simp; omega) _⟩
end Go.Proofs.YtjagnfddmlkalaaGreatDoor
namespace Go.Proofs.YtjagnfddmlkalaaGreatDoor
open Go.Shelf Go.RowKit Go.Sort Go.Lib
theorem ufmt_in (u : Nat) (h0 : 1 ≤ u) (h64 : u < 18446744073709551616) (w : World) (hp : Pow w) :
 Calls Tryz.prog 121 #[.int .u64 u, .int .i64 10] w fun e w' => e = .returned (.string (tenT u)) ∧ ∃ k os, w' = grow (w.drewN k) os := by
 unfold tenT
 by_cases hs : u < 100
 · have SM := fun W => small_call u hs W
   go_enter Tryz.func121, Tryz.ntmps121
   go_wp2_with fail
   refine (SM _).mono ?_
   rintro e w' ⟨rfl, rfl⟩
   go_wp2
   go_ret
   exact ⟨rfl, 0, #[], by simp [World.drewN_zero]⟩
 · have hnd20 : Lib.nDigits u ≤ 20 := by have := Lib.numDigits_eq u h0 h64; split at this <;> omega
   have hb3 : Lib.nDigits u ≤ 24 := by omega
   have hal : Tryz.prog.arrayLen 203 = 24 := by simp [Program.arrayLen, Tryz.underlying203]
   have hsl : ∀ W, (Instr.sliceAt 203 (.pointer (some ⟨w.heap.size, 0, none⟩)) none (some (.int .i64 (Lib.nDigits u : Int))) none).run Tryz.prog W = .ok (.slice (some ⟨w.heap.size, 0, none⟩) (Lib.nDigits u) 24) W := fun W => by
    rw [run_sliceAt_array_h W 203 ⟨w.heap.size, 0, none⟩ (by simp [Program.arrayLen, Program.elem, Tryz.underlying203]) .i64 (Lib.nDigits u : Int) (by omega) (by rw [hal]; omega)]
    go_simp
   have hH0 : Holds (fun (b : UInt8) => Value.int .u8 (b.toNat : Int)) (w.alloc (.cells Lib.zeros24 203)) w.heap.size 0 (Array.replicate (Lib.nDigits u) (0 : UInt8)) := fun j hj => by
    have hj' : j < Lib.nDigits u := by simpa using hj
    refine ⟨?_, World.frozen?_alloc_new _ _ _ _⟩
    rw [World.cell?_alloc_new, Lib.zeros24_at _ (by omega), getElem!_pos _ j hj]
    simp
   have hfmt := base10_call w.heap.size 0 24 u (Array.replicate (Lib.nDigits u) 0) (w.alloc (.cells Lib.zeros24 203)) hH0 (by rw [Array.size_replicate]; exact Lib.lt_pow_nDigits u) h64 (by rw [Array.size_replicate]; omega)
   rw [Array.size_replicate] at hfmt
   have hnd := numDigits_call u h0 h64 _ (Lib.tabIs_alloc hp (.cells Lib.zeros24 203))
   have HH0 := Lib.hid hH0
   clear hH0 hal
   go_enter Tryz.func121, Tryz.ntmps121
   go_wp2_with fail
   refine hnd.mono ?_
   rintro e w' ⟨rfl, rfl⟩
   go_wp2_with fail
   refine hfmt.mono ?_
   rintro e w' ⟨rfl, k, v', dk, rfl, hF⟩
   have hcv : (convert 115 9 (.slice (some ⟨w.heap.size, 0, none⟩) (Lib.nDigits u) 24)).run Tryz.prog ((putRow (fun (b : UInt8) => Value.int .u8 (b.toNat : Int)) (w.alloc (.cells Lib.zeros24 203)) w.heap.size 0 dk).drewN k) = .ok (.string ⟨(Lib.decDigits u).toArray⟩) ((putRow (fun (b : UInt8) => Value.int .u8 (b.toNat : Int)) (w.alloc (.cells Lib.zeros24 203)) w.heap.size 0 dk).drewN k) := by
    have h := run_convert_bytes_back (P := Tryz.prog) ((putRow (fun (b : UInt8) => Value.int .u8 (b.toNat : Int)) (w.alloc (.cells Lib.zeros24 203)) w.heap.size 0 dk).drewN k) 115 9 5 ⟨w.heap.size, 0, none⟩ 24 (Lib.decDigits u) Tryz.underlying115 Tryz.underlying5 Tryz.underlying9 (fun j hj => by
     rw [Lib.row_is_numeral hF j hj, Lib.add_plain, World.cell?_drewN]
     exact cell?_putRow (fun (b : UInt8) => Value.int .u8 (b.toNat : Int)) _ w.heap.size 0 _ dk HH0.out (by rw [hF.size, Array.size_replicate]) j (by rw [hF.size]; rw [Lib.decDigits_length] at hj; exact hj))
    rw [Lib.decDigits_length] at h
    exact h
   go_wp2
   go_ret
   refine ⟨rfl, k, ?_⟩
   rw [alloc_eq_grow]
   obtain ⟨os', _, e⟩ := putRow_grow_new (fun (b : UInt8) => Value.int .u8 (b.toNat : Int)) w #[.cells Lib.zeros24 203] w.heap.size 0 dk (Nat.le_refl _)
   exact ⟨os', by rw [e]; rfl⟩
theorem ufmt_call (u : Nat) (h0 : 1 ≤ u) (h64 : u < 18446744073709551616) (w : World) (hp : Pow w) :
 Calls Tryz.prog 74 #[.int .u64 u, .int .i64 10] w fun e w' => e = .returned (.string (tenT u)) ∧ ∃ k os, w' = grow (w.drewN k) os := by
 have F := ufmt_in u h0 h64 w hp
 go_enter Tryz.func74, Tryz.ntmps74
 go_wp2_with fail
 refine F.mono ?_
 rintro e w' ⟨rfl, k, os, rfl⟩
 go_wp2
 go_ret
 exact ⟨rfl, k, os, rfl⟩
end Go.Proofs.YtjagnfddmlkalaaGreatDoor
namespace Go.Proofs.YtjagnfddmlkalaaGreatDoor
open Go.RowKit
structure Gd (W : World) : Prop where
 tab : Tab W
 pow : ∀ w', Below W.heap.size W w' → Pow w'
theorem Gd.next {W W' : World} (h : Gd W) (hb : Below W.heap.size W W') : Gd W' := ⟨h.tab.next hb, fun w' hw => h.pow w' (hb.trans (hw.mono hb.size))⟩
theorem below_growH (w : World) (k : Nat) (os : Array Obj) : Below w.heap.size w (Sort.grow (w.drewN k) os) :=
 ⟨rfl, rfl, rfl, by simp [Sort.grow, World.drewN], fun i hi => by
  show (w.heap ++ os)[i]? = w.heap[i]?
  exact Array.getElem?_append_left hi⟩
theorem ufmt_is {n : Nat} (h0 : 1 ≤ n) (h1 : n < 18446744073709551616) (W : World) (hp : Pow W) : Calls Tryz.prog 74 #[.int .u64 (n : Int), .int .i64 10] W fun e w' => e = .returned (.string (tenT n)) ∧ Below W.heap.size W w' := by
 refine (ufmt_call n h0 h1 W hp).mono ?_
 rintro e w' ⟨rfl, k, os, rfl⟩
 exact ⟨rfl, below_growH _ _ _⟩
theorem pw_ex (x : Int) : ∃ M E, Pw x M E := by
 rcases Int.lt_or_le x 0 with c | c
 · obtain ⟨n, rfl⟩ : ∃ n : Nat, x = -(n : Int) := ⟨(-x).toNat, by omega⟩
   exact ⟨_, _, (fraction_pw (n := n) (by omega) rfl).2⟩
 · obtain ⟨n, rfl⟩ : ∃ n : Nat, x = (n : Int) := ⟨x.toNat, by omega⟩
   obtain ⟨_, _, _, _, h, _⟩ := whole_pw (n := n) rfl rfl rfl
   exact ⟨_, _, h⟩
theorem of_fix {x : Int} {M : Nat} {E : Int} (h : Pw x M E) (h1 : -400 ≤ x) (h2 : x ≤ 400) (W : World) (hT : Tab W) :
 Calls Tryz.prog 33 #[.int .i64 x] W fun e w' => e = .returned (.tuple #[.agg #[.int .u64 (hiW M), .int .u64 (loW M), .int .i64 E, .bool (decide (0 ≤ x ∧ x ≤ 55))], .nilIface]) ∧ Below W.heap.size W w' := by
 refine (of_yes x h1 h2 W hT).mono ?_
 rintro e w' ⟨M', E', rfl, pw, bb⟩
 obtain ⟨rfl, rfl⟩ := pw_uniq21 h pw
 exact ⟨rfl, bb⟩
theorem five_yes {p : Int} (h0 : 0 ≤ p) (h1 : p ≤ 27) (W : World) : Calls Tryz.prog 72 #[.int .i64 p] W fun e w' => e = .returned (.tuple #[.int .u64 ((5 ^ p.toNat : Nat) : Int), .nilIface]) ∧ Below W.heap.size W w' := by
 refine (five_call p W).mono ?_
 rintro e w' ⟨rfl, rfl⟩
 have c : ¬ (p < 0 ∨ ((27 : Nat) : Int) < p) := by omega
 refine ⟨?_, Below.refl _ _⟩
 unfold wpX wpE
 rw [if_neg c, if_neg c]
 rfl
theorem five_no {p : Int} (h : p < 0 ∨ 27 < p) (W : World) : Calls Tryz.prog 72 #[.int .i64 p] W fun e w' => e = .returned (.tuple #[.int .u64 ((0 : Nat) : Int), .iface 42 (.int .i64 1)]) ∧ Below W.heap.size W w' := by
 refine (five_call p W).mono ?_
 rintro e w' ⟨rfl, rfl⟩
 have c : p < 0 ∨ ((27 : Nat) : Int) < p := by omega
 refine ⟨?_, Below.refl _ _⟩
 unfold wpX wpE
 rw [if_pos c, if_pos c]
 rfl
theorem ten_yes {n : Nat} (h : n ≤ 19) (W : World) : Calls Tryz.prog 73 #[.int .i64 (n : Int)] W fun e w' => e = .returned (.tuple #[.int .u64 ((10 ^ n : Nat) : Int), .nilIface]) ∧ Below W.heap.size W w' := by
 refine (ten_call n W).mono ?_
 rintro e w' ⟨rfl, rfl⟩
 have c : ¬ ((n : Int) < 0 ∨ ((19 : Nat) : Int) < (n : Int)) := by omega
 refine ⟨?_, Below.refl _ _⟩
 unfold wpX wpE
 rw [if_neg c, if_neg c, Int.toNat_natCast]
 rfl
theorem digits_is {e : Int} (h1 : -1100 ≤ e) (h2 : e ≤ 1100) (W : World) : Calls Tryz.prog 32 #[.int .i64 e] W fun x w' => x = .returned (.tuple #[.int .i64 (e * 1292913986 / 4294967296 + 1), .nilIface]) ∧ Below W.heap.size W w' := by
 refine (digits_call e W).mono ?_
 rintro x w' ⟨rfl, rfl⟩
 have c : ¬ (e < -1100 ∨ 1100 < e) := by omega
 refine ⟨?_, Below.refl _ _⟩
 unfold lgD lgE
 rw [if_neg c, if_neg c]
 rfl
theorem lead_is {m : Nat} (m0 : 0 < m) (m1 : m < 9007199254740992) : ∃ k : Nat, 11 ≤ k ∧ k ≤ 63 ∧ 2 ^ 63 ≤ m * 2 ^ k ∧ m * 2 ^ k < 2 ^ 64 ∧
 ∀ W, Calls Tryz.prog 31 #[.agg #[.int .u64 (m : Int), .int .u64 0]] W fun e w' => e = .returned (.int .i64 (k : Int)) ∧ Below W.heap.size W w' := by
 obtain ⟨n, e, n63, lo, hi⟩ := blen_bounds (m : Int) (by omega) (by omega)
 have lo' : 2 ^ n ≤ m := by
  have : ((2 ^ n : Nat) : Int) ≤ (m : Int) := by rw [Int.natCast_pow]; exact lo
  omega
 have hi' : m < 2 ^ (n + 1) := by
  have : (m : Int) < ((2 ^ (n + 1) : Nat) : Int) := by rw [Int.natCast_pow]; exact hi
  omega
 have n52 : n < 53 := (Nat.pow_lt_pow_iff_right (a := 2) (by decide)).1 (Nat.lt_of_le_of_lt lo' m1)
 refine ⟨63 - n, by omega, by omega, ?_, ?_, fun W => ?_⟩
 · have a := Nat.mul_le_mul_right (2 ^ (63 - n)) lo'
   rw [← Nat.pow_add, show n + (63 - n) = 63 by omega] at a
   exact a
 · have a := Nat.mul_lt_mul_of_pos_right hi' (Nat.two_pow_pos (63 - n))
   rw [← Nat.pow_add, show n + 1 + (63 - n) = 64 by omega] at a
   exact a
 · have q := wlead_any (m : Int) 0 ⟨by omega, by omega⟩ ⟨by omega, by omega⟩ W
   have ek : ldz (m : Int) 0 = ((63 - n : Nat) : Int) := by
    unfold ldz
    rw [if_neg (by omega), e]
    omega
   rw [ek] at q
   exact q
def shV (M : Nat) (X : Int) (ex : Bool) (p d : Int) : Value := .agg #[.int .u64 (hiW M), .int .u64 (loW M), .int .i64 X, .bool ex, .int .i64 p, .int .i64 d]
theorem low_smallH {b : Nat} (h : b < 18446744073709551616) : loW b = (b : Int) := by
 unfold loW
 rw [Nat.mod_eq_of_lt h]
theorem top_cut {P d : Nat} (h : 128 ≤ d) (h9 : d ≤ 191) : x2 P / 2 ^ ((d : Int) - 128).toNat = ((P / 2 ^ d : Nat) : Int) := by
 rw [show ((d : Int) - 128).toNat = d - 128 by omega]
 unfold x2
 rw [show (340282366920938463463374607431768211456 : Nat) = 2 ^ 128 from rfl]
 have e : 2 ^ d = 2 ^ 128 * 2 ^ (d - 128) := by rw [← Nat.pow_add, show 128 + (d - 128) = d by omega]
 rw [e, ← Nat.div_div_eq_div_mul]
 generalize P / 2 ^ 128 = y
 rw [Int.natCast_ediv, Int.natCast_pow]
 rfl
theorem top_rest {P d : Nat} (h : 128 ≤ d) (hP : P < 2 ^ 192) : (P % 2 ^ d = 0 ↔ (IntKind.u64.wrap (((P / 2 ^ d : Nat) : Int) * 2 ^ ((d : Int) - 128).toNat) = x2 P ∧ x1 P = 0 ∧ x0 P = 0)) := by
 rw [show ((d : Int) - 128).toNat = d - 128 by omega]
 have e : 2 ^ d = 2 ^ 128 * 2 ^ (d - 128) := by rw [← Nat.pow_add, show 128 + (d - 128) = d by omega]
 have q0 := Nat.two_pow_pos (d - 128)
 have c1 : (((P / 2 ^ d : Nat) : Int) * 2 ^ (d - 128)) = ((P / 2 ^ 128 / 2 ^ (d - 128) * 2 ^ (d - 128) : Nat) : Int) := by
  rw [e, ← Nat.div_div_eq_div_mul]
  generalize P / 2 ^ 128 / 2 ^ (d - 128) = y
  rw [Int.natCast_mul, Int.natCast_pow]
  rfl
 have le := Nat.div_mul_le_self (P / 2 ^ 128) (2 ^ (d - 128))
 have t64 : P / 2 ^ 128 < 18446744073709551616 := by
  rw [Nat.div_lt_iff_lt_mul (Nat.two_pow_pos _)]
  exact Nat.lt_of_lt_of_le hP (by decide)
 have md : P % 2 ^ d = P % 2 ^ 128 + 2 ^ 128 * (P / 2 ^ 128 % 2 ^ (d - 128)) := by rw [e, Nat.mod_mul]
 have dm := Nat.div_add_mod (P / 2 ^ 128) (2 ^ (d - 128))
 have eX : x2 P = ((P / 2 ^ 128 : Nat) : Int) := rfl
 have r : (x1 P = 0 ∧ x0 P = 0) ↔ P % 2 ^ 128 = 0 := by
  unfold x1 x0
  rw [show (2 : Nat) ^ 128 = 18446744073709551616 * 18446744073709551616 from rfl, Nat.mod_mul]
  omega
 rw [md, c1, eX, r]
 have c2 : IntKind.u64.wrap ((P / 2 ^ 128 / 2 ^ (d - 128) * 2 ^ (d - 128) : Nat) : Int) = ((P / 2 ^ 128 / 2 ^ (d - 128) * 2 ^ (d - 128) : Nat) : Int) := by
  rw [IntKind.wrap_u64]
  generalize P / 2 ^ 128 / 2 ^ (d - 128) * 2 ^ (d - 128) = y at *
  omega
 rw [c2]
 rw [Nat.mul_comm] at dm
 generalize P / 2 ^ 128 / 2 ^ (d - 128) * 2 ^ (d - 128) = y at *
 generalize P / 2 ^ 128 % 2 ^ (d - 128) = s at *
 generalize P / 2 ^ 128 = t at *
 have : 2 ^ 128 * s = 0 ↔ s = 0 := by
  rw [Nat.mul_eq_zero]
  constructor
  · rintro (z | z)
    · exact absurd z (Nat.ne_of_gt (Nat.two_pow_pos _))
    · exact z
  · exact Or.inr
 omega
theorem hcount_is {e p : Int} {n M : Nat} {X : Int} {g D d F : Nat} (sc : Sh e p n M X g D d) (m1 : M < 2 ^ 128) (F1 : 2 ^ 63 ≤ F) (F2 : F < 2 ^ 64) (h5 : 0 ≤ p → M * D < g * 2 ^ d → F % 5 ^ p.toNat = 0 → (F * M + F) / 2 ^ d ≠ F * M / 2 ^ d → F * g % D = 0) :
    ∃ (u : Nat) (m s : Bool), (∀ W, Tab W → Calls Tryz.prog 34 #[shV M X (decide (0 ≤ -p ∧ -p ≤ 55)) p ((d : Int) - 128), .int .u64 (F : Int)] W fun x w' => x = .returned (.tuple #[.agg #[.int .u64 (u : Int), .bool m], .bool s]) ∧ Below W.heap.size W w') ∧
      (s = true → u = F * g / D ∧ m = decide (F * g % D ≠ 0)) ∧ (s = false → ¬ (0 ≤ -p ∧ -p ≤ 55) ∧ (F * M + F) / 2 ^ d ≠ F * M / 2 ^ d ∧ (0 ≤ p → p ≤ 27 → F % 5 ^ p.toNat ≠ 0)) := by
  have hd1 := sc.d1
  have hd2 := sc.d2
  have lo := sc.lo
  have hi := sc.hi
  have hex := sc.ex
  have D0 := sc.D0
  clear sc
  have T0 := Nat.two_pow_pos d
  have F0 : 0 < F := by have := Nat.two_pow_pos 63; omega
  have FT : F ≤ 2 ^ d := Nat.le_trans (Nat.le_of_lt F2) (Nat.pow_le_pow_right (by decide) (by omega))
  have F64 : F < 18446744073709551616 := F2
  have mw := mul_words M F
  rw [Nat.mul_comm M F] at mw
  obtain ⟨e1, e2, e3⟩ := mw
  have P192 : F * M + F < 2 ^ 192 := by
    have a : F * (M + 1) ≤ F * 2 ^ 128 := Nat.mul_le_mul_left F m1
    have b : F * (M + 1) = F * M + F := by rw [Nat.mul_add, Nat.mul_one]
    have c : F * 2 ^ 128 < 2 ^ 64 * 2 ^ 128 := Nat.mul_lt_mul_of_pos_right F2 (Nat.two_pow_pos _)
    rw [← Nat.pow_add] at c
    omega
  have P192' : F * M < 2 ^ 192 := by omega
  have m1' : M < 340282366920938463463374607431768211456 := m1
  have HM := fun W => wmulw_any (hiW M) (loW M) (F : Int) (hiW_word m1') (loW_word M) ⟨by omega, by omega⟩ W
  rw [e1, e2, e3] at HM
  have d0 : 0 ≤ (d : Int) - 128 := by omega
  have d9 : (d : Int) - 128 ≤ 63 := by omega
  have hu1 := @top_cut (F * M) d (by omega) (by omega)
  by_cases ce : 0 ≤ -p ∧ -p ≤ 55
  · rw [decide_eq_true ce]
    obtain ⟨x, y⟩ := cnt_exact (F := F) (hex.2 ce) T0 D0
    have tr := @top_rest (F * M) d (by omega) P192'
    by_cases z : F * M % 2 ^ d = 0
    · obtain ⟨t1, t2, t3⟩ := tr.1 z
      rw [t2, t3] at HM
      refine ⟨F * M / 2 ^ d, false, true, fun W _ => hc_ex3 d0 d9 hu1 t1 HM, fun _ => ⟨x.symm, ?_⟩, fun h => by cases h⟩
      rw [y.2 z]
      rfl
    · have dy : decide (F * g % D ≠ 0) = true := decide_eq_true (fun q => z (y.1 q))
      by_cases t : IntKind.u64.wrap (((F * M / 2 ^ d : Nat) : Int) * 2 ^ ((d : Int) - 128).toNat) = x2 (F * M)
      · have hz : x1 (F * M) ≠ 0 ∨ x0 (F * M) ≠ 0 := by
          by_cases c : x1 (F * M) = 0
          · exact Or.inr (fun q => z (tr.2 ⟨t, c, q⟩))
          · exact Or.inl c
        exact ⟨F * M / 2 ^ d, true, true, fun W _ => hc_ex2 d0 d9 hu1 t hz HM, fun _ => ⟨x.symm, dy.symm⟩, fun h => by cases h⟩
      · exact ⟨F * M / 2 ^ d, true, true, fun W _ => hc_ex1 d0 d9 hu1 rfl (bne_iff_ne.mpr (Ne.symm t)) HM, fun _ => ⟨x.symm, dy.symm⟩, fun h => by cases h⟩
  · rw [decide_eq_false ce]
    have lo' : M * D < g * 2 ^ d := Nat.lt_of_le_of_ne lo (fun h => ce (hex.1 h.symm))
    have F128 : F < 2 ^ 128 := Nat.lt_trans F2 (by decide)
    have h0 : hiW F = 0 := by
      unfold hiW
      rw [Nat.div_eq_of_lt (by omega)]
      rfl
    have l0 : loW F = (F : Int) := low_smallH (by omega)
    obtain ⟨s1, s2, s3, s4⟩ := sum_words (X := F * M) (A := F) F128 P192
    rw [h0, l0] at s1 s3 s4
    rw [l0] at s2
    have HA := fun W => wadd_any (x1 (F * M)) (x0 (F * M)) 0 (F : Int) (x1_word _) (x0_word _) ⟨by omega, by omega⟩ ⟨by omega, by omega⟩ W
    rw [s1, s2] at HA
    have hcy : Hid ((sOv (x1 (F * M)) (x0 (F * M)) 0 (F : Int) = false ∧ x2 (F * M) = x2 (F * M + F)) ∨ (sOv (x1 (F * M)) (x0 (F * M)) 0 (F : Int) = true ∧ IntKind.u64.wrap (x2 (F * M) + 1) = x2 (F * M + F))) := by
      cases c : sOv (x1 (F * M)) (x0 (F * M)) 0 (F : Int) with
      | false => exact Or.inl ⟨rfl, s3 c⟩
      | true =>
        obtain ⟨y1, y2⟩ := s4 c
        refine Or.inr ⟨rfl, ?_⟩
        have n0 : 0 ≤ x2 (F * M) := Int.natCast_nonneg _
        rw [IntKind.wrap_u64, ← y1]
        omega
    have hu2 := @top_cut (F * M + F) d (by omega) (by omega)
    generalize sOv (x1 (F * M)) (x0 (F * M)) 0 (F : Int) = cy at *
    by_cases ne : (F * M + F) / 2 ^ d = F * M / 2 ^ d
    · obtain ⟨x, y⟩ := cnt_same lo' hi F0 T0 ne
      exact ⟨F * M / 2 ^ d, true, true, fun W _ => hc_same d0 d9 hu1 hu2 (by rw [ne]) HM HA hcy, fun _ => ⟨x.symm, (decide_eq_true y).symm⟩, fun h => by cases h⟩
    · have ne' : (((F * M + F) / 2 ^ d : Nat) : Int) ≠ ((F * M / 2 ^ d : Nat) : Int) := by omega
      by_cases c5 : 0 ≤ p ∧ p ≤ 27
      · have f0 : 0 < 5 ^ p.toNat := Nat.pow_pos (by decide)
        have HF := fun W => five_yes c5.1 c5.2 W
        have cm : ((F : Int) % ((5 ^ p.toNat : Nat) : Int)) = ((F % 5 ^ p.toNat : Nat) : Int) := (Int.natCast_emod _ _).symm
        by_cases dv : F % 5 ^ p.toNat = 0
        · obtain ⟨x, y⟩ := cnt_five lo' hi F0 FT ne (h5 c5.1 lo' dv ne)
          refine ⟨(F * M + F) / 2 ^ d, false, true, fun W _ => hc_five d0 d9 hu1 hu2 f0 ne' (by rw [cm, dv]; rfl) HM HA hcy HF, fun _ => ⟨x.symm, ?_⟩, fun h => by cases h⟩
          rw [h5 c5.1 lo' dv ne]
          rfl
        · refine ⟨0, false, false, fun W _ => hc_no d0 d9 hu1 hu2 f0 ne' ?_ HM HA hcy HF, fun h => (by cases h), fun _ => ⟨ce, ne, fun _ _ => dv⟩⟩
          rw [cm]
          exact beq_eq_false_iff_ne.mpr (by omega)
      · exact ⟨0, false, false, fun W _ => hc_err d0 d9 hu1 hu2 ne' HM HA hcy (fun W => five_no (by omega) W), fun h => (by cases h), fun _ => ⟨ce, ne, fun a b => absurd ⟨a, b⟩ c5⟩⟩
theorem hround_is {u n S : Nat} {e : Bool} {p pl : Int} (n2 : n ≤ 18) (p1 : -1000 ≤ p) (p2 : p ≤ 1000) (u0 : S ≤ u) (u1 : u < 4611686018427387904) (hS : (S = 20 ∧ pl = p + 1 ∧ 2 * 10 ^ n ≤ u) ∨ (S = 2 ∧ pl = p ∧ ¬ 2 * 10 ^ n ≤ u)) :
    ∃ m j : Nat, tmQ u e S = m * 10 ^ j ∧ m % 10 ≠ 0 ∧ m < 10 ^ 20 ∧ j ≤ 20 ∧ ∀ W, (∀ w', Below W.heap.size W w' → Pow w') → Calls Tryz.prog 35 #[.agg #[.int .u64 (u : Int), .bool e], .int .i64 p, .int .i64 (n : Int)] W fun x w' => x = .returned (.agg #[.string (tenT m), .int .i64 ((Lib.nDigits m : Int) + ((j : Int) + pl)), .bool false]) ∧ Below W.heap.size W w' := by
  have S0 : 0 < S := by omega
  have S20 : S ≤ 20 := by omega
  have dm := Nat.div_add_mod u S
  have ml := Nat.mod_lt u S0
  have tl := Nat.div_le_self u S
  have t1 : 1 ≤ u / S := Nat.div_pos u0 S0
  have tq : 1 ≤ tmQ u e S ∧ tmQ u e S ≤ u / S + 1 := by unfold tmQ; split <;> omega
  obtain ⟨m, j, k1, k2, k3⟩ := ten_noughts (t := tmQ u e S) tq.1
  have sz := ten_size (tmQ u e S)
  have h20 : 4611686018427387905 < (10 : Nat) ^ 20 := by decide
  have s20 := ten_short (n := tmQ u e S) (m := 20) (by omega) (by decide)
  obtain ⟨r1, r2, r3⟩ := ten_trim k1 k2 k3
  have pm := Lib.nDigits_pos m
  have ml20 : m < 10 ^ 20 := Nat.lt_of_lt_of_le (Lib.lt_pow_nDigits m) (Nat.pow_le_pow_right (by decide) (by omega))
  have TRM := fun W => trimRight48 (tenT (tmQ u e S)) (by omega) (Lib.nDigits m) (by omega) r2 (fun h => r3 (by omega)) W
  rw [r1] at TRM
  have TRB : ∀ W, Calls Tryz.prog 59 #[.string (tenT (tmQ u e S)), .string ⟨#[48]⟩] W fun x w' => x = .returned (.string (tenT m)) ∧ Below W.heap.size W w' := fun W => by
    refine (TRM W).mono ?_
    rintro x w' ⟨rfl, rfl⟩
    exact ⟨rfl, Below.refl _ _⟩
  have FU := fun W hp => ufmt_is (n := tmQ u e S) tq.1 (by omega) W hp
  have TEN := fun W => ten_yes (n := n) (by omega) W
  have l9 : 10 ^ n ≤ 1000000000000000000 := Nat.le_trans (Nat.pow_le_pow_right (by decide) n2) (by decide)
  refine ⟨m, j, k1, k2, ml20, by omega, fun W hP => ?_⟩
  rw [show (Lib.nDigits m : Int) + ((j : Int) + pl) = ((tenT (tmQ u e S)).size : Int) + pl by omega]
  have q1 : IntKind.u64.wrap ((u : Int) / (S : Int)) = ((u / S : Nat) : Int) := by
    rw [IntKind.wrap_u64, ← Int.natCast_ediv]
    generalize u / S = t at *
    omega
  rw [Nat.mul_comm] at dm
  have q2 : IntKind.u64.wrap (((u / S : Nat) : Int) * (S : Int)) = ((u / S * S : Nat) : Int) := by
    rw [IntKind.wrap_u64, ← Int.natCast_mul]
    generalize u / S * S = t at *
    omega
  have q3 : IntKind.u64.wrap ((u : Int) - ((u / S * S : Nat) : Int)) = ((u % S : Nat) : Int) := by
    rw [IntKind.wrap_u64]
    generalize u / S * S = t at *
    generalize u % S = r at *
    omega
  have q5 : IntKind.u64.wrap (((u / S : Nat) : Int) + 1) = ((u / S + 1 : Nat) : Int) := by
    rw [IntKind.wrap_u64]
    generalize u / S = t at *
    omega
  have UP : upQ u e S = true → S / 2 < u % S ∨ (¬ S / 2 < u % S ∧ u % S = S / 2 ∧ (e = true ∨ (e = false ∧ u / S % 2 = 1))) := by
    intro x
    unfold upQ at x
    simp only [Bool.or_eq_true, Bool.and_eq_true, decide_eq_true_eq] at x
    rcases x with x | ⟨x1, x2⟩
    · exact Or.inl x
    · refine Or.inr ⟨by omega, x1, ?_⟩
      rcases x2 with x2 | x2
      · exact Or.inl x2
      · cases e
        · exact Or.inr ⟨rfl, x2⟩
        · exact Or.inl rfl
  have DN : upQ u e S = false → (¬ S / 2 < u % S ∧ ¬ u % S = S / 2) ∨ (¬ S / 2 < u % S ∧ u % S = S / 2 ∧ e = false ∧ ¬ u / S % 2 = 1) := by
    intro x
    unfold upQ at x
    simp only [Bool.or_eq_false_iff, Bool.and_eq_false_iff, decide_eq_false_iff_not] at x
    obtain ⟨x0, x1⟩ := x
    by_cases c : u % S = S / 2
    · rcases x1 with x1 | x1
      · exact absurd c x1
      · exact Or.inr ⟨x0, c, x1.1, x1.2⟩
    · exact Or.inl ⟨x0, c⟩
  have tt : tmQ u e S = if upQ u e S then u / S + 1 else u / S := rfl
  have sz2 : (tenT (tmQ u e S)).size ≤ 100 := by omega
  clear k1 k2 k3 sz s20 r1 r2 r3 TRM
  rcases hS with ⟨rfl, rfl, hl⟩ | ⟨rfl, rfl, hl⟩
  · cases x : upQ u e 20 with
    | true =>
      rw [x, if_pos rfl] at tt
      rw [tt] at FU TRB sz2 ⊢
      exact hr_up1 hP l9 hl q1 q2 q3 q5 (by omega) (by omega) sz2 (UP x) TEN (fun W hp => FU W hp) TRB
    | false =>
      rw [x, if_neg (by decide)] at tt
      rw [tt] at FU TRB sz2 ⊢
      exact hr_dn1 hP l9 hl q1 q2 q3 (by omega) (by omega) sz2 (DN x) TEN (fun W hp => FU W hp) TRB
  · cases x : upQ u e 2 with
    | true =>
      rw [x, if_pos rfl] at tt
      rw [tt] at FU TRB sz2 ⊢
      exact hr_up0 hP l9 hl q1 q2 q3 q5 (by omega) (by omega) sz2 (UP x) TEN (fun W hp => FU W hp) TRB
    | false =>
      rw [x, if_neg (by decide)] at tt
      rw [tt] at FU TRB sz2 ⊢
      exact hr_dn0 hP l9 hl q1 q2 q3 (by omega) (by omega) sz2 (DN x) TEN (fun W hp => FU W hp) TRB
def RH : Nat := 1200
theorem word_units {m k : Nat} {xe : Int} (h : -1100 ≤ xe) (hk : k ≤ 63) : m * 2 ^ k * (2 ^ (xe - (k : Int) + 1 + (RH : Int)).toNat * 5 ^ RH) = 2 * fv m xe * 10 ^ 100 := by
 have r0 : (R0 : Int) = 1100 := rfl
 have rh : (RH : Int) = 1200 := rfl
 have rn : RH = R0 + 100 := rfl
 have e1 : 2 ^ k * 2 ^ (xe - (k : Int) + 1 + (RH : Int)).toNat = 2 ^ 1 * 2 ^ (xe + (R0 : Int)).toNat * 2 ^ 100 := by
  rw [← Nat.pow_add, ← Nat.pow_add, ← Nat.pow_add, show k + (xe - (k : Int) + 1 + (RH : Int)).toNat = 1 + (xe + (R0 : Int)).toNat + 100 by omega]
 have e2 : 5 ^ RH = 5 ^ R0 * 5 ^ 100 := by rw [rn, Nat.pow_add]
 unfold fv
 rw [ten_five 100, e2]
 generalize 5 ^ R0 = a
 generalize 5 ^ 100 = c
 generalize 2 ^ (xe + (R0 : Int)).toNat = x at *
 generalize 2 ^ (xe - (k : Int) + 1 + (RH : Int)).toNat = y at *
 generalize 2 ^ 100 = t at *
 generalize 2 ^ k = s at *
 rw [show m * s * (y * (a * c)) = m * (s * y) * (a * c) by ac_rfl, e1, Nat.pow_one]
 ac_rfl
theorem place_units {p : Int} (h : -1100 ≤ p) : 10 ^ (p + (RH : Int)).toNat = 10 ^ (p + (R0 : Int)).toNat * 10 ^ 100 := by
 have r0 : (R0 : Int) = 1100 := rfl
 have rh : (RH : Int) = 1200 := rfl
 rw [← Nat.pow_add, show (p + (RH : Int)).toNat = (p + (R0 : Int)).toNat + 100 by omega]
def NW (m : Nat) (e : Int) : Prop := (0 ≤ e → 2 ^ 53 ≤ m * 2 ^ e.toNat) ∧ (e < 0 → m % 2 ^ (-e).toNat ≠ 0)
theorem nw_of {m : Nat} {e : Int} (m53 : m < 2 ^ 53) (h1 : -1100 ≤ e) (h : ¬ ∃ v, v < 2 ^ 53 ∧ fv m e = v * 10 ^ R0) : NW m e := by
 have r0 : (R0 : Int) = 1100 := rfl
 constructor
 · intro c
   apply Nat.le_of_not_lt
   intro g
   refine h ⟨m * 2 ^ e.toNat, g, ?_⟩
   unfold fv
   rw [ten_five, show (e + (R0 : Int)).toNat = e.toNat + R0 by omega, Nat.pow_add]
   generalize 2 ^ e.toNat = a
   generalize 2 ^ R0 = c
   generalize 5 ^ R0 = y
   ac_rfl
 · intro c z
   obtain ⟨v, hv⟩ : ∃ v, m = v * 2 ^ (-e).toNat := ⟨m / 2 ^ (-e).toNat, by have := Nat.div_add_mod m (2 ^ (-e).toNat); rw [z, Nat.add_zero, Nat.mul_comm] at this; exact this.symm⟩
   refine h ⟨v, Nat.lt_of_le_of_lt ?_ m53, ?_⟩
   · rw [hv]; exact Nat.le_mul_of_pos_right _ (Nat.two_pow_pos _)
   · have e1 : 2 ^ (-e).toNat * 2 ^ (e + (R0 : Int)).toNat = 2 ^ R0 := by rw [← Nat.pow_add, show (-e).toNat + (e + (R0 : Int)).toNat = R0 by omega]
     unfold fv
     rw [hv, ten_five, ← e1]
     generalize 2 ^ (-e).toNat = a
     generalize 2 ^ (e + (R0 : Int)).toNat = c
     generalize 5 ^ R0 = y
     ac_rfl
theorem not_whole {e p : Int} {n M : Nat} {X : Int} {d F v : Nat} (sc : Sh e p n M X (2 ^ (e + 1 + (RH : Int)).toNat * 5 ^ RH) (10 ^ (p + (RH : Int)).toNat) d) (pe : p = (e + 63) * 1292913986 / 4294967296 + 1 - (n : Int)) (n1 : 1 ≤ n) (n2 : n ≤ 18) (er : -1200 ≤ e + 1)
 (F1 : 2 ^ 63 ≤ F) (F2 : F < 2 ^ 64) (v0 : 0 < v) (v53 : v < 2 ^ 53) (hv : F * (2 ^ (e + 1 + (RH : Int)).toNat * 5 ^ RH) = 2 * v * 10 ^ RH) (ce : ¬ (0 ≤ -p ∧ -p ≤ 55)) (ne : (F * M + F) / 2 ^ d ≠ F * M / 2 ^ d) (n5 : 0 ≤ p → p ≤ 27 → F % 5 ^ p.toNat ≠ 0) : False := by
 have rh : (RH : Int) = 1200 := rfl
 have f0 : 0 < 5 ^ RH := Nat.pow_pos (by decide)
 have F0 : 0 < F := by have := Nat.two_pow_pos 63; omega
 have d1 := sc.d1
 have lo := sc.lo
 have hi := sc.hi
 have hex := sc.ex
 clear sc
 have hw : F * 2 ^ (e + 1 + (RH : Int)).toNat = 2 * v * 2 ^ RH := by
  refine Nat.eq_of_mul_eq_mul_right f0 ?_
  rw [Nat.mul_assoc, hv, ten_five]
  generalize 2 ^ RH = a
  generalize 5 ^ RH = y
  ac_rfl
 have up : e + 63 ≤ 52 := by
  apply Int.not_lt.1
  intro c
  have a : 2 ^ (RH - 9) ≤ 2 ^ (e + 1 + (RH : Int)).toNat := Nat.pow_le_pow_right (by decide) (by omega)
  have b := Nat.mul_le_mul F1 a
  rw [hw] at b
  have e9 : 2 ^ RH = 2 ^ 9 * 2 ^ (RH - 9) := by rw [← Nat.pow_add, show 9 + (RH - 9) = RH by omega]
  rw [e9, ← Nat.mul_assoc] at b
  have := Nat.le_of_mul_le_mul_right b (Nat.two_pow_pos _)
  omega
 have dn : 0 ≤ e + 63 := by
  apply Int.not_lt.1
  intro c
  have a : 2 ^ (e + 1 + (RH : Int)).toNat ≤ 2 ^ (RH - 63) := Nat.pow_le_pow_right (by decide) (by omega)
  have b : F * 2 ^ (e + 1 + (RH : Int)).toNat < 2 ^ 64 * 2 ^ (RH - 63) := Nat.lt_of_le_of_lt (Nat.mul_le_mul_left F a) (Nat.mul_lt_mul_of_pos_right F2 (Nat.two_pow_pos _))
  rw [hw] at b
  have e9 : 2 ^ RH = 2 ^ 63 * 2 ^ (RH - 63) := by rw [← Nat.pow_add, show 63 + (RH - 63) = RH by omega]
  rw [e9, ← Nat.mul_assoc] at b
  have := Nat.lt_of_mul_lt_mul_right b
  omega
 have p1 : 1 ≤ p := by omega
 have p15 : p ≤ 15 := by omega
 have R0 : 0 < 10 ^ RH := Nat.pow_pos (by decide)
 have eD : 10 ^ (p + (RH : Int)).toNat = 10 ^ p.toNat * 10 ^ RH := by rw [← Nat.pow_add, show (p + (RH : Int)).toNat = p.toNat + RH by omega]
 have T130 : 2 ^ 130 ≤ 2 ^ d := Nat.pow_le_pow_right (by decide) d1
 have p50 : 10 ^ p.toNat ≤ 2 ^ 50 := Nat.le_trans (Nat.pow_le_pow_right (by decide) (show p.toNat ≤ 15 by omega)) (by decide)
 have lo' : M * 10 ^ (p + (RH : Int)).toNat < 2 ^ (e + 1 + (RH : Int)).toNat * 5 ^ RH * 2 ^ d := Nat.lt_of_le_of_ne lo (fun h => ce (hex.1 h.symm))
 have FT : F ≤ 2 ^ d := Nat.le_trans (Nat.le_of_lt F2) (Nat.le_trans (Nat.pow_le_pow_right (by decide) (by decide)) T130)
 have Z := cnt_gap (F := F) (K := 10 ^ RH) lo' hi F0 FT ne R0 (by rw [hv, Nat.mul_mod_left]) (by rw [eD, Nat.mul_mod_left]) (by
  rw [eD, ← Nat.mul_assoc, Nat.mul_comm (10 ^ RH) (2 ^ d)]
  refine Nat.mul_le_mul_right _ (Nat.le_trans (Nat.mul_le_mul (Nat.le_of_lt F2) p50) (Nat.le_trans ?_ T130))
  rw [← Nat.pow_add]
  exact Nat.pow_le_pow_right (by decide) (by decide))
 rw [hv, eD, Nat.mul_mod_mul_right] at Z
 have Z2 : 2 * v % 10 ^ p.toNat = 0 := by
  rcases Nat.mul_eq_zero.1 Z with c | c
  · exact c
  · omega
 obtain ⟨y, hy⟩ : ∃ y, 2 * v = 10 ^ p.toNat * y := ⟨2 * v / 10 ^ p.toNat, by have := Nat.div_add_mod (2 * v) (10 ^ p.toNat); omega⟩
 obtain ⟨q, hq⟩ : ∃ q : Nat, e + 1 = -(q : Int) := ⟨(-(e + 1)).toNat, by omega⟩
 have eq : 2 ^ RH = 2 ^ q * 2 ^ (e + 1 + (RH : Int)).toNat := by rw [← Nat.pow_add, show q + (e + 1 + (RH : Int)).toNat = RH by omega]
 rw [eq, ← Nat.mul_assoc] at hw
 have eF := Nat.eq_of_mul_eq_mul_right (Nat.two_pow_pos _) hw
 refine n5 (by omega) (by omega) ?_
 rw [eF, hy, ten_five, show 2 ^ p.toNat * 5 ^ p.toNat * y * 2 ^ q = 2 ^ p.toNat * y * 2 ^ q * 5 ^ p.toNat by ac_rfl]
 exact Nat.mul_mod_left _ _
theorem place_eqH {X A B : Nat} (a1 : 10 ^ A ≤ X) (a2 : X < 10 ^ (A + 1)) (b1 : 10 ^ B ≤ X) (b2 : X < 10 ^ (B + 1)) : A = B := by
 have x1 := (Nat.pow_lt_pow_iff_right (a := 10) (by decide)).1 (Nat.lt_of_le_of_lt a1 b2)
 have x2 := (Nat.pow_lt_pow_iff_right (a := 10) (by decide)).1 (Nat.lt_of_le_of_lt b1 a2)
 omega
theorem fine_cellsH {z : Int} {f T : Nat} {L : Int} {S I b : Nat} (h : Fn z f T L S I b) (m0 : mg S b ≠ 0) (W : World) :
 Calls Tryz.prog 14 #[.int .u64 (b : Int), .int .i64 z] W fun e w' => e = .returned (.tuple #[.agg #[.bool (uN S I b), .int .i64 2, .int .u64 ((mt f (mg S b) : Nat) : Int), .int .i64 (xp f L (mg S b))], .nilIface]) ∧ Below W.heap.size W w' := by
 have U := unp_any h.sf h.lt W
 have c2 : cl I (mg S b) = 2 := cl_fine m0 h.fin
 have e1 : uM I f (mg S b) = mt f (mg S b) := if_pos c2
 have e2 : uE I f L (mg S b) = xp f L (mg S b) := if_pos c2
 rw [e1, e2, c2] at U
 exact U
theorem hd_all {z : Int} {f T : Nat} {L : Int} {S I b : Nat} (h : Fn z f T L S I b) (m0 : mg S b ≠ 0) {u : ByteArray} {o : Int} (G : Dx u o (vlF f L (mg S b))) {n : Nat} (n1 : 1 ≤ n) (n2 : n ≤ 18) :
    (∃ v k, Dx v k (rnU (vlF f L (mg S b)) (10 ^ (o + (R0 : Int) - (n : Int)).toNat)) ∧ ∀ W, Gd W → Calls Tryz.prog 5 #[.int .u64 (b : Int), .int .i64 z, .int .i64 (n : Int)] W fun x w' => x = .returned (.tuple #[dcV v k false, .bool true, .nilIface]) ∧ Below W.heap.size W w') ∨
    ((∀ W, Gd W → Calls Tryz.prog 5 #[.int .u64 (b : Int), .int .i64 z, .int .i64 (n : Int)] W fun x w' => x = .returned (.tuple #[dcV ⟨#[]⟩ 0 false, .bool false, .nilIface]) ∧ Below W.heap.size W w') ∧ NW (mt f (mg S b)) (xp f L (mg S b))) := by
  have U := fun W => fine_cellsH h m0 W
  have fs := h.sf.fs.1
  have x := xp_in fs h.m
  have m53 := mt_lt fs (mg S b)
  have mp := mt_some (f := f) m0
  unfold vlF at G ⊢
  generalize xp f L (mg S b) = xe at *
  generalize mt f (mg S b) = m at *
  clear fs
  obtain ⟨xe1, xe2⟩ := x
  have r0 : (R0 : Int) = 1100 := rfl
  have rh : (RH : Int) = 1200 := rfl
  obtain ⟨k, k11, k63, F1, F2, HL⟩ := lead_is (by omega : 0 < m) m53
  obtain ⟨p, pe⟩ : ∃ p, p = (xe - (k : Int) + 63) * 1292913986 / 4294967296 + 1 - (n : Int) := ⟨_, rfl⟩
  have t : Td (xe - (k : Int) + 63) (p + (n : Int)) := by
    have t := td_log (xe - (k : Int) + 63) (by omega) (by omega)
    rw [show p + (n : Int) = (xe - (k : Int) + 63) * 1292913986 / 4294967296 + 1 by omega]
    exact t
  obtain ⟨M, X, pw⟩ := pw_ex (-p)
  obtain ⟨d, sc⟩ := sh_of (r := RH) pw t n1 n2 (by omega) (by omega)
  have dr := sc.dr
  have d1 := sc.d1
  have d2 := sc.d2
  have w1 := sc.w1
  have w2 := sc.w2
  have hF : IntKind.u64.wrap ((m : Int) * 2 ^ ((k : Int)).toNat) = ((m * 2 ^ k : Nat) : Int) := by
    rw [Int.toNat_natCast, IntKind.wrap_u64]
    have e1 : (m : Int) * 2 ^ k = ((m * 2 ^ k : Nat) : Int) := by rw [Int.natCast_mul, Int.natCast_pow]; rfl
    rw [e1]
    omega
  have SO := fun W hT => hso_ok (w := W) (xe := xe) (rm := (k : Int)) (l := p + (n : Int)) (n := (n : Int)) (X := X) (mh := hiW M) (ml := loW M) (k := 2) (m := m) (ex := decide (0 ≤ -p ∧ -p ≤ 55)) (ng := uN S I b) hT (by omega) (by omega) (by omega) (by omega) (by omega) (by omega) (by omega) (by omega) (by omega) (by omega) hF HL
    (fun W => by have q := digits_is (e := xe - (k : Int) + 63) (by omega) (by omega) W; rw [show (xe - (k : Int) + 63) * 1292913986 / 4294967296 + 1 = p + (n : Int) by omega] at q; exact q)
    (fun W hT => by have q := of_fix pw (by omega) (by omega) W hT; rw [show -(p + (n : Int) - (n : Int)) = -p by omega]; exact q)
  rw [show p + (n : Int) - (n : Int) = p by omega, show -129 - (xe - (k : Int)) - X = (d : Int) - 128 by omega] at SO
  have WU := word_units (m := m) (k := k) (xe := xe) (by omega) k63
  have NWH : ∀ v, fv m xe = v * 10 ^ R0 → m * 2 ^ k * (2 ^ (xe - (k : Int) + 1 + (RH : Int)).toNat * 5 ^ RH) = 2 * v * 10 ^ RH := fun v hv => by
    rw [WU, hv, show RH = R0 + 100 from rfl, Nat.pow_add]
    generalize 10 ^ R0 = a
    generalize 10 ^ 100 = y
    ac_rfl
  have PU := place_units (p := p) (by omega)
  have F0 : 0 < m * 2 ^ k := by have := Nat.two_pow_pos 63; omega
  generalize m * 2 ^ k = F at *
  obtain ⟨uu, mm, s, CNT, ok, no⟩ := hcount_is sc pw.2.1 F1 F2 (fun h0 lo' hF5 ne => by
    obtain ⟨K, K0, kg, kd, hk⟩ := five_gap (r := RH) dr d1 (sc.nx h0) h0 (by omega) hF5 F2
    exact cnt_gap lo' sc.hi F0 (Nat.le_trans (Nat.le_of_lt F2) (Nat.pow_le_pow_right (by decide) (by omega))) ne K0 kg kd hk)
  cases s with
  | true =>
    left
    obtain ⟨q1, q2⟩ := ok rfl
    clear ok no
    have T0 : 0 < 10 ^ 100 := Nat.pow_pos (by decide)
    have Du0 : 0 < 10 ^ (p + (R0 : Int)).toNat := Nat.pow_pos (by decide)
    rw [WU, PU, Nat.mul_div_mul_right _ _ T0] at q1
    have q3 : decide (F * (2 ^ (xe - (k : Int) + 1 + (RH : Int)).toNat * 5 ^ RH) % 10 ^ (p + (RH : Int)).toNat ≠ 0) = decide (2 * fv m xe % 10 ^ (p + (R0 : Int)).toNat ≠ 0) := by
      refine decide_eq_decide.2 (not_congr ?_)
      rw [WU, PU, Nat.mul_mod_mul_right, Nat.mul_eq_zero]
      constructor
      · rintro (c | c)
        · exact c
        · omega
      · exact Or.inl
    rw [q3] at q2
    have L1 : 10 ^ (n - 1) * 10 ^ (p + (R0 : Int)).toNat ≤ fv m xe := by
      rw [PU, ← Nat.mul_assoc (10 ^ (n - 1))] at w1
      have a := Nat.mul_le_mul_right (2 ^ (xe - (k : Int) + 1 + (RH : Int)).toNat * 5 ^ RH) F1
      rw [WU] at a
      refine Nat.le_of_mul_le_mul_right ?_ T0
      have e2 : 2 ^ 63 * (2 ^ (xe - (k : Int) + 1 + (RH : Int)).toNat * 5 ^ RH) = 2 * (2 ^ 62 * (2 ^ (xe - (k : Int) + 1 + (RH : Int)).toNat * 5 ^ RH)) := by rw [← Nat.mul_assoc 2]
      rw [e2, Nat.mul_assoc 2 (fv m xe)] at a
      omega
    have L2 : fv m xe < 2 * 10 ^ n * 10 ^ (p + (R0 : Int)).toNat := by
      rw [PU, ← Nat.mul_assoc (10 ^ n)] at w2
      have g0 : 0 < 2 ^ (xe - (k : Int) + 1 + (RH : Int)).toNat * 5 ^ RH := Nat.mul_pos (Nat.two_pow_pos _) (Nat.pow_pos (by decide))
      have a := Nat.mul_lt_mul_of_pos_right F2 g0
      rw [WU] at a
      refine Nat.lt_of_mul_lt_mul_right (a := 10 ^ 100) ?_
      have e2 : 2 ^ 64 * (2 ^ (xe - (k : Int) + 1 + (RH : Int)).toNat * 5 ^ RH) = 4 * (2 ^ 62 * (2 ^ (xe - (k : Int) + 1 + (RH : Int)).toNat * 5 ^ RH)) := by rw [← Nat.mul_assoc 4]
      rw [e2, Nat.mul_assoc 2 (fv m xe)] at a
      rw [Nat.mul_assoc 2, Nat.mul_assoc 2]
      omega
    have n18 : 10 ^ n ≤ 10 ^ 18 := Nat.pow_le_pow_right (by decide) n2
    have nn : 10 ^ n = 10 * 10 ^ (n - 1) := by rw [show 10 ^ n = 10 ^ (n - 1 + 1) by rw [show n - 1 + 1 = n by omega], Nat.pow_succ, Nat.mul_comm]
    have nz : 0 < 10 ^ (n - 1) := Nat.pow_pos (by decide)
    have uu1 : 2 * 10 ^ (n - 1) ≤ uu := by
      rw [q1, Nat.le_div_iff_mul_le Du0, Nat.mul_assoc]
      exact Nat.mul_le_mul_left 2 L1
    have uu2 : uu < 4 * 10 ^ n := by
      rw [q1, Nat.div_lt_iff_lt_mul Du0]
      rw [Nat.mul_assoc] at L2 ⊢
      omega
    obtain ⟨v1, v2⟩ : 10 ^ (o + (R0 : Int) - 1).toNat ≤ fv m xe ∧ fv m xe < 10 ^ (o + (R0 : Int)).toNat := by
      have x0 : 0 < fv m xe := Nat.lt_of_lt_of_le (Nat.mul_pos nz Du0) L1
      have u0 : 0 < u.size := G.pos.2 x0
      exact (G.some u0).2
    have o0 : 1 ≤ o + (R0 : Int) := by
      have x0 : 0 < fv m xe := Nat.lt_of_lt_of_le (Nat.mul_pos nz Du0) L1
      have u0 : 0 < u.size := G.pos.2 x0
      have := G.lo
      omega
    obtain ⟨kk, pl, S, hS, ek, eo, Sk, kk0⟩ : ∃ (kk : Nat) (pl : Int) (S : Nat), ((S = 20 ∧ pl = p + 1 ∧ 2 * 10 ^ n ≤ uu) ∨ (S = 2 ∧ pl = p ∧ ¬ 2 * 10 ^ n ≤ uu)) ∧ kk * 10 ^ (p + (R0 : Int)).toNat = 10 ^ (pl + (R0 : Int)).toNat ∧ (o + (R0 : Int) - (n : Int)).toNat = (pl + (R0 : Int)).toNat ∧ S = 2 * kk ∧ 0 < kk := by
      by_cases c : 2 * 10 ^ n ≤ uu
      · refine ⟨10, p + 1, 20, Or.inl ⟨rfl, rfl, c⟩, ?_, ?_, rfl, by decide⟩
        · rw [show (p + 1 + (R0 : Int)).toNat = (p + (R0 : Int)).toNat + 1 by omega, Nat.pow_succ, Nat.mul_comm]
        · rw [q1, Nat.le_div_iff_mul_le Du0] at c
          have a1 : 10 ^ (n + (p + (R0 : Int)).toNat) ≤ fv m xe := by
            rw [Nat.pow_add]
            rw [Nat.mul_assoc] at c
            omega
          have a2 : fv m xe < 10 ^ (n + (p + (R0 : Int)).toNat + 1) := by
            rw [Nat.pow_succ, Nat.pow_add]
            rw [Nat.mul_assoc] at L2
            omega
          have z := place_eqH (A := (o + (R0 : Int) - 1).toNat) v1 (by rw [show (o + (R0 : Int) - 1).toNat + 1 = (o + (R0 : Int)).toNat by omega]; exact v2) a1 a2
          omega
      · refine ⟨1, p, 2, Or.inr ⟨rfl, rfl, c⟩, Nat.one_mul _, ?_, rfl, by decide⟩
        rw [q1, Nat.le_div_iff_mul_le Du0] at c
        have a1 : 10 ^ (n - 1 + (p + (R0 : Int)).toNat) ≤ fv m xe := by rw [Nat.pow_add]; exact L1
        have a2 : fv m xe < 10 ^ (n - 1 + (p + (R0 : Int)).toNat + 1) := by
          rw [show n - 1 + (p + (R0 : Int)).toNat + 1 = n + (p + (R0 : Int)).toNat by omega, Nat.pow_add]
          rw [Nat.mul_assoc] at c
          omega
        have z := place_eqH (A := (o + (R0 : Int) - 1).toNat) v1 (by rw [show (o + (R0 : Int) - 1).toNat + 1 = (o + (R0 : Int)).toNat by omega]; exact v2) a1 a2
        omega
    have h18 : (10 : Nat) ^ 18 = 1000000000000000000 := rfl
    obtain ⟨m', j, k1, k2, k3, k4, RND⟩ := hround_is (u := uu) (n := n) (S := S) (e := mm) (p := p) (pl := pl) n2 (by omega) (by omega) (by omega) (by omega) hS
    have dx := ten_dx (n := m') (j := (j : Int) + pl) k2 k3 (by omega) (by omega)
    have tr := tm_rn (X := fv m xe) Du0 kk0
    rw [← q1, ← q2, ← Sk, ek, k1] at tr
    have e3 : m' * 10 ^ ((j : Int) + pl + (R0 : Int)).toNat = rnU (fv m xe) (10 ^ (o + (R0 : Int) - (n : Int)).toNat) := by
      rw [eo, ← tr, show ((j : Int) + pl + (R0 : Int)).toNat = j + (pl + (R0 : Int)).toNat by omega, Nat.pow_add, Nat.mul_assoc]
    rw [e3] at dx
    refine ⟨tenT m', _, dx, fun W gd => ?_⟩
    exact hd_ok (by omega) (by omega) gd.tab gd.pow U SO (fun W hT hP => srd_ok hT hP CNT (fun W hp => RND W hp))
  | false =>
    right
    obtain ⟨ce, ne, n5⟩ := no rfl
    refine ⟨fun W gd => hd_ok (by omega) (by omega) gd.tab gd.pow U SO (fun W hT _ => srd_no hT CNT), nw_of m53 (by omega) ?_⟩
    rintro ⟨v, v53, hv⟩
    have v0 : 0 < v := by
      apply Nat.pos_of_ne_zero
      rintro rfl
      have q := NWH 0 hv
      rw [Nat.mul_zero, Nat.zero_mul] at q
      have := Nat.mul_pos F0 (Nat.mul_pos (Nat.two_pow_pos (xe - (k : Int) + 1 + (RH : Int)).toNat) (Nat.pow_pos (n := RH) (show 0 < 5 by decide)))
      omega
    exact not_whole sc pe n1 n2 (by omega) F1 F2 v0 v53 (NWH v hv) ce ne n5
theorem hd_bad {b : Nat} {z n k : Int} (h : Bad b z n) (w : World) :
 Calls Tryz.prog 5 #[.int .u64 (b : Int), .int .i64 z, .int .i64 k] w fun e w' => e = .returned (.tuple #[dcV ⟨#[]⟩ 0 false, .bool false, .iface 42 (.int .i64 n)]) ∧ Below w.heap.size w w' := by
 rcases h with ⟨h, rfl⟩ | ⟨rfl, h, rfl⟩ | ⟨f, T, L, S, I, h, hb, hi, rfl⟩
 · exact hd_err (fun W => unp_no h _ W) w
 · exact hd_err (fun W => unp_big h W) w
 · have i1 := h.fs.2.2.2.2.2.1
   refine hd_not ?_ (fun W => unp_any h hb W) w
   rcases cl_cases I (mg S b) with q | q | q | q <;> omega
theorem hd_zero {z : Int} {f T : Nat} {L : Int} {S I b : Nat} {k : Int} (h : Fn z f T L S I b) (m0 : mg S b = 0) (w : World) :
 Calls Tryz.prog 5 #[.int .u64 (b : Int), .int .i64 z, .int .i64 k] w fun e w' => e = .returned (.tuple #[dcV ⟨#[]⟩ 0 false, .bool false, .iface 42 (.int .i64 1)]) ∧ Below w.heap.size w w' := by
 refine hd_not ?_ (fun W => unp_any h.sf h.lt W) w
 rw [m0, cl_zero]
 decide
theorem hd_out {z : Int} {f T : Nat} {L : Int} {S I b : Nat} {k : Int} (h : Fn z f T L S I b) (m0 : mg S b ≠ 0) (hk : k < 1 ∨ 18 < k) (w : World) :
 Calls Tryz.prog 5 #[.int .u64 (b : Int), .int .i64 z, .int .i64 k] w fun e w' => e = .returned (.tuple #[dcV ⟨#[]⟩ 0 false, .bool false, .iface 42 (.int .i64 1)]) ∧ Below w.heap.size w w' := by
 rcases hk with c | c
 · exact hd_lo c (fun W => fine_cellsH h m0 W) w
 · exact hd_hi c (fun W => fine_cellsH h m0 W) w
end Go.Proofs.YtjagnfddmlkalaaGreatDoor
