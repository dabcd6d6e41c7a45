/-
  Holds: VNatG VDiv3 VNatL VNatP VNatR VNatK VNatVl.
-/
import Derived.Test.YtohhmobfmmeohaaGreatDoorRows
import Derived.Laws.Externs
import Derived.WalkKit
import Derived.WalkSpells
import Derived.WalkLawsBesides
import Derived.Lib.Mul64
import Derived.Deep.OwnRows
import Derived.Laws.CopyOwn
import Derived.BigQuiet
import Derived.Deep.RegionHeld3
import Derived.Lib.TrailingZeros
import Derived.Lib.ItoaNum
import Derived.Deep.LoopGhost
import Derived.Test.YtohhmobfmmeohaaGreatDoorKi7
import Derived.Test.YtohhmobfmmeohaaGreatDoorKi16
import Derived.Test.YtohhmobfmmeohaaGreatDoorKi19
set_option maxRecDepth 100000
set_option maxHeartbeats 4000000
namespace Go.Proofs.YtohhmobfmmeohaaGreatDoor
open Go.RowKit
def gW (hi lo d : Nat) : Nat := if d ≤ hi then B - 1 else (hi * B + lo) / d
theorem gW_lt {hi lo d : Nat} (hlo : lo < B) : gW hi lo d < B := by
 unfold gW
 split
 · unfold B; omega
 · rename_i h
   rw [Nat.div_lt_iff_lt_mul (by omega)]
   have : (hi + 1) * B ≤ d * B := Nat.mul_le_mul_right _ (by omega)
   rw [Nat.add_mul, Nat.one_mul] at this
   rw [Nat.mul_comm B d]
   omega
def dvQ (hi lo y : Int) : Int := (hi * 18446744073709551616 + lo) / y
def dvR (hi lo y : Int) : Int := (hi * 18446744073709551616 + lo) % y
theorem div64_zero (lo y : Int) (h2 : Word lo) (h3 : Word y) (hy : 0 < y) (w : World) :
 Calls Tryz.prog 110 #[.int .u64 0, .int .u64 lo, .int .u64 y] w fun e w' => e = .returned (.tuple #[.int .u64 (dvQ 0 lo y), .int .u64 (dvR 0 lo y)]) ∧ Below w.heap.size w w' := by
 obtain ⟨a1, a2⟩ := h2
 obtain ⟨c1, c2⟩ := h3
 have hy0 : (y == 0) = false := by simp; omega
 have d1 : 0 ≤ lo / y := Int.ediv_nonneg a1 c1
 have d2 : lo / y ≤ lo := Int.ediv_le_self _ a1
 go_enter Tryz.func110, Tryz.ntmps110
 go_wp2
 go_region
 all_goals
  go_wp2
  go_ret2
  exact ⟨ret_ww (by unfold dvQ; rw [Int.zero_mul, Int.zero_add]) (by unfold dvR; rw [Int.zero_mul, Int.zero_add]), (Below.refl _ _).drew⟩
theorem div64_any (hi lo y : Int) (h1 : Word hi) (h2 : Word lo) (h3 : Word y) (hlt : hi < y) (w : World) :
 Calls Tryz.prog 110 #[.int .u64 hi, .int .u64 lo, .int .u64 y] w fun e w' => e = .returned (.tuple #[.int .u64 (dvQ hi lo y), .int .u64 (dvR hi lo y)]) ∧ Below w.heap.size w w' := by
 have hi0 := h1.1
 by_cases z : hi = 0
 · subst z; exact div64_zero lo y h2 h3 hlt w
 have hz : (hi == 0) = false := by simp; omega
 have hy0 : (y == 0) = false := by simp; omega
 obtain ⟨n, b1, b2, b3, b4⟩ := blen_bounds y (by omega) h3.2
 obtain ⟨U, L, Y, e1, e4, e5, f1, f2, f3, f4, f5, f6, f7, f8⟩ := norm_setup h1 h2 hlt b2 b3 b4
 have hS : (0 : Int) < 2 ^ (63 - n) := Int.pow_pos (by omega)
 have D1 : Divd U (L / 4294967296) Y (Y / 4294967296) (Y % 4294967296) := ⟨by omega, by omega, by omega, by omega, by omega, f4, f5, by omega, by omega⟩
 have s1 := D1.start
 have r1 := D1.rd_lt
 have q1 := D1.eq
 have t1 := D1.qd_lt
 have t1' := D1.qd_nonneg
 have D2 : Divd (rd U (L / 4294967296) Y) (L % 4294967296) Y (Y / 4294967296) (Y % 4294967296) := ⟨by omega, by omega, by omega, by omega, by omega, r1.1, r1.2, by omega, by omega⟩
 have s2 := D2.start
 have r2 := D2.rd_lt
 have q2 := D2.eq
 have t2 := D2.qd_lt
 have t2' := D2.qd_nonneg
 obtain ⟨g1, g2⟩ := div_whole hS (by omega : 0 < y) f1 f8 (by omega : L = L / 4294967296 * 4294967296 + L % 4294967296) q1 q2 r2.1 r2.2
 have z1 : 0 ≤ U / (Y / 4294967296) * (Y / 4294967296) := Int.mul_nonneg (by omega) (by omega)
 have z2 : 0 ≤ rd U (L / 4294967296) Y / (Y / 4294967296) * (Y / 4294967296) := Int.mul_nonneg (by omega) (by omega)
 have core := div64_core hi lo y U L Y (Y / 4294967296) (Y % 4294967296) (L / 4294967296) (L % 4294967296) (U / (Y / 4294967296)) (U / (Y / 4294967296) * (Y / 4294967296)) (qd U (L / 4294967296) Y) (rd U (L / 4294967296) Y)
  (rd U (L / 4294967296) Y / (Y / 4294967296)) (rd U (L / 4294967296) Y / (Y / 4294967296) * (Y / 4294967296)) (qd (rd U (L / 4294967296) Y) (L % 4294967296) Y) (rd (rd U (L / 4294967296) Y) (L % 4294967296) Y) n w
  hi0 h2.1 h3 hlt hz hy0 b1 b2 e1 e4 e5 rfl (mask_u64 ⟨by omega, f3⟩) rfl (mask_u64 ⟨f6, f7⟩) f4 (by omega) (by omega) (by omega) (by omega) (by omega) (by omega) (by omega) f6
  rfl rfl (by omega) (by omega) (by omega) (by omega) (by omega) (by omega) D1 rfl (by omega)
  (by simp only [IntKind.wrap_u64]; generalize qd U (L / 4294967296) Y * Y = M at *; omega)
  (by omega) rfl rfl (by omega) (by omega) (by omega) (by omega) (by omega) (by omega) D2 rfl (by omega)
  (by simp only [IntKind.wrap_u64]; generalize qd (rd U (L / 4294967296) Y) (L % 4294967296) Y * Y = M at *; omega)
  (by omega) (by omega) (by omega) (by omega) (by omega) (by omega)
 refine core.mono ?_
 rintro e w' ⟨rfl, rfl⟩
 exact ⟨ret_ww g1 g2, Below.refl _ _⟩
theorem div64N (hi lo d : Nat) (h2 : lo < B) (h3 : d < B) (hlt : hi < d) (w : World) :
 Calls Tryz.prog 110 #[.int .u64 (hi : Int), .int .u64 (lo : Int), .int .u64 (d : Int)] w fun e w' => e = .returned (.tuple #[.int .u64 (((hi * B + lo) / d : Nat) : Int), .int .u64 (((hi * B + lo) % d : Nat) : Int)]) ∧ Below w.heap.size w w' := by
 unfold B at *
 refine (div64_any (hi : Int) (lo : Int) (d : Int) ⟨by omega, by omega⟩ ⟨by omega, by omega⟩ ⟨by omega, by omega⟩ (by omega) w).mono ?_
 rintro e w' ⟨rfl, hb⟩
 refine ⟨?_, hb⟩
 unfold dvQ dvR
 rw [Int.natCast_ediv, Int.natCast_emod, Int.natCast_add, Int.natCast_mul]
 rfl
theorem by_step {T x d : Nat} (hd : 0 < d) : (T * B + x) / d = T / d * B + (T % d * B + x) / d ∧ (T * B + x) % d = (T % d * B + x) % d := by
 have e := Nat.div_add_mod T d
 have q : T * B + x = d * (T / d * B) + (T % d * B + x) := by
  generalize T / d = a at *
  generalize T % d = b at *
  rw [← e]
  generalize B = β
  grind
 rw [q]
 exact ⟨by rw [Nat.mul_add_div hd], by rw [Nat.mul_add_mod]⟩
theorem V_top (f : Nat → Nat) (k n : Nat) (h : k < n) : V (fun i => f (k + i)) (n - k) = V (fun i => f (k + 1 + i)) (n - (k + 1)) * B + f k := by
 have e := V_split (fun i => f (k + i)) 1 (n - (k + 1))
 rw [show 1 + (n - (k + 1)) = n - k by omega, V_succ, V_zero, Nat.pow_zero, Nat.pow_one, Nat.zero_add, Nat.mul_one, Nat.add_zero] at e
 rw [e, Nat.add_comm]
 congr 2
 exact V_congr fun i _ => by show f (k + (1 + i)) = f (k + 1 + i); rw [Nat.add_assoc]
theorem divideBy_any {w : World} {g N n c : Nat} {F : Nat → Nat} (R : Row w g N F) (hn : n ≤ N) (hn2 : n ≤ 1000) (d : Nat) (hd : 0 < d) (hdB : d < B) :
 Calls Tryz.prog 93 #[.slice (some ⟨g, 0, none⟩) n c, .int .u64 (d : Int)] w fun e w' => e = .returned (.int .u64 ((V F n % d : Nat) : Int)) ∧ w.grownBy w' (some g) ∧
  ∃ F', Row w' g N F' ∧ V F' n = V F n / d := by
 have HD : Hid (0 < d ∧ d < B) := ⟨hd, hdB⟩
 clear hd hdB
 go_enter Tryz.func93, Tryz.ntmps93
 go_wp2
 go_loopw [5, 6] (fun lf i wr => ∃ (k l : Nat) (F' : Nat → Nat), lf = .int .u64 (l : Int) ∧ i = .int .i64 ((k : Int) - 1) ∧ k ≤ n ∧ Row wr g N F' ∧ w.grownBy wr (some g) ∧ (∀ i, i < k → F' i = F i) ∧ V (fun i => F' (k + i)) (n - k) = V (fun i => F (k + i)) (n - k) / d ∧ l = V (fun i => F (k + i)) (n - k) % d) (fun _ i _ => (intOf i + 1).toNat)
 case atStart => exact ⟨n, 0, F, rfl, rfl, Nat.le_refl _, R, World.grownBy.refl _ _, fun i _ => rfl, by rw [Nat.sub_self, V_zero, Nat.zero_div], by rw [Nat.sub_self, V_zero, Nat.zero_mod]⟩
 case round =>
  obtain ⟨k, l, F', rfl, rfl, hk, R', hgr, hfr, hv, hl⟩ := hrel
  have HR : Hid (Row wr g N F' ∧ w.grownBy wr (some g)) := ⟨R', hgr⟩
  have HV : Hid ((∀ i, i < k → F' i = F i) ∧ V (fun i => F' (k + i)) (n - k) = V (fun i => F (k + i)) (n - k) / d ∧ l = V (fun i => F (k + i)) (n - k) % d) := ⟨hfr, hv, hl⟩
  clear hfr hv
  by_cases c1 : 0 < k
  · obtain ⟨i, rfl⟩ : ∃ i, k = i + 1 := ⟨k - 1, by omega⟩
    have cz := R'.row.cell (i := i) (by omega)
    have fz := R'.row.frozen i
    have hld : l < d := by rw [hl]; exact Nat.mod_lt _ HD.out.1
    have T := fun W => div64N l (F' i) d (R'.ws i) HD.out.2 hld W
    have hqB : (l * B + F' i) / d < B := by
     have q := gW_lt (hi := l) (d := d) (R'.ws i)
     unfold gW at q
     rw [if_neg (by omega)] at q
     exact q
    obtain ⟨b1, b2⟩ := by_step (T := V (fun j => F (i + 1 + j)) (n - (i + 1))) (x := F i) HD.out.1
    have HB : Hid ((V (fun j => F (i + 1 + j)) (n - (i + 1)) * B + F i) / d = V (fun j => F (i + 1 + j)) (n - (i + 1)) / d * B + (l * B + F' i) / d ∧ (V (fun j => F (i + 1 + j)) (n - (i + 1)) * B + F i) % d = (l * B + F' i) % d) := by
     rw [HV.out.1 i (by omega), hl]; exact ⟨b1, b2⟩
    have HQ : Hid ((l * B + F' i) / d < B) := hqB
    clear R' hgr hl b1 b2 hqB hld
    generalize (l * B + F' i) / d = q at *
    generalize (l * B + F' i) % d = r at *
    rw [show ((i + 1 : Nat) : Int) - 1 = (i : Int) by omega]
    go_wp2_with fail
    refine (T _).mono ?_
    rintro e wa ⟨rfl, hba⟩
    have Ra := HR.out.1.below hba
    have ca := Ra.row.cell (i := i) (by omega)
    have fa := Ra.row.frozen i
    have HRa : Hid (Row wa g N F' ∧ w.grownBy wa (some g)) := ⟨Ra, grown_trans HR.out.2 ⟨hba.os, hba.tape, hba.output, hba.size, fun k hk _ => hba.block k hk⟩⟩
    clear Ra cz fz hba T
    go_wp2
    go_roundw
    case rel =>
     refine ⟨i, r, put F' i q, rfl, by go_num, by omega, HRa.out.1.set i HQ.out, grown_set HRa.out.2 _, fun j hj => ?_, ?_, ?_⟩
     · rw [put_ne (by omega)]; exact HV.out.1 j (by omega)
     · rw [V_top (put F' i q) i n (by omega), V_top F i n (by omega), put_at, V_congr (f := fun j => put F' i q (i + 1 + j)) (g := fun j => F' (i + 1 + j)) (fun j _ => put_ne (by omega)), HV.out.2.1]
       exact HB.out.1.symm
     · rw [V_top F i n (by omega)]; exact HB.out.2.symm
    case measure => first | (simp [intOf]; done) | (simp [intOf]; omega)
  · obtain rfl : k = 0 := by omega
    have e0 : ∀ f : Nat → Nat, (fun i => f (0 + i)) = f := fun f => funext fun i => by rw [Nat.zero_add]
    have h2 := HV.out.2
    rw [e0, e0, Nat.sub_zero] at h2
    have HE : Hid (V F' n = V F n / d ∧ l = V F n % d) := h2
    clear R' hgr hl h2 c1 e0
    go_wp2
    go_ret
    exact ⟨by rw [← HE.out.2]; rfl, HR.out.2, F', HR.out.1, HE.out.1⟩
theorem chunk_any (b : Nat) (h1 : 2 ≤ b) (h2 : b ≤ 36) (w : World) :
 Calls Tryz.prog 91 #[.int .i64 (b : Int)] w fun e w' => ∃ k P : Nat, e = .returned (.tuple #[.int .i64 (k : Int), .int .u64 (P : Int)]) ∧ P = b ^ k ∧ 1 ≤ k ∧ k ≤ 64 ∧ P < B ∧ w' = w := by
 go_enter Tryz.func91, Tryz.ntmps91
 go_wp2
 go_loop [4, 5] (fun c p => ∃ k P : Nat, c = .int .i64 (k : Int) ∧ p = .int .u64 (P : Int) ∧ Hid (P = b ^ k) ∧ k ≤ 64 ∧ P < B) (fun c _ => 64 - (intOf c).toNat)
 case atStart => exact ⟨0, 1, rfl, rfl, rfl, by omega, by decide⟩
 case round =>
  obtain ⟨k, P, rfl, rfl, HP, hk, hlt⟩ := hrel
  have hk64 : k < 64 := by
   rcases Nat.lt_or_ge k 64 with z | z
   · exact z
   · exfalso
     have a : 2 ^ 64 ≤ 2 ^ k := Nat.pow_le_pow_right (by omega) z
     have c : 2 ^ k ≤ b ^ k := Nat.pow_le_pow_left h1 k
     have e : B = 2 ^ 64 := rfl
     have := HP.out
     omega
  have HL : Hid (P < B) := hlt
  have hltB : P < 18446744073709551616 := hlt
  clear hlt
  by_cases c1 : (P : Int) ≤ 18446744073709551615 / (b : Int)
  · have hm : P * b < B := by
     have a : P ≤ 18446744073709551615 / b := by
      have z : (18446744073709551615 : Int) / (b : Int) = ((18446744073709551615 / b : Nat) : Int) := by rw [Int.natCast_ediv]; rfl
      rw [z] at c1
      exact Int.ofNat_le.mp c1
     have c := Nat.mul_le_mul_right b a
     have e := Nat.div_mul_le_self 18446744073709551615 b
     unfold B; omega
    have HM : Hid (P * b < B) := hm
    have wr1 : IntKind.u64.wrap ((P : Int) * (b : Int)) = ((P * b : Nat) : Int) := by
     unfold B at hm
     rw [← Int.natCast_mul, IntKind.wrap_u64]; omega
    clear hm
    obtain ⟨Q, hQ⟩ : ∃ Q, P * b = Q := ⟨_, rfl⟩
    have HQ : Hid (P * b = Q) := hQ
    rw [hQ] at wr1
    clear hQ
    go_wp2
    go_round
    case rel => exact ⟨k + 1, Q, by go_num, rfl, by show Q = b ^ (k + 1); rw [Nat.pow_succ, ← HP.out, HQ.out], by omega, by rw [← HQ.out]; exact HM.out⟩
    case measure => simp [intOf]; omega
  · have c1' : decide ((P : Int) ≤ 18446744073709551615 / (b : Int)) = false := by simpa using c1
    have hk1 : 1 ≤ k := by
     rcases Nat.eq_zero_or_pos k with z | z
     · exfalso
       apply c1
       have e1 : P = 1 := by rw [HP.out, z, Nat.pow_zero]
       rw [e1, show (18446744073709551615 : Int) / (b : Int) = ((18446744073709551615 / b : Nat) : Int) by rw [Int.natCast_ediv]; rfl]
       have : 1 ≤ 18446744073709551615 / b := (Nat.le_div_iff_mul_le (by omega)).mpr (by omega)
       omega
     · exact z
    clear c1
    go_wp2
    go_ret2
    exact ⟨k, P, rfl, HP.out, hk1, hk, HL.out, rfl⟩
theorem isBase_yes (b : Nat) (h1 : 2 ≤ b) (h2 : b ≤ 36) (w : World) :
 Calls Tryz.prog 90 #[.int .i64 (b : Int)] w fun e w' => e = .returned (.bool true) ∧ w' = w := by
 have h3 : decide ((b : Int) ≤ 36) = true := by simp; omega
 go_enter Tryz.func90, Tryz.ntmps90
 go_wp2
 go_ret
 exact ⟨rfl, rfl⟩
def rowText (b x k : Nat) : ByteArray := strOfNums ((List.range k).map fun i => ((ch (x / b ^ (k - 1 - i) % b) : Nat) : Int))
theorem lows_glue (b x k j : Nat) : lows b x k ++ lows b (x / b ^ k) j = lows b x (k + j) := by
 induction j with
 | zero => show lows b x k ++ [] = _; rw [List.append_nil]; rfl
 | succ j ih => rw [lows_succ, ← List.append_assoc, ih, show k + (j + 1) = k + j + 1 by omega, lows_succ, Nat.div_div_eq_div_mul, ← Nat.pow_add]
theorem lows_mod (b x k j : Nat) (h : j ≤ k) : lows b (x % b ^ k) j = lows b x j := by
 unfold lows
 refine List.map_congr_left fun i hi => ?_
 have hi' : i < j := by simpa using hi
 rw [show b ^ k = b ^ i * b ^ (k - i) by rw [← Nat.pow_add, show i + (k - i) = k by omega], Nat.mod_mul_right_div_self]
 refine Nat.mod_mod_of_dvd _ ?_
 rw [show k - i = k - i - 1 + 1 by omega, Nat.pow_succ]
 exact Nat.dvd_mul_left _ _
theorem first_digit {b X : Nat} (hX : X ≠ 0) : ∀ k, X < b ^ k → ∃ K, K ≤ k ∧ 1 ≤ K ∧ b ^ (K - 1) ≤ X ∧ X < b ^ K
  | 0, h => by rw [Nat.pow_zero] at h; omega
  | k + 1, h => by
    rcases Nat.lt_or_ge X (b ^ k) with c | c
    · obtain ⟨K, a, r⟩ := first_digit hX k c
      exact ⟨K, by omega, r⟩
    · exact ⟨k + 1, Nat.le_refl _, by omega, by rw [Nat.add_sub_cancel]; exact c, h⟩
theorem few {X n r k b : Nat} (hb : 2 ≤ b) (hX : X < B ^ 128) (h : X / b ^ (r * k) ≠ 0) (hn : n = r * k) : n ≤ 8192 := by
 subst hn
 rcases Nat.lt_or_ge 8192 (r * k) with c | c
 · exfalso
   apply h
   apply Nat.div_eq_of_lt
   refine Nat.lt_of_lt_of_le hX ?_
   rw [B_pow]
   have c' : 64 * 128 ≤ r * k := by omega
   generalize 64 * 128 = N at *
   exact Nat.le_trans (Nat.pow_le_pow_right (by omega) c') (Nat.pow_le_pow_left hb _)
 · exact c
theorem ch_lt {d : Nat} (h : d < 36) : ch d < 256 := by unfold ch; split <;> omega
theorem rowText_size (b x k : Nat) : (rowText b x k).size = k := by unfold rowText; rw [strOfNums_size]; simp
theorem rowText_at {b x k i : Nat} (hb : 0 < b) (h2 : b ≤ 36) : ∀ hh, ((rowText b x k)[i]'hh).toNat = ch (x / b ^ (k - 1 - i) % b) := by
 intro hh
 have e : (rowText b x k)[i]'hh = UInt8.ofNat (ch (x / b ^ (k - 1 - i) % b)) := by
  show (rowText b x k).data[i]'hh = _
  unfold rowText strOfNums
  simp
 rw [e]
 exact Nat.mod_eq_of_lt (ch_lt (Nat.lt_of_lt_of_le (Nat.mod_lt _ hb) h2))
theorem rowText_cut {b x k K : Nat} (h : K ≤ k) : (rowText b x k).extract (k - K) k = rowText b x K := by
 apply ByteArray.ext
 rw [ByteArray.data_extract]
 apply Array.ext
 · unfold rowText strOfNums
   simp
   omega
 · intro i h1 h2
   unfold rowText strOfNums
   simp
   rw [show k - 1 - (k - K + i) = K - 1 - i by omega]
theorem digit_zero {b x K j : Nat} (h : x < b ^ K) (hj : K ≤ j) (hb : 0 < b) : x / b ^ j % b = 0 := by
 rw [Nat.div_eq_of_lt (Nat.lt_of_lt_of_le h (Nat.pow_le_pow_right hb hj)), Nat.zero_mod]
theorem digit_first {b x K : Nat} (hb : 0 < b) (hK : 1 ≤ K) (h1 : b ^ (K - 1) ≤ x) (h2 : x < b ^ K) : x / b ^ (K - 1) % b ≠ 0 := by
 have p : 0 < b ^ (K - 1) := Nat.pow_pos hb
 have a : 1 ≤ x / b ^ (K - 1) := (Nat.le_div_iff_mul_le p).mpr (by omega)
 have c : x / b ^ (K - 1) < b := by
  rw [Nat.div_lt_iff_lt_mul p, Nat.mul_comm, ← Nat.pow_succ, show (K - 1).succ = K by omega]; exact h2
 rw [Nat.mod_eq_of_lt c]
 omega
theorem ch_48 {d : Nat} : ch d = 48 ↔ d = 0 := by unfold ch; split <;> omega
theorem und_byte8 : Tryz.prog.underlying 5 = some (.int .u8) := by kernel_rfl
theorem und_str9 : Tryz.prog.underlying 9 = some .string := by kernel_rfl
structure DgI (g n b X P k0 r t base : Nat) (Fr : Nat → Nat) (tx : Value) (w0 wr : World) : Prop where
 row : Row wr g n Fr
 tn : t ≤ n
 top : Top Fr t
 val : V Fr t = X / b ^ (r * k0)
 own : wr.ownsRow base 5 1 tx (r * k0) (chV (lows b X (r * k0)))
 below : Below w0.heap.size w0 wr
 size : base ≤ wr.heap.size
 small : r * k0 ≤ 8256
theorem digits_any {w : World} {va : Value} {X : Nat} (ha : NatV w va X) (hX : X ≠ 0) (b : Nat) (h1 : 2 ≤ b) (h2 : b ≤ 36) :
 Calls Tryz.prog 68 #[va, .int .i64 (b : Int)] w fun e w' => ∃ K : Nat, e = .returned (.tuple #[.string (rowText b X K), .nilIface]) ∧ 1 ≤ K ∧ b ^ (K - 1) ≤ X ∧ X < b ^ K ∧ Below w.heap.size w w' := by
 obtain ⟨ao, n, c, bb, o, f, rfl, S, t, rfl, hn⟩ := ha
 have hn0 := natv_pos S hX
 have hXB : V f n < B ^ 128 := Nat.lt_of_lt_of_le (V_lt S.ws n) (Nat.pow_le_pow_right B_pos hn)
 have V1 := valid_any S
 rw [verr_ok hn t] at V1
 unfold errV at V1
 have hz : ((n : Int) == 0) = false := beq_eq_false_iff_ne.mpr (by omega)
 have IB := isBase_yes b h1 h2
 have CH := chunk_any b h1 h2
 have hmk := run_make_row' (P := Tryz.prog) 98 22 (.int .u64 0) 8 und_nat info_u64 rfl .i64 .i64 n (by omega) (by omega)
 have HX : Hid (V f n ≠ 0 ∧ V f n < B ^ 128 ∧ Top f n) := ⟨hX, hXB, t⟩
 clear hX hXB t
 go_enter Tryz.func68, Tryz.ntmps68
 go_wp2_with fail
 refine V1.mono ?_
 rintro e w1 ⟨rfl, hb1⟩
 go_wp2_with fail
 refine (IB _).mono ?_
 rintro e w1' ⟨rfl, rfl⟩
 have S1 := S.below hb1
 have bA : Below w1'.heap.size w1' (w1'.alloc (.cells (madeCells #[.int .u64 0] n) 22)) := (Below.refl _ _).alloc (Nat.le_refl _) _
 obtain ⟨w2, hcp, R2, hg2⟩ := copy_run (cz := n) (made_row w1' n) (S1.below bA) (Nat.le_refl n)
 have b2 : Below w1'.heap.size w1' w2 := below_grown bA hg2 (Nat.le_refl _)
 go_wp2_with fail
 refine (CH _).mono ?_
 rintro e w3 ⟨k0, P, rfl, hP, hk1, hk64, hPB, rfl⟩
 have HP : Hid (P = b ^ k0 ∧ P < B) := ⟨hP, hPB⟩
 have hglt : w1'.heap.size < w3.heap.size := R2.row.lt
 have hwf : Ws (fun i => if i < n then f i else 0) := R2.ws
 have D0 : Hid (DgI w1'.heap.size n b (V f n) P k0 0 n w3.heap.size (fun i => if i < n then f i else 0) (.slice none 0 0) w w3) := by
  refine ⟨R2, Nat.le_refl _, ?_, ?_, ?_, hb1.trans (b2.mono hb1.size), Nat.le_refl _, by omega⟩
  · rcases HX.out.2.2 with q | q
    · exact Or.inl q
    · right; show (if n - 1 < n then f (n - 1) else 0) ≠ 0; rw [if_pos (by omega)]; exact q
  · rw [Nat.zero_mul, Nat.pow_zero, Nat.div_one]; exact V_congr fun i hi => by show (if i < n then f i else 0) = f i; rw [if_pos hi]
  · rw [Nat.zero_mul]; exact World.ownsRow_nil _ _ _ _
 clear hP hPB R2 hg2 bA b2 S1 hmk hcp hwf V1 IB CH
 go_wp2
 go_loopg [7, 10] (V f n) (fun gk rs tx wr => ∃ (r t cc : Nat) (Fr : Nat → Nat), rs = .slice (some ⟨w1'.heap.size, 0, none⟩) t cc ∧ gk = V Fr t ∧ t ≤ cc ∧ cc ≤ n ∧ DgI w1'.heap.size n b (V f n) P k0 r t w3.heap.size Fr tx w wr)
 case atStart => exact ⟨0, n, n, _, rfl, by rw [D0.out.val, Nat.zero_mul, Nat.pow_zero, Nat.div_one], Nat.le_refl _, Nat.le_refl _, D0.out⟩
 case round =>
  obtain ⟨r, t, cc, Fr, rfl, rfl, htc, hcn, I⟩ := hrel
  have tn := I.tn
  have HI : Hid (DgI w1'.heap.size n b (V f n) P k0 r t w3.heap.size Fr _ w wr) := I
  clear I D0
  by_cases c1 : 0 < t
  · have DB := divideBy_any (c := cc) HI.out.row tn (by omega) P (by have := HP.out.1; have := Nat.pow_pos (n := k0) (show 0 < b by omega); omega) HP.out.2
    have hvt := HI.out.val
    have hvne : V Fr t ≠ 0 := by
     have q := Top_ge HI.out.top c1
     have := Bp_pos (t - 1)
     omega
    have hfew : r * k0 ≤ 8192 := few h1 HX.out.2.1 (by rw [← hvt]; exact hvne) rfl
    have hP2 : 2 ≤ P := by
     rw [HP.out.1]
     have q : b ^ 1 ≤ b ^ k0 := Nat.pow_le_pow_right (by omega) hk1
     rw [Nat.pow_one] at q
     omega
    have hmB : V Fr t % P < B := Nat.lt_trans (Nat.mod_lt _ (by omega)) HP.out.2
    have HN : Hid (V Fr t ≠ 0 ∧ V Fr t = V f n / b ^ (r * k0) ∧ V Fr t % P < B) := ⟨hvne, hvt, hmB⟩
    clear hvt hvne hmB
    obtain ⟨md, hmd⟩ : ∃ x, V Fr t % P = x := ⟨_, rfl⟩
    have HMD : Hid (V Fr t % P = md) := hmd
    rw [hmd] at DB
    clear hmd
    go_wp2_with fail
    refine DB.mono ?_
    rintro e w5 ⟨rfl, hg5, F5, R5, hv5⟩
    have own5 := HI.out.own.kept hg5 (Or.inr (fun e => by have := (HI.out.own.lt _ e).1; omega))
    have hs5 : w3.heap.size ≤ w5.heap.size := Nat.le_trans HI.out.size hg5.size
    have LW := lowest_any own5 hs5 md (by rw [← HMD.out]; exact HN.out.2.2) k0 hk64 (by omega) b h1 h2
    go_wp2_with fail
    refine LW.mono ?_
    rintro e w6 ⟨v6, rfl, own6, hb6⟩
    have R6 : Row w6 w1'.heap.size n F5 := ⟨R5.row.of_block (hb6.block _ hglt), R5.ws⟩
    have S6 : Sl w6 (some ⟨w1'.heap.size, 0, none⟩) t cc w1'.heap.size 0 F5 := by
     have q := R6.sl (o := 0) (n := t) (c := cc) (by omega) htc (by unfold maxLen; omega)
     rw [show (fun i => F5 (0 + i)) = F5 from funext fun i => by rw [Nat.zero_add]] at q
     exact q
    have TR := trim_any S6
    have hb56 : Below w.heap.size w w6 := (below_grown HI.out.below hg5 hb1.size).trans (hb6.mono (by have := hb1.size; omega))
    have H6 : Hid (DgI w1'.heap.size n b (V f n) P k0 (r + 1) (tl F5 t) w3.heap.size F5 v6 w w6 ∧ V F5 (tl F5 t) < V Fr t ∧ tl F5 t ≤ n) := by
     have tle := tl_le F5 t
     refine ⟨⟨R6, by omega, tl_top F5 t, ?_, ?_, hb56, Nat.le_trans hs5 hb6.size, by rw [Nat.succ_mul]; omega⟩, ?_, by omega⟩
     · rw [tl_V, hv5, HN.out.2.1, HP.out.1, Nat.div_div_eq_div_mul, ← Nat.pow_add, Nat.succ_mul]
     · rw [Nat.succ_mul, ← lows_glue, ← HN.out.2.1]
       rw [← HMD.out, HP.out.1, lows_mod b _ k0 k0 (Nat.le_refl _)] at own6
       exact own6
     · rw [tl_V, hv5]; exact Nat.div_lt_self (Nat.pos_of_ne_zero HN.out.1) hP2
    clear hb56 S6 R6 own6 hb6 LW own5 R5 hv5 hg5 DB
    generalize tl F5 t = t6 at *
    go_wp2_with fail
    refine TR.mono ?_
    rintro e w7 ⟨rfl, rfl⟩
    go_wp2
    go_roundg (V F5 t6)
    case measure => exact H6.out.2.1
    case rel => exact ⟨r + 1, t6, t6, F5, rfl, rfl, Nat.le_refl _, H6.out.2.2, H6.out.1⟩
  · obtain rfl : t = 0 := by omega
    have hv0 := HI.out.val
    rw [V_zero] at hv0
    have hXlt : V f n < b ^ (r * k0) := by
     have p : 0 < b ^ (r * k0) := Nat.pow_pos (by omega)
     exact (Nat.div_eq_zero_iff_lt p).mp hv0.symm
    have sm := HI.out.small
    have hbel := HI.out.below
    have hsz3 := HI.out.size
    have hN0 : 0 < r * k0 := by
     rcases Nat.eq_zero_or_pos (r * k0) with q | q
     · rw [q, Nat.pow_zero] at hXlt; have := HX.out.1; omega
     · exact q
    obtain ⟨K, hKk, hK1, hKlo, hKhi⟩ := first_digit HX.out.1 (r * k0) hXlt
    have hown := HI.out.own
    clear hv0 hXlt
    obtain ⟨N, hN⟩ : ∃ N, r * k0 = N := ⟨_, rfl⟩
    rw [hN] at sm hN0 hKk hown
    rcases hown.2 with ⟨_, q⟩ | ⟨gt, cap, cur, hv, hbg, hheap, hle, hmx, hcs, htk⟩
    · omega
    rw [Nat.mul_one] at hcs htk
    have hfv : ∀ i, i < N → (fun i => cur.getD i undef) i = .int .u8 ((ch (V f n / b ^ i % b) : Nat) : Int) := by
     intro i hi
     have q : (cur.toList.take N)[i]? = (chV (lows b (V f n) N))[i]? := by rw [htk]
     rw [List.getElem?_take_of_lt hi] at q
     have q2 : (chV (lows b (V f n) N))[i]? = some (.int .u8 ((ch (V f n / b ^ i % b) : Nat) : Int)) := by
      unfold chV lows
      rw [List.getElem?_map, List.getElem?_map, List.getElem?_range hi]
      rfl
     rw [q2] at q
     have q3 : cur[i]? = some (.int .u8 ((ch (V f n / b ^ i % b) : Nat) : Int)) := by simpa using q
     show cur.getD i undef = _
     rw [Array.getD_eq_getD_getElem?, q3]
     rfl
    have hrow : wr.rowIs gt 5 cap (fun i => cur.getD i undef) := ⟨cur, hheap, hcs, fun i hi => by
     show cur[i]? = some (cur.getD i undef)
     rw [Array.getD_eq_getD_getElem?, Array.getElem?_eq_getElem (by omega)]
     rfl⟩
    have hfv2 : ∀ i, i < N → cur.getD i undef = .int .u8 ((ch (V f n / b ^ i % b) : Nat) : Int) := hfv
    have RV := reverse_any (c := cap) hrow hfv hle (by omega)
    have hgt : w.heap.size ≤ gt := by have := hb1.size; omega
    have HF : Hid (1 ≤ K ∧ b ^ (K - 1) ≤ V f n ∧ V f n < b ^ K ∧ K ≤ N ∧ Below w.heap.size w wr) := ⟨hK1, hKlo, hKhi, hKk, hbel⟩
    clear hK1 hKlo hKhi hKk hbel hrow hfv htk hheap hown hcs
    subst hv
    go_wp2_with fail
    refine RV.mono ?_
    rintro e w8 ⟨rfl, hg8, f8, R8, h8⟩
    have hcell : ∀ i, i < N → w8.cell? ⟨gt, 0 + i, none⟩ = some (.int .u8 (((List.range N).map fun i => ((ch (V f n / b ^ (N - 1 - i) % b) : Nat) : Int)).getD i 0)) := by
     intro i hi
     rw [Nat.zero_add, R8.cell (by omega), h8 i hi, hfv2 (N - 1 - i) (by omega)]
     congr 2
     rw [List.getD_eq_getElem?_getD, List.getElem?_map, List.getElem?_range hi]
     rfl
    have hconv := run_convert_bytes_arg w8 109 5 und_text und_byte8 gt 0 N cap ((List.range N).map fun i => ((ch (V f n / b ^ (N - 1 - i) % b) : Nat) : Int)) (by simp) hcell 9 und_str9
    rw [show strOfNums ((List.range N).map fun i => ((ch (V f n / b ^ (N - 1 - i) % b) : Nat) : Int)) = rowText b (V f n) N from rfl] at hconv
    have rs := rowText_size b (V f n) N
    have TL := trimLeft_any (rowText b (V f n) N) (by rw [rs]; omega) (N - K) (by rw [rs]; omega) (by rw [rs]; exact hN0)
     (fun i hi => by rw [rowText_at (by omega) h2, ch_48]; exact digit_zero HF.out.2.2.1 (by have := HF.out.2.2.2.1; omega) (by omega))
     (fun hh => by
      rw [rowText_at (by omega) h2]
      intro q
      rw [ch_48, show N - 1 - (N - K) = K - 1 by have := HF.out.2.2.2.1; have := HF.out.1; omega] at q
      exact digit_first (by omega) HF.out.1 HF.out.2.1 HF.out.2.2.1 q)
    rw [rs, rowText_cut HF.out.2.2.2.1] at TL
    have HB8 : Hid (Below w.heap.size w w8) := below_grown HF.out.2.2.2.2 hg8 hgt
    clear hcell rs h8 R8 hg8 RV
    generalize rowText b (V f n) N = TT at *
    go_wp2_with fail
    refine (TL _).mono ?_
    rintro e w9 ⟨rfl, rfl⟩
    go_wp2
    refine bodyPost_ret (v := .tuple #[.string (rowText b (V f n) K), .nilIface]) (by simp [results, Tryz.results68, go_sem]) rfl ⟨K, rfl, HF.out.1, HF.out.2.1, HF.out.2.2.1, HB8.out⟩
theorem length_any {w : World} {ao : Option Addr} {n c b o : Nat} {f : Nat → Nat} (S : Sl w ao n c b o f) (h0 : 0 < n) (hn : n ≤ 1000) :
 Calls Tryz.prog 87 #[.slice ao n c] w fun e w' => e = .returned (.int .i64 (((n : Int) - 1) * 64 + blen (f (n - 1) : Int))) ∧ Below w.heap.size w w' := by
 obtain rfl := S.addr h0
 have hc := S.cell (n - 1) (by omega)
 have hw := S.ws (n - 1)
 unfold B at hw
 have hb := blen_01 (f (n - 1) : Int) (by omega) (by omega)
 have e1 : ((n : Int) == 0) = false := beq_eq_false_iff_ne.mpr (by omega)
 have HL := len64_any (f (n - 1) : Int) ⟨by omega, by omega⟩ w
 generalize blen (f (n - 1) : Int) = L at *
 go_enter Tryz.func87, Tryz.ntmps87
 go_wp2_with fail
 refine HL.mono ?_
 rintro e w' ⟨rfl, rfl⟩
 go_wp2
 go_ret
 exact ⟨rfl, Below.refl _ _⟩
theorem twoB_pow (k : Nat) : B ^ k = 2 ^ (64 * k) := by
 rw [Nat.pow_mul]
 rfl
theorem length_le {f : Nat → Nat} {n : Nat} (hf : Ws f) (t : Top f n) (h0 : 0 < n) : ∃ L : Nat, ((n : Int) - 1) * 64 + blen (f (n - 1) : Int) = (L : Int) + 1 ∧ 2 ^ L ≤ V f n := by
 obtain ⟨k, rfl⟩ : ∃ k, n = k + 1 := ⟨n - 1, by omega⟩
 have tk : f k ≠ 0 := by
  rcases t with z | z
  · omega
  · simpa using z
 have hw := hf k
 have hw' : f k < 18446744073709551616 := hw
 obtain ⟨m, e, hm, h1, _⟩ := blen_bounds (f k : Int) (by omega) (by omega)
 refine ⟨64 * k + m, ?_, ?_⟩
 · rw [show k + 1 - 1 = k by omega, e]
   omega
 · rw [V_succ, Nat.pow_add, ← twoB_pow]
   have h1' : 2 ^ m ≤ f k := by exact_mod_cast h1
   have := Nat.mul_le_mul_left (B ^ k) h1'
   rw [Nat.mul_comm (B ^ k) (f k)] at this
   omega
theorem shl_ok {w : World} {va : Value} {X : Nat} (ha : NatV w va X) (s : Nat) (h : X * 2 ^ s < B ^ 128) (hs : s ≤ 8192) :
 Calls Tryz.prog 67 #[va, .int .i64 (s : Int)] w fun e w' => ∃ v, e = .returned (.tuple #[v, .nilIface]) ∧ NatV w' v (X * 2 ^ s) ∧ Below w.heap.size w w' := by
 obtain ⟨ao, n, c, b, o, f, rfl, S, t, rfl, hn⟩ := ha
 have h1 := valid_any S
 rw [verr_ok hn t] at h1
 unfold errV at h1
 by_cases h0 : n = 0
 · subst h0
   go_enter Tryz.func67, Tryz.ntmps67
   go_wp2_with fail
   refine h1.mono ?_
   rintro e wa ⟨rfl, hba⟩
   go_wp2
   refine bodyPost_ret (v := .tuple #[.slice none 0 0, .nilIface]) (by simp [results, Tryz.results67, go_sem]) rfl ⟨_, rfl, ?_, hba⟩
   rw [V_zero, Nat.zero_mul]
   exact natv_nil _
 · have e1 : ((n : Int) == 0) = false := beq_eq_false_iff_ne.mpr (by omega)
   obtain ⟨L, eL, hL⟩ := length_le S.ws t (by omega)
   have hLs : L + s < 8192 := by
    obtain ⟨M, hM, hBM⟩ : ∃ M, M = 8192 ∧ B ^ 128 = 2 ^ M := ⟨64 * 128, rfl, twoB_pow 128⟩
    have q : 2 ^ (L + s) < 2 ^ M := by
     rw [Nat.pow_add]
     refine Nat.lt_of_le_of_lt (Nat.mul_le_mul_right _ hL) ?_
     rw [hBM] at h
     exact h
    have := (Nat.pow_lt_pow_iff_right (a := 2) (by omega)).1 q
    omega
   have HH : Hid (V f n * 2 ^ s < B ^ 128) := h
   have HS : Hid (Sl w ao n c b o f) := S
   obtain ⟨q, p, hsq, hp⟩ : ∃ q p, s = 64 * q + p ∧ p < 64 := ⟨s / 64, s % 64, by omega, by omega⟩
   have hq : q ≤ 1000 := by omega
   have cL : ¬ (8192 : Int) - ((L : Int) + 1) < (s : Int) := by omega
   have cL2 : (0 : Int) ≤ (s : Int) := by omega
   have HQ : Hid (s = 64 * q + p) := hsq
   clear h hL S t hsq
   go_enter Tryz.func67, Tryz.ntmps67
   go_wp2_with fail
   refine h1.mono ?_
   rintro e wa ⟨rfl, hba⟩
   have LN := length_any (HS.out.below hba) (by omega) (by omega)
   rw [eL] at LN
   clear h1
   go_wp2_with fail
   refine LN.mono ?_
   rintro e wb ⟨rfl, hbb⟩
   have BB : Below w.heap.size w wb := hba.trans (hbb.mono hba.size)
   have SU := shiftUp_any (HS.out.below BB) (by omega) s q p HQ.out hp hq
   clear LN eL hba hbb
   go_wp2_with fail
   refine SU.mono ?_
   rintro e wc ⟨rfl, hbc, F, R, hv⟩
   obtain ⟨nv, hl⟩ := natv_tl R (by unfold maxLen; omega) hv HH.out
   have BC : Below w.heap.size w wc := BB.trans (hbc.mono BB.size)
   have TT := trim_any (row_sl0 R (by unfold maxLen; omega))
   go_wp2_with fail
   refine TT.mono ?_
   rintro e w4 ⟨rfl, rfl⟩
   go_wp2
   refine bodyPost_ret (v := .tuple #[.slice (some ⟨wb.heap.size, 0, none⟩) (tl F (q + n + 1)) (tl F (q + n + 1)), .nilIface]) (by simp [results, Tryz.results67, go_sem]) rfl ⟨_, rfl, nv, BC⟩
theorem blen_nat {x : Nat} (hx : x < B) : ∃ K : Nat, blen (x : Int) = (K : Int) ∧ K ≤ 64 ∧ x < 2 ^ K := by
 unfold B at hx
 by_cases c : x = 0
 · subst c; exact ⟨0, by decide, by omega, by decide⟩
 · obtain ⟨n, e, hn, h1, h2⟩ := blen_bounds (x : Int) (by omega) (by omega)
   refine ⟨n + 1, by omega, by omega, ?_⟩
   rw [pow_cast] at h2
   omega
theorem pow_le_fit {b n k : Nat} (h : b ^ n < B ^ 128) (hk : k ≤ n) : b ^ k < B ^ 128 := by
  rcases Nat.eq_zero_or_pos b with c | c
  · subst c
    refine Nat.lt_of_le_of_lt (?_ : 0 ^ k ≤ 1) (by have : 1 < B := by decide
                                                   exact Nat.one_lt_pow (by omega) this)
    rcases Nat.eq_zero_or_pos k with d | d
    · subst d; decide
    · rw [Nat.zero_pow d]; omega
  · exact Nat.lt_of_le_of_lt (Nat.pow_le_pow_right c hk) h
theorem and_one (a : Nat) (ha : a < 9223372036854775808) : bits .and .i64 (a : Int) 1 = ((a % 2 : Nat) : Int) := by
 have h1 : (BitVec.ofInt 64 (a : Int)).toNat = a := by
  rw [BitVec.ofInt_natCast, BitVec.toNat_ofNat]; exact Nat.mod_eq_of_lt (by omega)
 show IntKind.i64.wrap ((BitVec.ofInt 64 (a : Int) &&& BitVec.ofInt 64 (1 : Int)).toNat : Int) = _
 rw [BitVec.toNat_and, h1, show (BitVec.ofInt 64 (1 : Int)).toNat = 1 by decide, Nat.and_one_is_mod, IntWalk.i64_left, IntWalk.wrap64_in _ ⟨by omega, by omega⟩]
theorem bit_step (n i : Nat) : n / 2 ^ i = 2 * (n / 2 ^ (i + 1)) + n / 2 ^ i % 2 := by
 rw [Nat.pow_succ, ← Nat.div_div_eq_div_mul]; omega
theorem power_ok (b n : Nat) (hb : b < B) (hn : n ≤ 9223372036854775807) (hf : b ^ n < B ^ 128) (w : World) :
 Calls Tryz.prog 64 #[.int .u64 (b : Int), .int .i64 (n : Int)] w fun e w' => ∃ v, e = .returned (.tuple #[v, .nilIface]) ∧ NatV w' v (b ^ n) ∧ Below w.heap.size w w' := by
 obtain ⟨K, eK, hK, hnK⟩ := blen_nat (x := n) (by unfold B; omega)
 have LN := fun W => len_any n (by unfold B; omega) W
 rw [eK] at LN
 have O1 := fun W => of_any 1 (by decide) W
 have O2 := fun W => of_any b hb W
 have HF : Hid (b ^ n < B ^ 128 ∧ n < 2 ^ K) := ⟨hf, hnK⟩
 clear hf hnK eK
 go_enter Tryz.func64, Tryz.ntmps64
 go_wp2_with fail
 refine (O1 _).mono ?_
 rintro e w1 ⟨v1, rfl, nv1, hb1⟩
 go_wp2_with fail
 refine (O2 _).mono ?_
 rintro e w2 ⟨v2, rfl, nv2, hb2⟩
 have hB2 : Below w.heap.size w w2 := hb1.trans (hb2.mono hb1.size)
 have nv1' := nv1.below hb2
 go_wp2_with fail
 refine (LN _).mono ?_
 rintro e w3 ⟨rfl, rfl⟩
 clear LN O1 O2
 go_wp2
 go_loopw [6, 8] (fun z i wr => ∃ k : Nat, i = .int .i64 ((k : Int) - 1) ∧ k ≤ K ∧ NatV wr z (b ^ (n / 2 ^ k)) ∧ NatV wr v2 b ∧ Below w.heap.size w wr) (fun _ i _ => (intOf i + 1).toNat)
 case atStart => exact ⟨K, rfl, Nat.le_refl _, by rw [Nat.div_eq_of_lt HF.out.2, Nat.pow_zero]; exact nv1', nv2, hB2⟩
 case round =>
  obtain ⟨k, rfl, hk, nz, nf, hbl⟩ := hrel
  by_cases c1 : 0 < k
  · obtain ⟨i, rfl⟩ : ∃ i, k = i + 1 := ⟨k - 1, by omega⟩
    obtain ⟨ao, zn, zc, zb, zo, f, rfl, S, t, hv, hzn⟩ := nz
    have nf' := nf
    obtain ⟨bo, fn, fc, fb, fo, G, rfl, S', t', hv', hfn⟩ := nf'
    have M1 := multiply_any S S (by omega) (by omega)
    rw [hv] at M1
    have hfit : b ^ (n / 2 ^ i) < B ^ 128 := pow_le_fit HF.out.1 (Nat.div_le_self _ _)
    have hst := bit_step n i
    have hand : bits BinOp.and IntKind.i64 ((n : Int) / 2 ^ i) 1 = ((n / 2 ^ i % 2 : Nat) : Int) := by
     have q := and_one (n / 2 ^ i) (Nat.lt_of_le_of_lt (Nat.div_le_self _ _) (by omega))
     rw [← q, pow_cast]; rfl
    have HB : Hid (Below w.heap.size w wr ∧ NatV wr (.slice bo fn fc) b) := ⟨hbl, nf⟩
    have hi63 : i < 64 := by omega
    clear t t' nf hv
    have hn0 : (0 : Int) ≤ (n : Int) / 2 ^ i := by rw [pow_cast]; exact Int.natCast_nonneg (n / 2 ^ i)
    rw [show ((i + 1 : Nat) : Int) - 1 = (i : Int) by omega]
    rcases Nat.mod_two_eq_zero_or_one (n / 2 ^ i) with hb0 | hb0
    · rw [hb0] at hand hst
      have hX : b ^ (n / 2 ^ (i + 1)) * b ^ (n / 2 ^ (i + 1)) = b ^ (n / 2 ^ i) := by rw [← Nat.pow_add, hst]; congr 1; omega
      rw [hX] at M1
      clear hb0 hst hX
      go_wp2_with fail
      refine M1.mono ?_
      rintro e w4 ⟨rfl, hb4, F4, R4, hv4⟩
      obtain ⟨nv, hl⟩ := natv_tl R4 (by unfold maxLen; omega) hv4 hfit
      have FT := fit_ok (row_sl0 R4 (by unfold maxLen; omega)) hl
      have H4 : Hid (NatV w4 (.slice (some ⟨wr.heap.size, 0, none⟩) (tl F4 (zn + zn)) (tl F4 (zn + zn))) (b ^ (n / 2 ^ i)) ∧ NatV w4 (.slice bo fn fc) b ∧ Below w.heap.size w w4) := ⟨nv, HB.out.2.below hb4, HB.out.1.trans (hb4.mono HB.out.1.size)⟩
      clear nv hl hv4 R4 hbl
      generalize tl F4 (zn + zn) = tz at *
      go_wp2_with fail
      refine FT.mono ?_
      rintro e w5 ⟨rfl, rfl⟩
      go_wp2
      go_roundw
      case rel => exact ⟨i, by go_num, by omega, H4.out.1, H4.out.2.1, H4.out.2.2⟩
      case measure => first | (simp [intOf]; done) | (simp [intOf]; omega)
    · rw [hb0] at hand hst
      have hX : b ^ (n / 2 ^ (i + 1)) * b ^ (n / 2 ^ (i + 1)) * b = b ^ (n / 2 ^ i) := by rw [← Nat.pow_add, hst, ← Nat.pow_succ]; congr 1; omega
      clear hb0 hst
      go_wp2_with fail
      refine M1.mono ?_
      rintro e w4 ⟨rfl, hb4, F4, R4, hv4⟩
      have M2 := multiply_any (row_sl0 R4 (by unfold maxLen; omega)) (S'.below hb4) (by omega) (by omega)
      rw [hv4, hv', hX] at M2
      have H4 : Hid (NatV w4 (.slice bo fn fc) b ∧ Below w.heap.size w w4) := ⟨HB.out.2.below hb4, HB.out.1.trans (hb4.mono HB.out.1.size)⟩
      clear hv4 R4 hbl
      go_wp2_with fail
      refine M2.mono ?_
      rintro e w5 ⟨rfl, hb5, F5, R5, hv5⟩
      obtain ⟨nv, hl⟩ := natv_tl R5 (by unfold maxLen; omega) hv5 hfit
      have FT := fit_ok (row_sl0 R5 (by unfold maxLen; omega)) hl
      have H5 : Hid (NatV w5 (.slice (some ⟨w4.heap.size, 0, none⟩) (tl F5 (zn + zn + fn)) (tl F5 (zn + zn + fn))) (b ^ (n / 2 ^ i)) ∧ NatV w5 (.slice bo fn fc) b ∧ Below w.heap.size w w5) := ⟨nv, H4.out.1.below hb5, H4.out.2.trans (hb5.mono H4.out.2.size)⟩
      clear nv hl hv5 R5
      generalize tl F5 (zn + zn + fn) = tz at *
      go_wp2_with fail
      refine FT.mono ?_
      rintro e w6 ⟨rfl, rfl⟩
      go_wp2
      go_roundw
      case rel => exact ⟨i, by go_num, by omega, H5.out.1, H5.out.2.1, H5.out.2.2⟩
      case measure => first | (simp [intOf]; done) | (simp [intOf]; omega)
  · obtain rfl : k = 0 := by omega
    rw [Nat.pow_zero, Nat.div_one] at nz
    have HB : Hid (Below w.heap.size w wr) := hbl
    clear hbl c1
    go_wp2
    refine bodyPost_ret (v := .tuple #[u6, .nilIface]) (by simp [results, Tryz.results64, go_sem]) rfl ⟨_, rfl, nz, HB.out⟩
theorem digits_zero {w : World} {ao : Option Addr} {c b' o : Nat} {f : Nat → Nat} (S : Sl w ao 0 c b' o f) (b : Nat) (h1 : 2 ≤ b) (h2 : b ≤ 36) :
 Calls Tryz.prog 68 #[.slice ao 0 c, .int .i64 (b : Int)] w fun e w' => e = .returned (.tuple #[.string ⟨#[48]⟩, .nilIface]) ∧ Below w.heap.size w w' := by
 have V1 := valid_any S
 rw [verr_ok (by omega) (Or.inl rfl)] at V1
 unfold errV at V1
 go_enter Tryz.func68, Tryz.ntmps68
 go_wp2_with fail
 refine V1.mono ?_
 rintro e wa ⟨rfl, hba⟩
 go_wp2_with fail
 refine (isBase_yes b h1 h2 _).mono ?_
 rintro e wb ⟨rfl, rfl⟩
 go_wp2
 refine bodyPost_ret (v := .tuple #[.string ⟨#[48]⟩, .nilIface]) (by simp [results, Tryz.results68, go_sem]) rfl ⟨rfl, hba⟩
end Go.Proofs.YtohhmobfmmeohaaGreatDoor
