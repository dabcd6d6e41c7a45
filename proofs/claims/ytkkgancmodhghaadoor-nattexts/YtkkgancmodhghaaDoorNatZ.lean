/-
  What the calls of math/bits.TrailingZeros64 (where its table lies as the program's text lays it) and of nat.zeros answer.
-/
import Derived.Test.YtkkgancmodhghaaDoorNatE
import Derived.Lib.TrailingZeros
namespace Go.Proofs.YtkkgancmodhghaaDoor
open Go.RowKit

/-- The table of math/bits, in its variable. -/
def Tab (w : World) : Prop := ∀ j, j < 64 → w.cell? ⟨2, j, none⟩ = some (.int .u8 (Lib.deBruijn64tab.getD j 0))

theorem Tab.pos {w : World} (h : Tab w) : 2 < w.heap.size := World.block_lt_of_cell? _ _ (h 0 (by omega))
theorem Tab.below {w w' : World} {B : Nat} (h : Tab w) (hb : Below B w w') (hB : 2 < B) : Tab w' := fun j hj => (hb.cell (p := ⟨2, j, none⟩) hB).trans (h j hj)
theorem Tab.next {w w' : World} (h : Tab w) (hb : Below w.heap.size w w') : Tab w' := h.below hb h.pos
/-- How many noughts stand behind in a word. -/
def ctzW (x : Int) : Int := (Lib.ctz 64 x.toNat : Int)

set_option maxHeartbeats 1000000 in
theorem tz64_core (x : Int) (k idx : Nat) (w : World) (hx0 : (x == 0) = false)
    (key : IntKind.u64.wrap (bits BinOp.and IntKind.u64 x (IntKind.u64.wrap (-x)) * 285870213051353865) / 288230376151711744 = (idx : Int))
    (hi : idx < 64) (hk : k < 64) (hcell : w.cell? ⟨2, idx, none⟩ = some (.int .u8 k)) :
    Calls Tryd.prog 90 #[.int .u64 x] w fun e w' => e = .returned (.int .i64 k) ∧ w' = w := by
  go_enter Tryd.func90, Tryd.ntmps90
  go_wp2_with (simp only [key])
  go_ret
  exact ⟨rfl, rfl⟩

theorem tz64_zero (w : World) : Calls Tryd.prog 90 #[.int .u64 0] w fun e w' => e = .returned (.int .i64 64) ∧ w' = w := by
  go_enter Tryd.func90, Tryd.ntmps90
  go_wp2
  go_ret
  exact ⟨rfl, rfl⟩

theorem tz64_any (x : Int) (h : Word x) (w : World) (hT : Tab w) :
    Calls Tryd.prog 90 #[.int .u64 x] w fun e w' => e = .returned (.int .i64 (ctzW x)) ∧ w' = w := by
  by_cases c : x = 0
  · subst c; exact tz64_zero w
  · obtain ⟨y, rfl⟩ := Int.eq_ofNat_of_zero_le h.1
    have hy : y < 18446744073709551616 := by have := h.2; omega
    have hy0 : y ≠ 0 := by omega
    obtain ⟨hlow, hk⟩ := Lib.lowest_bit 64 y hy0 hy
    obtain ⟨hi, htab⟩ := Lib.deBruijn64_at _ hk
    have hcell := hT _ hi
    rw [htab] at hcell
    have e1 : IntKind.u64.wrap (-(y : Int)) = ((18446744073709551616 - y : Nat) : Int) := by rw [IntKind.wrap_u64]; omega
    have key : IntKind.u64.wrap (bits BinOp.and IntKind.u64 (y : Int) (IntKind.u64.wrap (-(y : Int))) * 285870213051353865) / 288230376151711744 = ((2 ^ Lib.ctz 64 y * 285870213051353865 % 18446744073709551616 / 288230376151711744 : Nat) : Int) := by
      have hlow' : y &&& (18446744073709551616 - y) = 2 ^ Lib.ctz 64 y := hlow
      rw [e1, bits_and_u64_nat y _ hy (by omega), hlow', IntKind.wrap_u64]
      generalize 2 ^ Lib.ctz 64 y = q
      omega
    exact tz64_core y _ _ w (by simp; omega) key hi hk hcell


theorem ctz_odd {y : Nat} (h0 : y ≠ 0) (h : y < B) : ∃ j, y = 2 ^ Lib.ctz 64 y * (2 * j + 1) ∧ Lib.ctz 64 y < 64 := by
  obtain ⟨m, e, hk⟩ := Lib.ctzFrom_spec 64 y (by omega) h
  refine ⟨m, ?_, ?_⟩
  · unfold Lib.ctz; rw [if_neg h0]; exact e
  · unfold Lib.ctz; rw [if_neg h0]; exact hk
theorem odd_gen {b k x r t j : Nat} {u : Nat} (hx : x = 2 ^ t * (2 * j + 1)) (hb : b = 2 * u * 2 ^ t) : x * k + r * (k * b) = k * 2 ^ t * (2 * (j + r * u) + 1) := by
  rw [hx, hb]; grind

/-- The first word that is not 0 says how many noughts stand behind. -/
theorem V_odd {f : Nat → Nat} (hf : Ws f) {n k : Nat} (hk : k < n) (hz : ∀ i, i < k → f i = 0) (h0 : f k ≠ 0) : ∃ j, V f n = 2 ^ (64 * k + Lib.ctz 64 (f k)) * (2 * j + 1) := by
  obtain ⟨j, e, ht⟩ := ctz_odd h0 (hf k)
  have e1 : V f k = 0 := by rw [V_congr (g := fun _ => 0) hz, V_nought]
  have s := V_split f (k + 1) (n - (k + 1))
  rw [show k + 1 + (n - (k + 1)) = n by omega, V_succ, e1, Nat.zero_add, Nat.pow_succ] at s
  refine ⟨j + V (fun i => f (k + 1 + i)) (n - (k + 1)) * 2 ^ (63 - Lib.ctz 64 (f k)), ?_⟩
  rw [s, two_B]
  refine odd_gen e ?_
  rw [Nat.mul_comm 2, ← Nat.pow_succ, ← Nat.pow_add, show 63 - Lib.ctz 64 (f k) + 1 + Lib.ctz 64 (f k) = 64 by omega]
  rfl
theorem odd_mod {v z j s : Nat} (h : v = 2 ^ z * (2 * j + 1)) : (z < s) ↔ v % 2 ^ s ≠ 0 := by
  constructor
  · intro hlt e
    obtain ⟨c, hc⟩ := Nat.dvd_of_mod_eq_zero e
    rw [h, show s = z + 1 + (s - z - 1) by omega, Nat.pow_add, Nat.pow_succ, Nat.mul_assoc, Nat.mul_assoc] at hc
    have := Nat.eq_of_mul_eq_mul_left (Nat.pow_pos (by omega)) hc
    omega
  · intro hne
    rcases Nat.lt_or_ge z s with q | q
    · exact q
    · exfalso
      apply hne
      rw [h, show z = s + (z - s) by omega, Nat.pow_add, Nat.mul_assoc]
      exact Nat.mul_mod_right _ _

set_option maxHeartbeats 1000000 in
theorem zeros_any {w : World} (hT : Tab w) {ao : Option Addr} {n c b o : Nat} {f : Nat → Nat} (S : Sl w ao n c b o f) (hn : n ≤ 1000) (h0 : V f n ≠ 0) :
    Calls Tryd.prog 69 #[.slice ao n c] w fun e w' => ∃ z j : Nat, e = .returned (.int .i64 (z : Int)) ∧ V f n = 2 ^ z * (2 * j + 1) ∧ z ≤ 64 * n ∧ w' = w := by
  have HS : Hid (Sl w ao n c b o f) := S
  have H0 : Hid (V f n ≠ 0) := h0
  clear S h0
  go_enter Tryd.func69, Tryd.ntmps69
  go_wp2
  go_loop [7] (fun i => ∃ k : Nat, i = .int .i64 (k : Int) ∧ k ≤ n ∧ ∀ i, i < k → f i = 0) (fun i => n - (intOf i).toNat)
  case atStart => exact ⟨0, rfl, Nat.zero_le _, fun i hi => absurd hi (by omega)⟩
  case round =>
    obtain ⟨k, rfl, hk, hz⟩ := hrel
    have HZ : Hid (∀ i, i < k → f i = 0) := hz
    clear hz
    by_cases c1 : k < n
    · obtain rfl := HS.out.addr (by omega)
      have hc := HS.out.cell k c1
      by_cases c2 : f k = 0
      · have HC : Hid (f k = 0) := c2
        rw [c2] at hc
        clear c2
        go_wp2
        go_round
        case rel =>
          refine ⟨k + 1, by go_num, by omega, fun i hi => ?_⟩
          by_cases q : i = k
          · rw [q]; exact HC.out
          · exact HZ.out i (by omega)
        case measure => simp [intOf]; omega
      · have c2' : (((f k : Nat) : Int) == 0) = false := beq_eq_false_iff_ne.mpr (by omega)
        obtain ⟨j, ej⟩ := V_odd HS.out.ws c1 HZ.out c2
        have hc64 := (ctz_odd c2 (HS.out.ws k)).choose_spec.2
        have HJ : Hid (V f n = 2 ^ (64 * k + Lib.ctz 64 (f k)) * (2 * j + 1)) := ej
        have hw : Word ((f k : Nat) : Int) := ⟨by omega, by have := HS.out.ws k; unfold B at this; omega⟩
        have T := tz64_any ((f k : Nat) : Int) hw w hT
        have ec : ctzW ((f k : Nat) : Int) = ((Lib.ctz 64 (f k) : Nat) : Int) := by unfold ctzW; rw [Int.toNat_natCast]
        rw [ec] at T
        clear c2 ej ec
        generalize Lib.ctz 64 (f k) = t at *
        go_wp2_with fail
        refine T.mono ?_
        rintro e wa ⟨rfl, rfl⟩
        go_wp2
        go_ret
        refine ⟨64 * k + t, j, ?_, HJ.out, by omega, rfl⟩
        show Ending.returned (Value.int .i64 _) = _
        congr 2
        push_cast
        omega
    · exfalso
      have e : k = n := by omega
      apply H0.out
      rw [V_congr (g := fun _ => 0) (fun i hi => HZ.out i (by omega)), V_nought]

end Go.Proofs.YtkkgancmodhghaaDoor
