/-
  What a call of nat.addTimes leaves in the row that it writes, and answers.
-/
import Derived.Test.YtkkgancmodhghaaDoorNatW
namespace Go.Proofs.YtkkgancmodhghaaDoor
open Go.RowKit

theorem mul64N (x y : Nat) (hx : x < B) (hy : y < B) (w : World) :
    Calls Tryd.prog 97 #[.int .u64 (x : Int), .int .u64 (y : Int)] w fun e w' => e = .returned (.tuple #[.int .u64 ((x * y / B : Nat) : Int), .int .u64 ((x * y % B : Nat) : Int)]) ∧ w' = w := by
  unfold B at *
  refine (mul64_any x y ⟨by omega, by omega⟩ ⟨by omega, by omega⟩ w).mono ?_
  rintro e w' ⟨rfl, rfl⟩
  unfold mHi mLo
  exact ⟨rfl, rfl⟩

/-- A product of two words and two words more: its two words, as they are reckoned. -/
theorem times_words {x y z v : Nat} (hx : x < B) (hy : y < B) (hz : z < B) (hv : v < B) :
    x * y / B + (x * y % B + z + 0) / B < B ∧ x * y / B + (x * y % B + z + 0) / B + ((x * y % B + z + 0) % B + v + 0) / B < B ∧
      ((x * y % B + z + 0) % B + v + 0) % B + (x * y / B + (x * y % B + z + 0) / B + ((x * y % B + z + 0) % B + v + 0) / B) * B = x * y + z + v := by
  have p : x * y ≤ 18446744073709551615 * 18446744073709551615 := Nat.mul_le_mul (by unfold B at hx; omega) (by unfold B at hy; omega)
  generalize x * y = P at *
  unfold B at *
  omega
theorem times_step {β v a b p x y z c l : Nat} (h : v + c * p = a + b * x) {d : Nat} (e : l + d * β = x * y + z + c) : v + l * p + d * (p * β) = a + z * p + (b + y * p) * x := by
  have : l * p + d * (p * β) = (x * y + z + c) * p := by rw [← e]; grind
  grind

set_option maxHeartbeats 2000000 in
theorem times_any {w : World} {g N o n c : Nat} {F : Nat → Nat} (R : Row w g N F) {zo : Option Addr}
    {bo : Option Addr} {m cb bb ob : Nat} {G : Nat → Nat} (S : Sl w bo m cb bb ob G) (hz : 0 < m → zo = some ⟨g, o, none⟩ ∧ bb ≠ g) (hoN : o + m ≤ N) (hmn : m ≤ n) (x : Nat) (hx : x < B) :
    Calls Tryd.prog 84 #[.slice zo n c, .slice bo m cb, .int .u64 (x : Int)] w fun e w' => ∃ (v : Nat) (F' : Nat → Nat), e = .returned (.int .u64 (v : Int)) ∧ v < B ∧ w.grownBy w' (some g) ∧
      Row w' g N F' ∧ (∀ i, i < o ∨ o + m ≤ i → F' i = F i) ∧ V (fun i => F' (o + i)) m + v * B ^ m = V (fun i => F (o + i)) m + V G m * x := by
  have hm : m ≤ maxLen := Nat.le_trans S.le S.cap
  unfold maxLen at hm
  have HS : Hid (Sl w bo m cb bb ob G) := S
  have HN : Hid (0 < m → zo = some ⟨g, o, none⟩ ∧ bb ≠ g) := hz
  have HW : Hid (x < B) := hx
  clear S hz hx
  go_enter Tryd.func84, Tryd.ntmps84
  go_wp2
  go_loopw [7, 15] (fun ov i wr => ∃ (k v : Nat) (F' : Nat → Nat), ov = .int .u64 (v : Int) ∧ i = .int .i64 (k : Int) ∧ k ≤ m ∧ v < B ∧ Row wr g N F' ∧ w.grownBy wr (some g) ∧ (∀ i, i < o ∨ o + k ≤ i → F' i = F i) ∧ V (fun i => F' (o + i)) k + v * B ^ k = V (fun i => F (o + i)) k + V G k * x) (fun _ i _ => m - (intOf i).toNat)
  case atStart => exact ⟨0, 0, F, rfl, rfl, Nat.zero_le _, B_pos, R, World.grownBy.refl _ _, fun i _ => rfl, by simp [V]⟩
  case round =>
    obtain ⟨k, v, F', rfl, rfl, hk, hv, R', hgr, hfr, hVV⟩ := hrel
    have HF : Hid (∀ i, i < o ∨ o + k ≤ i → F' i = F i) := hfr
    have HV : Hid (V (fun i => F' (o + i)) k + v * B ^ k = V (fun i => F (o + i)) k + V G k * x) := hVV
    have HR : Hid (Row wr g N F') := R'
    have HG : Hid (w.grownBy wr (some g)) := hgr
    have HB : Hid (v < B) := hv
    clear hfr hVV hv
    by_cases c1 : k < m
    · obtain ⟨rfl, ne⟩ := HN.out (by omega)
      obtain rfl := HS.out.addr (by omega)
      have hb := HS.out.blk (by omega)
      have cb0 := HS.out.cell k c1
      have cb1 : wr.cell? ⟨bb, ob + k, none⟩ = some (.int .u64 (G k : Int)) := by
        rw [World.cell?_of_block (w := w) (hgr.block bb hb (by intro e; exact ne (Option.some.inj e)))]; exact cb0
      have cz := R'.row.cell (i := o + k) (by omega)
      have fz := R'.row.frozen (o + k)
      have ml := fun W => mul64N x (G k) HW.out (HS.out.ws _) W
      have a1 : ∀ W, (callFunc 81 #[.int .u64 ((x * G k % B : Nat) : Int), .int .u64 ((F' (o + k) : Nat) : Int), .int .u64 0]).run Tryd.prog W = .ok (.value (.tuple #[.int .u64 (((x * G k % B + F' (o + k) + 0) % B : Nat) : Int), .int .u64 (((x * G k % B + F' (o + k) + 0) / B : Nat) : Int)])) W := fun W => add64N _ _ 0 (Nat.mod_lt _ B_pos) (R'.ws _) (by omega) W
      have a2 : ∀ W, (callFunc 81 #[.int .u64 (((x * G k % B + F' (o + k) + 0) % B : Nat) : Int), .int .u64 (v : Int), .int .u64 0]).run Tryd.prog W = .ok (.value (.tuple #[.int .u64 ((((x * G k % B + F' (o + k) + 0) % B + v + 0) % B : Nat) : Int), .int .u64 ((((x * G k % B + F' (o + k) + 0) % B + v + 0) / B : Nat) : Int)])) W := fun W => add64N _ _ 0 (Nat.mod_lt _ B_pos) HB.out (by omega) W
      obtain ⟨t1, t2, t3⟩ := times_words HW.out (HS.out.ws k) (R'.ws (o + k)) HB.out
      have hr : ((x * G k % B + F' (o + k) + 0) % B + v + 0) % B < B := Nat.mod_lt _ B_pos
      have st := times_step HV.out t3
      have hF : F' (o + k) = F (o + k) := HF.out _ (Or.inr (by omega))
      have HFK : Hid (F' (o + k) = F (o + k)) := hF
      clear R' hgr cb0 t3 hF
      generalize ((x * G k % B + F' (o + k) + 0) % B + v + 0) % B = r at *
      generalize ((x * G k % B + F' (o + k) + 0) % B + v + 0) / B = q2 at *
      generalize (x * G k % B + F' (o + k) + 0) % B = l2 at *
      generalize (x * G k % B + F' (o + k) + 0) / B = q1 at *
      generalize x * G k % B = l1 at *
      generalize x * G k / B = h1 at *
      have HST := (show Hid _ from st)
      have HT2 : Hid (h1 + q1 + q2 < B) := t2
      have t1' : h1 + q1 < 18446744073709551616 := t1
      have t2' : h1 + q1 + q2 < 18446744073709551616 := t2
      clear st t1 t2
      go_wp2_with (go_at_call 97; refine (ml _).mono ?_; rintro e wa ⟨rfl, rfl⟩)
      go_roundw
      case rel =>
        refine ⟨k + 1, h1 + q1 + q2, put F' (o + k) r, by push_cast; rfl, by go_num, by omega, HT2.out, HR.out.set (o + k) hr, grown_set HG.out _, ?_, ?_⟩
        · intro i hi
          rw [put_ne (by omega)]
          exact HF.out i (by omega)
        · have e : V (fun i => put F' (o + k) r (o + i)) (k + 1) = V (fun i => F' (o + i)) k + r * B ^ k := by
            rw [V_succ, V_congr (f := fun i => put F' (o + k) r (o + i)) (g := fun i => F' (o + i)) (fun i hi => put_ne (by omega)), put_at]
          rw [e, V_succ (fun i => F (o + i)), V_succ G, Nat.pow_succ]
          have s := HST.out
          rw [HFK.out] at s
          exact s
      case measure => simp [intOf]; omega
    · obtain rfl : k = m := by omega
      clear R' hgr
      go_wp2
      go_ret
      exact ⟨v, F', rfl, HB.out, HG.out, HR.out, HF.out, HV.out⟩

end Go.Proofs.YtkkgancmodhghaaDoor
