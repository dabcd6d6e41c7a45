/-
  Holds: VPn3.
-/
import Derived.Test.YtblkokjkmbpejaaGreatDoorRows
import Derived.Laws.Externs
import Derived.WalkKit
import Derived.WalkSpells
import Derived.WalkLawsBesides
import Derived.Lib.Mul64
import Derived.Lib.TrailingZeros
import Derived.Lib.ItoaNum
import Derived.Deep.OwnRows
import Derived.Laws.CopyOwn
import Derived.BigQuiet
import Derived.Deep.RegionHeld3
import Derived.Deep.LoopGhost
import Derived.Deep.AppendLies
import Derived.Test.YtblkokjkmbpejaaGreatDoorKc14
set_option maxRecDepth 100000
set_option maxHeartbeats 4000000
namespace Go.Proofs.YtblkokjkmbpejaaGreatDoor
open Go.RowKit
theorem cut_in {g : Nat → Nat} {n i : Nat} (h : i < n) : cut g n i = g i := by unfold cut; rw [if_pos h]
theorem cut_out {g : Nat → Nat} {n i : Nat} (h : ¬ i < n) : cut g n i = 0 := by unfold cut; rw [if_neg h]
theorem cut_V {g : Nat → Nat} {n k : Nat} (h : n ≤ k) : Big.V (cut g n) k = Big.V g n := by
 rw [Big.V_zeros (f := cut g n) h (fun i a _ => cut_out (by omega))]
 exact Big.V_congr fun i hi => cut_in hi
theorem dV_put (K : IntKind) (F : Nat → Nat) (k r : Nat) : dV K (Big.put F k r) (k + 1) = dV K F k ++ [.int K (r : Int)] := by
 rw [dV_succ, Big.put_at, dV_congr (G := F) (fun i hi => Big.put_ne (by omega))]
theorem V_putB (F : Nat → Nat) (k r : Nat) : Big.V (Big.put F k r) (k + 1) = Big.V F k + r * Big.B ^ k := by
 rw [Big.V_succ, Big.put_at, Big.V_put_low (Nat.le_refl _)]
def Fits (L X : Nat) : Prop := ∃ k, k ≤ L ∧ X < Big.B ^ k
theorem Fits.up {L M X : Nat} (h : Fits L X) (hl : L ≤ M) : Fits M X := by
 obtain ⟨k, a, b⟩ := h
 exact ⟨k, Nat.le_trans a hl, b⟩
theorem Fits.le {L X Y : Nat} (h : Fits L X) (hl : Y ≤ X) : Fits L Y := by
 obtain ⟨k, a, b⟩ := h
 exact ⟨k, a, Nat.lt_of_le_of_lt hl b⟩
theorem Fits.lt {L X : Nat} (h : Fits L X) : X < Big.B ^ L := by
 obtain ⟨k, a, b⟩ := h
 exact Nat.lt_of_lt_of_le b (Nat.pow_le_pow_right Big.B_pos a)
theorem Fits.mul {L M X Y : Nat} (h : Fits L X) (k : Fits M Y) : Fits (L + M) (X * Y) := by
 refine ⟨L + M, Nat.le_refl _, ?_⟩
 rw [Nat.pow_add]
 exact Nat.mul_lt_mul'' h.lt k.lt
theorem big_len {f : Nat → Nat} {n L : Nat} (t : Big.Top f n) (h : Fits L (Big.V f n)) : n ≤ L := Big.len_le t h.lt
theorem big_le_len {f g : Nat → Nat} {m n : Nat} (hf : Big.Ws f) (tg : Big.Top g m) (h : Big.V g m ≤ Big.V f n) : m ≤ n := by
 rcases Nat.lt_or_ge n m with z | z
 · have := Big.len_lt hf tg z; omega
 · exact z
theorem D_two : Big.B = 2 ^ 32 := by decide
theorem D_pow (k : Nat) : Big.B ^ k = 2 ^ (32 * k) := by rw [Nat.pow_mul, D_two]
def bl (X : Nat) : Nat := if X = 0 then 0 else Nat.log2 X + 1
theorem bl_of {X L : Nat} (h1 : 2 ^ L ≤ X) (h2 : X < 2 ^ (L + 1)) : bl X = L + 1 := by
 have hp : 0 < 2 ^ L := Nat.pow_pos (by omega)
 have h0 : X ≠ 0 := by omega
 unfold bl
 rw [if_neg h0, (Nat.log2_eq_iff h0).2 ⟨h1, h2⟩]
theorem bl_lt (X : Nat) : X < 2 ^ bl X := by
 unfold bl
 split
 · rename_i h; rw [h]; decide
 · exact Nat.lt_log2_self
theorem bl_le {X : Nat} (h : X ≠ 0) : 2 ^ (bl X - 1) ≤ X := by
 unfold bl
 rw [if_neg h, Nat.add_sub_cancel]
 exact Nat.log2_self_le h
theorem bl_pos {X : Nat} (h : X ≠ 0) : 0 < bl X := by unfold bl; rw [if_neg h]; omega
theorem bl_zero : bl 0 = 0 := rfl
theorem bl_mono_le {X L : Nat} (h : X < 2 ^ L) : bl X ≤ L := by
 by_cases z : X = 0
 · subst z; rw [bl_zero]; omega
 · rcases Nat.lt_or_ge L (bl X) with q | q
   · have a := bl_le z
     have b : 2 ^ L ≤ 2 ^ (bl X - 1) := Nat.pow_le_pow_right (by omega) (by omega)
     omega
   · exact q
theorem bl_top {f : Nat → Nat} (hf : Big.Ws f) {n j : Nat} (h1 : 2 ^ j ≤ f n) (h2 : f n < 2 ^ (j + 1)) : bl (Big.V f (n + 1)) = 32 * n + j + 1 := by
 have lo := Big.V_lt hf n
 rw [D_pow] at lo
 have e : Big.V f (n + 1) = Big.V f n + f n * 2 ^ (32 * n) := by rw [Big.V_succ, D_pow]
 rw [e]
 refine bl_of ?_ ?_
 · rw [Nat.pow_add, Nat.mul_comm (2 ^ (32 * n))]
   have := Nat.mul_le_mul_right (2 ^ (32 * n)) h1
   omega
 · rw [Nat.add_assoc, Nat.pow_add, Nat.mul_comm (2 ^ (32 * n))]
   have := Nat.mul_le_mul_right (2 ^ (32 * n)) (Nat.succ_le_of_lt h2)
   rw [Nat.succ_mul] at this
   omega
def tb (X i : Nat) : Bool := decide (X / 2 ^ i % 2 = 1)
theorem tb_one {X i : Nat} (h : X / 2 ^ i % 2 = 1) : tb X i = true := decide_eq_true h
theorem tb_none {X i : Nat} (h : X / 2 ^ i % 2 ≠ 1) : tb X i = false := decide_eq_false h
theorem V_from {f : Nat → Nat} (hf : Big.Ws f) {n q : Nat} (hq : q < n) : ∃ H, Big.V f n / Big.B ^ q = f q + Big.B * H := by
 refine ⟨Big.V (fun i => f (q + 1 + i)) (n - (q + 1)), ?_⟩
 have s := Big.V_split f (q + 1) (n - (q + 1))
 rw [show q + 1 + (n - (q + 1)) = n by omega, Big.V_succ, Nat.pow_succ] at s
 have e : Big.V f n = Big.V f q + (f q + Big.B * Big.V (fun i => f (q + 1 + i)) (n - (q + 1))) * Big.B ^ q := by
  rw [s]
  generalize Big.V (fun i => f (q + 1 + i)) (n - (q + 1)) = h
  generalize Big.B ^ q = p
  generalize Big.B = d
  grind
 rw [e, Nat.add_mul_div_right _ _ (Big.Bp_pos q), Nat.div_eq_of_lt (Big.V_lt hf q), Nat.zero_add]
theorem part_gen {x d H p t : Nat} (hp : 0 < p) (e : d = 2 * t * p) : (x + d * H) / p % 2 = x / p % 2 := by
 rw [e, show 2 * t * p * H = p * (2 * (t * H)) by grind, Nat.add_mul_div_left _ _ hp]
 omega
theorem bit_at {f : Nat → Nat} (hf : Big.Ws f) {n q p : Nat} (hq : q < n) (hp : p < 32) : Big.V f n / 2 ^ (32 * q + p) % 2 = f q / 2 ^ p % 2 := by
 obtain ⟨H, h⟩ := V_from hf hq
 rw [Nat.pow_add, ← D_pow, ← Nat.div_div_eq_div_mul, h]
 refine part_gen (t := 2 ^ (31 - p)) (Nat.pow_pos (by omega)) ?_
 rw [D_two, Nat.mul_assoc, ← Nat.pow_add, show 31 - p + p = 31 by omega, ← Nat.pow_succ']
theorem low_step {X k : Nat} (h : X % 2 ^ k = 0) : X % 2 ^ (k + 1) = 2 ^ k * (X / 2 ^ k % 2) := by
 rw [Nat.mod_pow_succ, h, Nat.zero_add]
theorem low_mono {X a b : Nat} (h : X % 2 ^ b = 0) (hab : a ≤ b) : X % 2 ^ a = 0 :=
 Nat.mod_eq_zero_of_dvd (Nat.dvd_trans (Nat.pow_dvd_pow 2 hab) (Nat.dvd_of_mod_eq_zero h))
theorem half_step {t j : Nat} : t / 2 ^ j / 2 = t / 2 ^ (j + 1) := by rw [Nat.div_div_eq_div_mul, Nat.pow_succ]
theorem two_fits {s k : Nat} (h : s < 32 * k) : Fits k (2 ^ s) := by
 refine ⟨k, Nat.le_refl _, ?_⟩
 rw [D_pow]
 exact Nat.pow_lt_pow_right (by omega) h
theorem upB_gen {v z P a x t s d r q : Nat} (hv : v + z * P = a * s) (e : d * q + r = x * t + z) : v + r * P + q * (P * d) = a * s + x * (t * P) := by
 have h : r * P + q * (P * d) = (d * q + r) * P := by grind
 rw [e] at h
 grind
structure Big.Row (w : World) (g N : Nat) (F : Nat → Nat) : Prop where
 row : w.rowIs g 175 N (fun i => .int .u32 (F i : Int))
 ws : Big.Ws F
theorem Big.Row.drew {w : World} {g N : Nat} {F : Nat → Nat} (R : Big.Row w g N F) : Big.Row w.drew g N F := ⟨R.row.drew, R.ws⟩
theorem Big.Row.below {w w' : World} {g N : Nat} {F : Nat → Nat} (R : Big.Row w g N F) (h : Below w.heap.size w w') : Big.Row w' g N F :=
 ⟨R.row.of_block (h.block g R.row.lt), R.ws⟩
def ApV (w : World) (g : Nat) (v : Value) (X : Nat) : Prop := ∃ ao n c b o f, v = .slice ao n c ∧ Big.Sl w ao n c b o f ∧ Big.Top f n ∧ Big.V f n = X ∧ (0 < n → b ≠ g)
theorem ApV.below {w w' : World} {g : Nat} {v : Value} {X : Nat} (h : ApV w g v X) (hb : Below w.heap.size w w') : ApV w' g v X := by
 obtain ⟨ao, n, c, b, o, f, e, S, r⟩ := h
 exact ⟨ao, n, c, b, o, f, e, S.below hb, r⟩
theorem ord_neg' {x y : Nat} (h : ord x y < 0) : x < y := by
 unfold ord at h
 split at h
 · assumption
 · split at h <;> omega
theorem set_bit {x p : Nat} (h : x / 2 ^ p % 2 = 0) : x ||| 2 ^ p = x + 2 ^ p := by
 have h2 : x = 2 ^ (p + 1) * (x / 2 ^ p / 2) + x % 2 ^ p := by
  have a := Nat.div_add_mod x (2 ^ p)
  have b := Nat.div_add_mod (x / 2 ^ p) 2
  rw [h, Nat.add_zero] at b
  rw [Nat.pow_succ, Nat.mul_assoc, b]
  exact a.symm
 have l1 : x % 2 ^ p < 2 ^ p := Nat.mod_lt _ (Nat.pow_pos (by omega))
 generalize x / 2 ^ p / 2 = y at *
 generalize x % 2 ^ p = l at *
 subst h2
 have e1 : l ||| 2 ^ p = 2 ^ p * 1 + l := by rw [Nat.or_comm, Nat.two_pow_add_eq_or_of_lt l1, Nat.mul_one]
 have l2 : l < 2 ^ (p + 1) := by rw [Nat.pow_succ]; omega
 have l3 : 2 ^ p * 1 + l < 2 ^ (p + 1) := by rw [Nat.pow_succ]; omega
 rw [Nat.two_pow_add_eq_or_of_lt l2, Nat.or_assoc, e1, ← Nat.two_pow_add_eq_or_of_lt l3, ← Nat.two_pow_add_eq_or_of_lt l2]
 omega
theorem set_room {x p : Nat} (hx : x < Big.B) (hp : p < 32) (h : x / 2 ^ p % 2 = 0) : x + 2 ^ p < Big.B := by
 rw [← set_bit h, D_two]
 exact Nat.or_lt_two_pow (by rw [← D_two]; exact hx) (Nat.pow_lt_pow_right (by omega) hp)
theorem V_put {F : Nat → Nat} {k N r : Nat} (hk : k < N) : Big.V (Big.put F k (F k + r)) N = Big.V F N + r * Big.B ^ k := by
 have s1 := Big.V_split (Big.put F k (F k + r)) (k + 1) (N - (k + 1))
 have s2 := Big.V_split F (k + 1) (N - (k + 1))
 rw [show k + 1 + (N - (k + 1)) = N by omega] at s1 s2
 rw [s1, s2, Big.V_succ, Big.V_succ, Big.put_at, Big.V_put_low (Nat.le_refl _), Big.V_congr (f := fun i => Big.put F k (F k + r) (k + 1 + i)) (g := fun i => F (k + 1 + i)) (fun i hi => Big.put_ne (by omega)), Nat.add_mul]
 omega
theorem bl_fits {L X : Nat} (h : Fits L X) : bl X ≤ 32 * L := bl_mono_le (by rw [← D_pow]; exact h.lt)
theorem over_mod {Q k : Nat} (h : Q % 2 ^ (k + 1) = 0) : (Q + 2 ^ k) % 2 ^ k = 0 ∧ Q % 2 ^ k = 0 ∧ Q / 2 ^ k % 2 = 0 := by
 have a := low_mono h (show k ≤ k + 1 by omega)
 refine ⟨by rw [Nat.add_mod_right]; exact a, a, ?_⟩
 have b := low_step a
 rw [h] at b
 have p : 0 < 2 ^ k := Nat.pow_pos (by omega)
 rcases Nat.mul_eq_zero.1 b.symm with q | q
 · omega
 · exact q
end Go.Proofs.YtblkokjkmbpejaaGreatDoor
