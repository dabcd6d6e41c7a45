/-
  bits' exactly, pack and Pack: the float that has these parts, or the errors.
-/
import Derived.Test.YtealnajogkeckaaDoorBtH
import Derived.Test.YtealnajogkeckaaDoorBtD
namespace Go.Proofs.YtealnajogkeckaaDoor
open Go.RowKit

/-- What is answered where a float, or none, has a value; the value with a sign. -/
def exV : Option Nat → Value
  | none => .tuple #[.int .u64 0, .iface 76 (.int .i64 4)]
  | some b => .tuple #[.int .u64 (b : Int), .nilIface]

theorem exactly_32 {m : Nat} {p : Int} (hm : m < 18446744073709551616) (m0 : m ≠ 0) (hp0 : -9223372036854775808 ≤ p) (w : World) (hT : Tab w) : Calls Tryd.prog 107 #[.agg #[.int .u64 2147483648, .int .u64 2139095040, .int .i64 23, .int .i64 (-149)], .int .u64 (m : Int), .int .i64 p] w fun e w' => e = .returned (exV (pk 23 255 (-149) m p)) ∧ Below w.heap.size w w' := by
  have n0 : ((m : Int) == 0) = false := by simp; omega
  by_cases hp : 127 < p
  · rw [pk_high (f := 23) (t := 255) (L := (-149)) (by decide) m0 (by omega)]
    exact exact_high_32 n0 hp w
  · obtain ⟨j, hj, z1⟩ := ctz_odd m0 hm
    obtain ⟨z, hz⟩ : ∃ z, z = Lib.ctz 64 m := ⟨_, rfl⟩
    rw [← hz] at hj z1
    have hz' : ctzW (m : Int) = (z : Int) := by unfold ctzW; rw [Int.toNat_natCast, hz]
    obtain ⟨u, hu⟩ : ∃ u, u = rm 23 (-149) m p := ⟨_, rfl⟩
    have hu' : min (24 - (ln m : Int)) (p + 149) = u := by rw [hu]; unfold rm; omega
    by_cases q : (z : Int) < -u
    · rw [pk_low (f := 23) (t := 255) (L := (-149)) hj (by rw [← hu]; exact q)]
      exact exact_low_32 hm n0 hp0 hp hu' hz' q w hT
    · have hq : ¬ (z : Int) < -(rm 23 (-149) m p) := by rw [← hu]; exact q
      obtain ⟨g, _, _⟩ := pl_ok (f := 23) (L := (-149)) hj hq
      rw [pk_place (f := 23) (t := 255) (L := (-149)) (by decide) hj hq, ← hu]
      rw [← hu] at g
      obtain ⟨g1, g2, _⟩ := g
      by_cases q2 : 104 < p - u
      · rw [if_pos (by omega)]
        exact exact_top_32 hm n0 hp0 hp hu' hz' q q2 w hT
      · rw [if_neg (by omega)]
        obtain ⟨k, hk⟩ : ∃ k : Nat, p - u = (-149) + (k : Int) := ⟨(p - u + 149).toNat, by omega⟩
        have hk2 : k ≤ 255 := by omega
        have el : ly 23 (-149) (pl m u) (p - u) = k * 8388608 + pl m u := by
          unfold ly
          rw [show (p - u - (-149)).toNat = k by omega]
        rw [el]
        have hx : pl m u ≤ 16777216 := by
          have : pl m u < 16777216 := g1
          omega
        clear g1 g2 el hu hq
        rcases Int.lt_trichotomy u 0 with c | c | c
        · obtain ⟨v, rfl⟩ : ∃ v, u = -v := ⟨-u, by omega⟩
          have e : pl m (-v) = m / 2 ^ v.toNat := by
            unfold pl
            rw [show (-v).toNat = 0 by omega, show (- -v).toNat = v.toNat by omega, Nat.pow_zero, Nat.mul_one]
          exact exact_down_32 hm n0 hp0 hp hu' hz' (by omega) (by omega) (by omega) z1 (X := pl m (-v)) (by rw [e]; simp) hx (by omega) hk2 w hT
        · subst c
          have e : m = pl m 0 := by
            unfold pl
            simp
          exact exact_even_32 hm n0 hp0 hp hu' hz' (by omega) (by omega) e hx (by omega) hk2 w hT
        · have e : pl m u = m * 2 ^ u.toNat := by
            unfold pl
            rw [show (-u).toNat = 0 by omega, Nat.pow_zero, Nat.div_one]
          exact exact_up_32 hm n0 hp0 hp hu' hz' q q2 c (X := pl m u) (by rw [e]; simp) hx hk hk2 w hT
theorem exactly_64 {m : Nat} {p : Int} (hm : m < 18446744073709551616) (m0 : m ≠ 0) (hp0 : -9223372036854775808 ≤ p) (w : World) (hT : Tab w) : Calls Tryd.prog 107 #[.agg #[.int .u64 9223372036854775808, .int .u64 9218868437227405312, .int .i64 52, .int .i64 (-1074)], .int .u64 (m : Int), .int .i64 p] w fun e w' => e = .returned (exV (pk 52 2047 (-1074) m p)) ∧ Below w.heap.size w w' := by
  have n0 : ((m : Int) == 0) = false := by simp; omega
  by_cases hp : 1023 < p
  · rw [pk_high (f := 52) (t := 2047) (L := (-1074)) (by decide) m0 (by omega)]
    exact exact_high_64 n0 hp w
  · obtain ⟨j, hj, z1⟩ := ctz_odd m0 hm
    obtain ⟨z, hz⟩ : ∃ z, z = Lib.ctz 64 m := ⟨_, rfl⟩
    rw [← hz] at hj z1
    have hz' : ctzW (m : Int) = (z : Int) := by unfold ctzW; rw [Int.toNat_natCast, hz]
    obtain ⟨u, hu⟩ : ∃ u, u = rm 52 (-1074) m p := ⟨_, rfl⟩
    have hu' : min (53 - (ln m : Int)) (p + 1074) = u := by rw [hu]; unfold rm; omega
    by_cases q : (z : Int) < -u
    · rw [pk_low (f := 52) (t := 2047) (L := (-1074)) hj (by rw [← hu]; exact q)]
      exact exact_low_64 hm n0 hp0 hp hu' hz' q w hT
    · have hq : ¬ (z : Int) < -(rm 52 (-1074) m p) := by rw [← hu]; exact q
      obtain ⟨g, _, _⟩ := pl_ok (f := 52) (L := (-1074)) hj hq
      rw [pk_place (f := 52) (t := 2047) (L := (-1074)) (by decide) hj hq, ← hu]
      rw [← hu] at g
      obtain ⟨g1, g2, _⟩ := g
      by_cases q2 : 971 < p - u
      · rw [if_pos (by omega)]
        exact exact_top_64 hm n0 hp0 hp hu' hz' q q2 w hT
      · rw [if_neg (by omega)]
        obtain ⟨k, hk⟩ : ∃ k : Nat, p - u = (-1074) + (k : Int) := ⟨(p - u + 1074).toNat, by omega⟩
        have hk2 : k ≤ 2047 := by omega
        have el : ly 52 (-1074) (pl m u) (p - u) = k * 4503599627370496 + pl m u := by
          unfold ly
          rw [show (p - u - (-1074)).toNat = k by omega]
        rw [el]
        have hx : pl m u ≤ 9007199254740992 := by
          have : pl m u < 9007199254740992 := g1
          omega
        clear g1 g2 el hu hq
        rcases Int.lt_trichotomy u 0 with c | c | c
        · obtain ⟨v, rfl⟩ : ∃ v, u = -v := ⟨-u, by omega⟩
          have e : pl m (-v) = m / 2 ^ v.toNat := by
            unfold pl
            rw [show (-v).toNat = 0 by omega, show (- -v).toNat = v.toNat by omega, Nat.pow_zero, Nat.mul_one]
          exact exact_down_64 hm n0 hp0 hp hu' hz' (by omega) (by omega) (by omega) z1 (X := pl m (-v)) (by rw [e]; simp) hx (by omega) hk2 w hT
        · subst c
          have e : m = pl m 0 := by
            unfold pl
            simp
          exact exact_even_64 hm n0 hp0 hp hu' hz' (by omega) (by omega) e hx (by omega) hk2 w hT
        · have e : pl m u = m * 2 ^ u.toNat := by
            unfold pl
            rw [show (-u).toNat = 0 by omega, Nat.pow_zero, Nat.div_one]
          exact exact_up_64 hm n0 hp0 hp hu' hz' q q2 c (X := pl m u) (by rw [e]; simp) hx hk hk2 w hT
end Go.Proofs.YtealnajogkeckaaDoor
