/-
  What Widen and Narrow answer for all bits: bits' and the document's the same.
-/
import Derived.Test.YtdejfjlcknfbbaaDoorBtWn
import Derived.Test.YtdejfjlcknfbbaaDoorBtRf
namespace Go.Proofs.YtdejfjlcknfbbaaDoor
open Go.RowKit

theorem up_plain {g n f b : Nat} {L k : Int} (h : cl n (mg g b) = k) (h4 : k ≠ 4) (h2 : k ≠ 2) : uN g n b = ng g b ∧ uM n f (mg g b) = 0 ∧ uE n f L (mg g b) = 0 := by
  unfold uN uM uE
  rw [h, if_neg h4, if_neg h2, if_neg h2]
  exact ⟨rfl, rfl, rfl⟩
theorem up_nan {g n f b : Nat} {L : Int} (h : cl n (mg g b) = 4) : uN g n b = false ∧ uM n f (mg g b) = 0 ∧ uE n f L (mg g b) = 0 := by
  unfold uN uM uE
  rw [h, if_pos rfl, if_neg (by decide), if_neg (by decide)]
  exact ⟨rfl, rfl, rfl⟩
theorem up_fine {g n f b : Nat} {L : Int} (h : cl n (mg g b) = 2) : uN g n b = ng g b ∧ uM n f (mg g b) = mt f (mg g b) ∧ uE n f L (mg g b) = xp f L (mg g b) := by
  unfold uN uM uE
  rw [h, if_neg (by decide), if_pos rfl, if_pos rfl]
  exact ⟨rfl, rfl, rfl⟩
/-- The parts of a fine float of 64 bits. -/
theorem fine_64x {x : Nat} (x0 : x ≠ 0) (h : x < 9218868437227405312) : mt 52 x ≠ 0 ∧ mt 52 x < 9007199254740992 ∧ -1074 ≤ xp 52 (-1074) x ∧ xp 52 (-1074) x ≤ 971 ∧ (4503599627370496 ≤ mt 52 x ∨ xp 52 (-1074) x = -1074) := by
  obtain ⟨a, b, c⟩ := parts_good 52 (-1074) x
  refine ⟨mt_pos x0, a, b, ?_, c⟩
  rw [xp_64]
  split <;> omega
theorem fine_32x {x : Nat} (x0 : x ≠ 0) (h : x < 2139095040) : mt 23 x ≠ 0 ∧ mt 23 x < 16777216 ∧ -149 ≤ xp 23 (-149) x ∧ xp 23 (-149) x ≤ 104 := by
  obtain ⟨a, b, c⟩ := parts_good 23 (-149) x
  refine ⟨mt_pos x0, a, b, ?_⟩
  rw [xp_32]
  split <;> omega
theorem nw_lt (m : Nat) (p : Int) : (nw m p).1 < 2147483648 := by
  unfold nw
  split
  · decide
  · split
    · decide
    · rename_i y hy
      have := pk_lt (T := 255) rfl (by decide) hy
      show y < 2147483648
      omega

/-- What Widen answers of the bits of a size: by their class. -/
def wdV (b : Nat) : Nat :=
  if cl 2139095040 (mg 2147483648 b) = 1 then sgd 9223372036854775808 (ng 2147483648 b) 0
  else if cl 2139095040 (mg 2147483648 b) = 3 then sgd 9223372036854775808 (ng 2147483648 b) 9218868437227405312
  else if cl 2139095040 (mg 2147483648 b) = 4 then 9221120237041090560
  else sgd 9223372036854775808 (ng 2147483648 b) ((pk 52 2047 (-1074) (mt 23 (mg 2147483648 b)) (xp 23 (-149) (mg 2147483648 b))).getD 0)
theorem widen_both_ok {b : Nat} (h : b < 4294967296) : (∀ W, Tab W → Calls Tryd.prog 34 #[.int .u64 (b : Int)] W fun e w' => e = .returned (.tuple #[.int .u64 (wdV b : Int), .nilIface]) ∧ Below W.heap.size W w') ∧ (∀ W, Calls Tryd.prog 35 #[.int .u64 (b : Int)] W fun e w' => e = .returned (.tuple #[.int .u64 (wdV b : Int), .int .i64 0]) ∧ Below W.heap.size W w') := by
  have U := fun W => unp_32 h W
  have R := fun W => runp_32 h W
  unfold wdV
  rcases cl_cases 2139095040 (mg 2147483648 b) with ⟨_, q⟩ | ⟨p0, p1, q⟩ | ⟨_, _, q⟩ | ⟨_, q⟩
  · obtain ⟨e1, e2, e3⟩ := up_plain (f := 23) (L := -149) q (by decide) (by decide)
    rw [e1, e2, e3, q] at U R
    rw [q, if_pos rfl]
    exact ⟨fun W g => widen_of U (fun W' _ => pack_zero_64 _ _ _ W') W g, fun W => rwiden_of R (fun W' => rpk_zero_64 _ _ _ W') W⟩
  · obtain ⟨e1, e2, e3⟩ := up_fine (f := 23) (L := -149) q
    rw [e1, e2, e3, q] at U R
    rw [q, if_neg (by decide), if_neg (by decide), if_neg (by decide)]
    obtain ⟨m0, m1, m2, m3⟩ := fine_32x p0 p1
    obtain ⟨y, hy, _⟩ := wide_some m0 m1 m2 m3
    rw [hy]
    have F := fun W => rpk_fine_64 (ng 2147483648 b) (m := mt 23 (mg 2147483648 b)) (p := xp 23 (-149) (mg 2147483648 b)) (by omega) m0 (by omega) (by omega) W
    rw [hy] at F
    exact ⟨fun W g => widen_of U (fun W' g' => pack_some_64 _ (by omega) m0 (by omega) hy W' g') W g, fun W => rwiden_of R (fun W' => F W') W⟩
  · obtain ⟨e1, e2, e3⟩ := up_plain (f := 23) (L := -149) q (by decide) (by decide)
    rw [e1, e2, e3, q] at U R
    rw [q, if_neg (by decide), if_pos rfl]
    exact ⟨fun W g => widen_of U (fun W' _ => pack_inf_64 _ _ _ W') W g, fun W => rwiden_of R (fun W' => rpk_inf_64 _ _ _ W') W⟩
  · obtain ⟨e1, e2, e3⟩ := up_nan (f := 23) (L := -149) q
    rw [e1, e2, e3, q] at U R
    rw [q, if_neg (by decide), if_neg (by decide), if_pos rfl]
    exact ⟨fun W g => widen_of U (fun W' _ => pack_nan_64 _ _ _ W') W g, fun W => rwiden_of R (fun W' => rpk_nan_64 _ _ _ W') W⟩
/-- What Narrow answers of all bits: by their class. -/
def nrV (b : Nat) : Nat × Bool :=
  if cl 9218868437227405312 (mg 9223372036854775808 b) = 1 then (sgd 2147483648 (ng 9223372036854775808 b) 0, true)
  else if cl 9218868437227405312 (mg 9223372036854775808 b) = 3 then (sgd 2147483648 (ng 9223372036854775808 b) 2139095040, true)
  else if cl 9218868437227405312 (mg 9223372036854775808 b) = 4 then (2143289344, false)
  else (sgd 2147483648 (ng 9223372036854775808 b) (nw (mt 52 (mg 9223372036854775808 b)) (xp 52 (-1074) (mg 9223372036854775808 b))).1, (nw (mt 52 (mg 9223372036854775808 b)) (xp 52 (-1074) (mg 9223372036854775808 b))).2)
theorem narrow_both {b : Nat} (h : b < 18446744073709551616) : (∀ W, Tab W → Calls Tryd.prog 36 #[.int .u64 (b : Int)] W fun e w' => e = .returned (.tuple #[.int .u64 ((nrV b).1 : Int), .bool (nrV b).2, .nilIface]) ∧ Below W.heap.size W w') ∧ (∀ W, Calls Tryd.prog 37 #[.int .u64 (b : Int)] W fun e w' => e = .returned (.tuple #[.int .u64 ((nrV b).1 : Int), .bool (nrV b).2]) ∧ Below W.heap.size W w') := by
  have U := fun W => unpack_64 h W
  have R := fun W => runp_64 h W
  unfold nrV
  rcases cl_cases 9218868437227405312 (mg 9223372036854775808 b) with ⟨_, q⟩ | ⟨p0, p1, q⟩ | ⟨_, _, q⟩ | ⟨_, q⟩
  · obtain ⟨e1, e2, e3⟩ := up_plain (f := 52) (L := -1074) q (by decide) (by decide)
    rw [e1, e2, e3, q] at U R
    rw [q, if_pos rfl]
    exact ⟨fun W g => narrow_other (by decide) U (fun W' _ => pack_zero_32 _ _ _ W') W g, fun W => rnarrow_other (by decide) (by decide) R (fun W' => rpk_zero_32 _ _ _ W') W⟩
  · obtain ⟨e1, e2, e3⟩ := up_fine (f := 52) (L := -1074) q
    rw [e1, e2, e3, q] at U R
    rw [q, if_neg (by decide), if_neg (by decide), if_neg (by decide)]
    obtain ⟨m0, m1, m2, m3, m4⟩ := fine_64x p0 p1
    exact ⟨fun W g => narrow_fine (nw_lt _ _) U (fun W' => nearest_any m0 m1 m2 m3 m4 W') W, fun W => rnarrow_fine m0 m1 m2 m3 m4 R W⟩
  · obtain ⟨e1, e2, e3⟩ := up_plain (f := 52) (L := -1074) q (by decide) (by decide)
    rw [e1, e2, e3, q] at U R
    rw [q, if_neg (by decide), if_pos rfl]
    exact ⟨fun W g => narrow_other (by decide) U (fun W' _ => pack_inf_32 _ _ _ W') W g, fun W => rnarrow_other (by decide) (by decide) R (fun W' => rpk_inf_32 _ _ _ W') W⟩
  · obtain ⟨e1, e2, e3⟩ := up_nan (f := 52) (L := -1074) q
    rw [e1, e2, e3, q] at U R
    rw [q, if_neg (by decide), if_neg (by decide), if_pos rfl]
    exact ⟨fun W g => narrow_other (by decide) U (fun W' _ => pack_nan_32 _ _ _ W') W g, fun W => rnarrow_nan R W⟩
end Go.Proofs.YtdejfjlcknfbbaaDoor
