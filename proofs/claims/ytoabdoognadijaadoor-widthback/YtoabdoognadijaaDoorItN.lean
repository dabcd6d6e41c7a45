/-
  The document's Make of ints.
-/
import Derived.Test.YtoabdoognadijaaDoorItA
namespace Go.Proofs.YtoabdoognadijaaDoor
open Go.RowKit

set_option maxRecDepth 100000 in
set_option maxHeartbeats 1000000 in
theorem rmake_any (neg : Bool) (n : Nat) (hn : n < 18446744073709551616) (w : World) :
    Calls Tryd.prog 84 #[.bool neg, .int .u64 (n : Int)] w fun e w' => e = .returned (.tuple #[.int .i64 (mkX neg n), .bool (mkB neg n)]) ∧ w' = w := by
  cases neg
  · by_cases q : n < 9223372036854775808
    · have HE : Hid (mkB false n = true ∧ mkX false n = (n : Int)) := mkX_pos q
      have q' : (n : Int) < 9223372036854775808 := by omega
      clear hn q
      go_enter Tryd.func84, Tryd.ntmps84
      go_wp2
      go_ret2
      exact ⟨by rw [HE.out.1, HE.out.2]; rfl, rfl⟩
    · have hb : mkB false n = false := by rw [mkB_pos]; exact decide_eq_false q
      have HE : Hid (mkB false n = false ∧ mkX false n = 0) := ⟨hb, mkX_no hb⟩
      have q' : ¬ (n : Int) < 9223372036854775808 := by omega
      clear hn q hb
      go_enter Tryd.func84, Tryd.ntmps84
      go_wp2
      go_ret2
      exact ⟨by rw [HE.out.1, HE.out.2]; rfl, rfl⟩
  · by_cases q : n ≤ 9223372036854775808
    · have HE : Hid (mkB true n = true ∧ mkX true n = wrap64 (IntKind.u64.wrap (-(n : Int)))) := ⟨(mkX_neg q).1, by rw [(mkX_neg q).2, IntKind.wrap_u64]; unfold wrap64; omega⟩
      have q' : (n : Int) ≤ 9223372036854775808 := by omega
      clear hn q
      go_enter Tryd.func84, Tryd.ntmps84
      go_wp2
      go_ret2
      exact ⟨by rw [HE.out.1, HE.out.2]; rfl, rfl⟩
    · have hb : mkB true n = false := by rw [mkB_neg]; exact decide_eq_false q
      have HE : Hid (mkB true n = false ∧ mkX true n = 0) := ⟨hb, mkX_no hb⟩
      have q' : ¬ (n : Int) ≤ 9223372036854775808 := by omega
      clear hn q hb
      go_enter Tryd.func84, Tryd.ntmps84
      go_wp2
      go_ret2
      exact ⟨by rw [HE.out.1, HE.out.2]; rfl, rfl⟩
end Go.Proofs.YtoabdoognadijaaDoor
