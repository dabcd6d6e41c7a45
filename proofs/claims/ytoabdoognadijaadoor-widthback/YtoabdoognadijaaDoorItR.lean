/-
  The document's Abs, Make, Format, Len, Pad, Group of ints.
-/
import Derived.Test.YtoabdoognadijaaDoorItA
import Derived.Test.YtoabdoognadijaaDoorUiI
namespace Go.Proofs.YtoabdoognadijaaDoor
open Go.RowKit Go.Extern.Stop Go.Stop Go.Extern

set_option maxRecDepth 100000 in
set_option maxHeartbeats 1000000 in
theorem rabs_any (v : Int) (h1 : -9223372036854775808 ≤ v) (h2 : v ≤ 9223372036854775807) (w : World) :
    Calls Tryd.prog 65 #[.int .i64 v] w fun e w' => e = .returned (.int .u64 (v.natAbs : Int)) ∧ w' = w := by
  by_cases q : v < 0
  · have e1 : IntKind.u64.wrap v = v + 18446744073709551616 := by rw [IntKind.wrap_u64]; omega
    have e2 : IntKind.u64.wrap (-(v + 18446744073709551616)) = (v.natAbs : Int) := by rw [IntKind.wrap_u64]; omega
    have HE : Hid (IntKind.u64.wrap v = v + 18446744073709551616 ∧ IntKind.u64.wrap (-(v + 18446744073709551616)) = (v.natAbs : Int)) := ⟨e1, e2⟩
    clear e1 e2 h1 h2
    go_enter Tryd.func65, Tryd.ntmps65
    go_wp2
    go_ret
    exact ⟨by rw [HE.out.1, HE.out.2]; rfl, rfl⟩
  · have e1 : IntKind.u64.wrap v = (v.natAbs : Int) := by rw [IntKind.wrap_u64]; omega
    have HE : Hid (IntKind.u64.wrap v = (v.natAbs : Int)) := e1
    clear e1 h1 h2
    go_enter Tryd.func65, Tryd.ntmps65
    go_wp2
    go_ret
    exact ⟨by rw [HE.out]; rfl, rfl⟩
set_option maxRecDepth 100000 in
set_option maxHeartbeats 1000000 in
theorem rminus_any (v : Int) (w : World) :
    Calls Tryd.prog 66 #[.int .i64 v] w fun e w' => e = .returned (.string ⟨(mrk v false).toArray⟩) ∧ w' = w := by
  by_cases q : v < 0
  · have HE : Hid (mrk v false = [45]) := mrk_neg q false
    go_enter Tryd.func66, Tryd.ntmps66
    go_wp2
    go_ret
    exact ⟨by rw [HE.out]; rfl, rfl⟩
  · have HE : Hid (mrk v false = []) := mrk_none q
    go_enter Tryd.func66, Tryd.ntmps66
    go_wp2
    go_ret
    exact ⟨by rw [HE.out]; rfl, rfl⟩
set_option maxRecDepth 100000 in
set_option maxHeartbeats 1000000 in
theorem riformat_err (v : Int) (h1 : -9223372036854775808 ≤ v) (h2 : v ≤ 9223372036854775807) (b : Int) {n : Int} (hn : n ≠ 0)
    (F1 : ∀ W, Calls Tryd.prog 41 #[.int .u64 (v.natAbs : Int), .int .i64 b] W fun x w' => x = .returned (.tuple #[.string ⟨#[]⟩, .int .i64 n]) ∧ w' = W) (w : World) :
    Calls Tryd.prog 43 #[.int .i64 v, .int .i64 b] w fun x w' => x = .returned (.tuple #[.string ⟨#[]⟩, .int .i64 n]) ∧ w' = w := by
  have A1 := fun W => rabs_any v h1 h2 W
  have hn' : (n != 0) = true := by simpa using hn
  clear h1 h2 hn
  generalize (v.natAbs : Int) = V at *
  go_enter Tryd.func43, Tryd.ntmps43
  go_wp2_with fail
  refine (A1 _).mono ?_
  rintro e w ⟨rfl, rfl⟩
  go_wp2_with fail
  refine (F1 _).mono ?_
  rintro e w ⟨rfl, rfl⟩
  go_wp2
  go_ret2
  exact ⟨rfl, rfl⟩
set_option maxRecDepth 100000 in
set_option maxHeartbeats 1000000 in
theorem riformat_yes (v : Int) (h1 : -9223372036854775808 ≤ v) (h2 : v ≤ 9223372036854775807) (b : Nat) (hb1 : 2 ≤ b) (hb2 : b ≤ 36) (w : World) :
    Calls Tryd.prog 43 #[.int .i64 v, .int .i64 (b : Int)] w fun x w' => x = .returned (.tuple #[.string ⟨(mrk v false ++ fl b v.natAbs).toArray⟩, .int .i64 0]) ∧ w' = w := by
  have A1 := fun W => rabs_any v h1 h2 W
  have F1 := fun W => rformat_yes v.natAbs b (abs_lt h1 h2) hb1 hb2 W
  have M1 := fun W => rminus_any v W
  have hlst : (fl b v.natAbs).length ≤ 10000 := by have := fl_le64 hb1 (abs_lt h1 h2); omega
  have hmm := mrk_len v false
  have hz : ¬ 9223372036854775807 < (⟨(mrk v false).toArray⟩ : ByteArray).size + (⟨(fl b v.natAbs).toArray⟩ : ByteArray).size := by rw [str_size, str_size]; omega
  have HA : Hid ((⟨(mrk v false).toArray⟩ : ByteArray) ++ ⟨(fl b v.natAbs).toArray⟩ = ⟨(mrk v false ++ fl b v.natAbs).toArray⟩) := str_append _ _
  clear h1 h2 hlst hmm
  generalize (⟨(fl b v.natAbs).toArray⟩ : ByteArray) = D at *
  generalize (⟨(mrk v false ++ fl b v.natAbs).toArray⟩ : ByteArray) = R at *
  generalize (⟨(mrk v false).toArray⟩ : ByteArray) = S at *
  generalize (v.natAbs : Int) = V at *
  go_enter Tryd.func43, Tryd.ntmps43
  go_wp2_with fail
  refine (A1 _).mono ?_
  rintro e w ⟨rfl, rfl⟩
  go_wp2_with fail
  refine (F1 _).mono ?_
  rintro e w ⟨rfl, rfl⟩
  go_wp2_with fail
  refine (M1 _).mono ?_
  rintro e w ⟨rfl, rfl⟩
  go_wp2
  go_ret2
  exact ⟨by rw [← HA.out]; rfl, rfl⟩
end Go.Proofs.YtoabdoognadijaaDoor
