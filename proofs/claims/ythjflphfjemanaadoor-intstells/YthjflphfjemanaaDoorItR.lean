/-
  The document's Abs, Make, Format, Len, Pad, Group of ints.
-/
import Derived.Test.YthjflphfjemanaaDoorItA
import Derived.Test.YthjflphfjemanaaDoorUiI
namespace Go.Proofs.YthjflphfjemanaaDoor
open Go.RowKit Go.Extern.Stop Go.Stop Go.Extern

set_option maxRecDepth 100000 in
set_option maxHeartbeats 1000000 in
theorem rabs_any (v : Int) (h1 : -9223372036854775808 ≤ v) (h2 : v ≤ 9223372036854775807) (w : World) :
    Calls Tryd.prog 15 #[.int .i64 v] w fun e w' => e = .returned (.int .u64 (v.natAbs : Int)) ∧ w' = w := by
  by_cases q : v < 0
  · have e1 : IntKind.u64.wrap v = v + 18446744073709551616 := by rw [IntKind.wrap_u64]; omega
    have e2 : IntKind.u64.wrap (-(v + 18446744073709551616)) = (v.natAbs : Int) := by rw [IntKind.wrap_u64]; omega
    have HE : Hid (IntKind.u64.wrap v = v + 18446744073709551616 ∧ IntKind.u64.wrap (-(v + 18446744073709551616)) = (v.natAbs : Int)) := ⟨e1, e2⟩
    clear e1 e2 h1 h2
    go_enter Tryd.func15, Tryd.ntmps15
    go_wp2
    go_ret
    exact ⟨by rw [HE.out.1, HE.out.2]; rfl, rfl⟩
  · have e1 : IntKind.u64.wrap v = (v.natAbs : Int) := by rw [IntKind.wrap_u64]; omega
    have HE : Hid (IntKind.u64.wrap v = (v.natAbs : Int)) := e1
    clear e1 h1 h2
    go_enter Tryd.func15, Tryd.ntmps15
    go_wp2
    go_ret
    exact ⟨by rw [HE.out]; rfl, rfl⟩
set_option maxRecDepth 100000 in
set_option maxHeartbeats 1000000 in
theorem rminus_any (v : Int) (w : World) :
    Calls Tryd.prog 31 #[.int .i64 v] w fun e w' => e = .returned (.string ⟨(mrk v false).toArray⟩) ∧ w' = w := by
  by_cases q : v < 0
  · have HE : Hid (mrk v false = [45]) := mrk_neg q false
    go_enter Tryd.func31, Tryd.ntmps31
    go_wp2
    go_ret
    exact ⟨by rw [HE.out]; rfl, rfl⟩
  · have HE : Hid (mrk v false = []) := mrk_none q
    go_enter Tryd.func31, Tryd.ntmps31
    go_wp2
    go_ret
    exact ⟨by rw [HE.out]; rfl, rfl⟩
set_option maxRecDepth 100000 in
set_option maxHeartbeats 1000000 in
theorem riformat_err (v : Int) (h1 : -9223372036854775808 ≤ v) (h2 : v ≤ 9223372036854775807) (b : Int) {n : Int} (hn : n ≠ 0)
    (F1 : ∀ W, Calls Tryd.prog 30 #[.int .u64 (v.natAbs : Int), .int .i64 b] W fun x w' => x = .returned (.tuple #[.string ⟨#[]⟩, .int .i64 n]) ∧ w' = W) (w : World) :
    Calls Tryd.prog 10 #[.int .i64 v, .int .i64 b] w fun x w' => x = .returned (.tuple #[.string ⟨#[]⟩, .int .i64 n]) ∧ w' = w := by
  have A1 := fun W => rabs_any v h1 h2 W
  have hn' : (n != 0) = true := by simpa using hn
  clear h1 h2 hn
  generalize (v.natAbs : Int) = V at *
  go_enter Tryd.func10, Tryd.ntmps10
  go_wp2_with fail
  refine (A1 _).mono ?_
  rintro e w ⟨rfl, rfl⟩
  go_wp2_with fail
  refine (F1 _).mono ?_
  rintro e w ⟨rfl, rfl⟩
  go_wp2
  go_ret2
  exact ⟨rfl, rfl⟩
set_option maxRecDepth 100000 in
set_option maxHeartbeats 1000000 in
theorem riformat_yes (v : Int) (h1 : -9223372036854775808 ≤ v) (h2 : v ≤ 9223372036854775807) (b : Nat) (hb1 : 2 ≤ b) (hb2 : b ≤ 36) (w : World) :
    Calls Tryd.prog 10 #[.int .i64 v, .int .i64 (b : Int)] w fun x w' => x = .returned (.tuple #[.string ⟨(mrk v false ++ fl b v.natAbs).toArray⟩, .int .i64 0]) ∧ w' = w := by
  have A1 := fun W => rabs_any v h1 h2 W
  have F1 := fun W => rformat_yes v.natAbs b (abs_lt h1 h2) hb1 hb2 W
  have M1 := fun W => rminus_any v W
  have hlst : (fl b v.natAbs).length ≤ 10000 := by have := fl_le64 hb1 (abs_lt h1 h2); omega
  have hmm := mrk_len v false
  have hz : ¬ 9223372036854775807 < (⟨(mrk v false).toArray⟩ : ByteArray).size + (⟨(fl b v.natAbs).toArray⟩ : ByteArray).size := by rw [str_size, str_size]; omega
  have HA : Hid ((⟨(mrk v false).toArray⟩ : ByteArray) ++ ⟨(fl b v.natAbs).toArray⟩ = ⟨(mrk v false ++ fl b v.natAbs).toArray⟩) := str_append _ _
  clear h1 h2 hlst hmm
  generalize (⟨(fl b v.natAbs).toArray⟩ : ByteArray) = D at *
  generalize (⟨(mrk v false ++ fl b v.natAbs).toArray⟩ : ByteArray) = R at *
  generalize (⟨(mrk v false).toArray⟩ : ByteArray) = S at *
  generalize (v.natAbs : Int) = V at *
  go_enter Tryd.func10, Tryd.ntmps10
  go_wp2_with fail
  refine (A1 _).mono ?_
  rintro e w ⟨rfl, rfl⟩
  go_wp2_with fail
  refine (F1 _).mono ?_
  rintro e w ⟨rfl, rfl⟩
  go_wp2_with fail
  refine (M1 _).mono ?_
  rintro e w ⟨rfl, rfl⟩
  go_wp2
  go_ret2
  exact ⟨by rw [← HA.out]; rfl, rfl⟩
set_option maxRecDepth 100000 in
set_option maxHeartbeats 1000000 in
theorem rilen_yes (v : Int) (h1 : -9223372036854775808 ≤ v) (h2 : v ≤ 9223372036854775807) (b : Nat) (hb1 : 2 ≤ b) (hb2 : b ≤ 36) (w : World) :
    Calls Tryd.prog 12 #[.int .i64 v, .int .i64 (b : Int)] w fun x w' => x = .returned (.tuple #[.int .i64 ((mrk v false ++ fl b v.natAbs).length : Int), .int .i64 0]) ∧ w' = w := by
  have F1 := fun W => riformat_yes v h1 h2 b hb1 hb2 W
  have HL : Hid (((mrk v false ++ fl b v.natAbs).length : Int) = ((⟨(mrk v false ++ fl b v.natAbs).toArray⟩ : ByteArray).size : Int)) := by show _ = _; rw [str_size]
  clear h1 h2
  generalize (⟨(mrk v false ++ fl b v.natAbs).toArray⟩ : ByteArray) = S at *
  go_enter Tryd.func12, Tryd.ntmps12
  go_wp2_with fail
  refine (F1 _).mono ?_
  rintro e w ⟨rfl, rfl⟩
  go_wp2
  go_ret2
  exact ⟨by rw [HL.out]; rfl, rfl⟩
set_option maxRecDepth 100000 in
set_option maxHeartbeats 1000000 in
theorem rilen_no (v : Int) (h1 : -9223372036854775808 ≤ v) (h2 : v ≤ 9223372036854775807) (b : Int) (h : b < 2 ∨ 36 < b) (w : World) :
    Calls Tryd.prog 12 #[.int .i64 v, .int .i64 b] w fun x w' => x = .returned (.tuple #[.int .i64 0, .int .i64 7]) ∧ w' = w := by
  have F1 := fun W => riformat_err v h1 h2 b (n := 7) (by decide) (fun W => rformat_no v.natAbs b h W) W
  clear h1 h2 h
  go_enter Tryd.func12, Tryd.ntmps12
  go_wp2_with fail
  refine (F1 _).mono ?_
  rintro e w ⟨rfl, rfl⟩
  go_wp2
  go_ret2
  exact ⟨rfl, rfl⟩
set_option maxRecDepth 100000 in
set_option maxHeartbeats 1000000 in
theorem ripad_err (v : Int) (h1 : -9223372036854775808 ≤ v) (h2 : v ≤ 9223372036854775807) (b : Int) (k : Int) (p : Bool) {n : Int} (hn : n ≠ 0)
    (F1 : ∀ W, Calls Tryd.prog 39 #[.int .u64 (v.natAbs : Int), .int .i64 b, .int .i64 k] W fun x w' => x = .returned (.tuple #[.string ⟨#[]⟩, .int .i64 n]) ∧ w' = W) (w : World) :
    Calls Tryd.prog 20 #[.int .i64 v, .int .i64 b, .int .i64 k, .bool p] w fun x w' => x = .returned (.tuple #[.string ⟨#[]⟩, .int .i64 n]) ∧ w' = w := by
  have A1 := fun W => rabs_any v h1 h2 W
  have hn' : (n != 0) = true := by simpa using hn
  clear h1 h2 hn
  generalize (v.natAbs : Int) = V at *
  go_enter Tryd.func20, Tryd.ntmps20
  go_wp2_with fail
  refine (A1 _).mono ?_
  rintro e w ⟨rfl, rfl⟩
  go_wp2_with fail
  refine (F1 _).mono ?_
  rintro e w ⟨rfl, rfl⟩
  go_wp2
  go_ret2
  exact ⟨rfl, rfl⟩
set_option maxRecDepth 100000 in
set_option maxHeartbeats 1000000 in
theorem ripad_yesP (v : Int) (h1 : -9223372036854775808 ≤ v) (h2 : v ≤ 9223372036854775807) (b : Nat) (hb1 : 2 ≤ b) (hb2 : b ≤ 36) (k : Nat) (hk : k ≤ 1100) (hv : ¬ v < 0) (w : World) :
    Calls Tryd.prog 20 #[.int .i64 v, .int .i64 (b : Int), .int .i64 (k : Int), .bool true] w fun x w' => x = .returned (.tuple #[.string ⟨(mrk v true ++ (List.replicate (k - (fl b v.natAbs).length) 48 ++ fl b v.natAbs)).toArray⟩, .int .i64 0]) ∧ w' = w := by
  have A1 := fun W => rabs_any v h1 h2 W
  have F1 := fun W => rpad_yes v.natAbs b k (abs_lt h1 h2) hb1 hb2 hk W
  have M1 := fun W => rminus_any v W
  have hlst : ((List.replicate (k - (fl b v.natAbs).length) 48 ++ fl b v.natAbs)).length ≤ 10000 := by have := fl_le64 hb1 (abs_lt h1 h2); rw [List.length_append, List.length_replicate]; omega
  have hmm := mrk_len v true
  have hz : ¬ 9223372036854775807 < (⟨(mrk v true).toArray⟩ : ByteArray).size + (⟨((List.replicate (k - (fl b v.natAbs).length) 48 ++ fl b v.natAbs)).toArray⟩ : ByteArray).size := by rw [str_size, str_size]; omega
  have HA : Hid ((⟨(mrk v true).toArray⟩ : ByteArray) ++ ⟨((List.replicate (k - (fl b v.natAbs).length) 48 ++ fl b v.natAbs)).toArray⟩ = ⟨(mrk v true ++ (List.replicate (k - (fl b v.natAbs).length) 48 ++ fl b v.natAbs)).toArray⟩) := str_append _ _
  clear h1 h2 hlst hmm
  rw [mrk_plus hv] at hz HA ⊢
  have hv' : 0 ≤ v := by omega
  clear hv
  generalize (⟨((List.replicate (k - (fl b v.natAbs).length) 48 ++ fl b v.natAbs)).toArray⟩ : ByteArray) = D at *
  generalize (⟨([43] ++ (List.replicate (k - (fl b v.natAbs).length) 48 ++ fl b v.natAbs)).toArray⟩ : ByteArray) = R at *
  generalize (v.natAbs : Int) = V at *
  go_enter Tryd.func20, Tryd.ntmps20
  go_wp2_with fail
  refine (A1 _).mono ?_
  rintro e w ⟨rfl, rfl⟩
  go_wp2_with fail
  refine (F1 _).mono ?_
  rintro e w ⟨rfl, rfl⟩
  go_wp2
  go_ret2
  exact ⟨by rw [← HA.out]; rfl, rfl⟩
set_option maxRecDepth 100000 in
set_option maxHeartbeats 1000000 in
theorem ripad_yesM (v : Int) (h1 : -9223372036854775808 ≤ v) (h2 : v ≤ 9223372036854775807) (b : Nat) (hb1 : 2 ≤ b) (hb2 : b ≤ 36) (k : Nat) (hk : k ≤ 1100) (w : World) :
    Calls Tryd.prog 20 #[.int .i64 v, .int .i64 (b : Int), .int .i64 (k : Int), .bool false] w fun x w' => x = .returned (.tuple #[.string ⟨(mrk v false ++ (List.replicate (k - (fl b v.natAbs).length) 48 ++ fl b v.natAbs)).toArray⟩, .int .i64 0]) ∧ w' = w := by
  have A1 := fun W => rabs_any v h1 h2 W
  have F1 := fun W => rpad_yes v.natAbs b k (abs_lt h1 h2) hb1 hb2 hk W
  have M1 := fun W => rminus_any v W
  have hlst : ((List.replicate (k - (fl b v.natAbs).length) 48 ++ fl b v.natAbs)).length ≤ 10000 := by have := fl_le64 hb1 (abs_lt h1 h2); rw [List.length_append, List.length_replicate]; omega
  have hmm := mrk_len v false
  have hz : ¬ 9223372036854775807 < (⟨(mrk v false).toArray⟩ : ByteArray).size + (⟨((List.replicate (k - (fl b v.natAbs).length) 48 ++ fl b v.natAbs)).toArray⟩ : ByteArray).size := by rw [str_size, str_size]; omega
  have HA : Hid ((⟨(mrk v false).toArray⟩ : ByteArray) ++ ⟨((List.replicate (k - (fl b v.natAbs).length) 48 ++ fl b v.natAbs)).toArray⟩ = ⟨(mrk v false ++ (List.replicate (k - (fl b v.natAbs).length) 48 ++ fl b v.natAbs)).toArray⟩) := str_append _ _
  clear h1 h2 hlst hmm
  generalize (⟨((List.replicate (k - (fl b v.natAbs).length) 48 ++ fl b v.natAbs)).toArray⟩ : ByteArray) = D at *
  generalize (⟨(mrk v false ++ (List.replicate (k - (fl b v.natAbs).length) 48 ++ fl b v.natAbs)).toArray⟩ : ByteArray) = R at *
  generalize (⟨(mrk v false).toArray⟩ : ByteArray) = S at *
  generalize (v.natAbs : Int) = V at *
  go_enter Tryd.func20, Tryd.ntmps20
  go_wp2_with fail
  refine (A1 _).mono ?_
  rintro e w ⟨rfl, rfl⟩
  go_wp2_with fail
  refine (F1 _).mono ?_
  rintro e w ⟨rfl, rfl⟩
  go_wp2_with fail
  refine (M1 _).mono ?_
  rintro e w ⟨rfl, rfl⟩
  go_wp2
  go_ret2
  exact ⟨by rw [← HA.out]; rfl, rfl⟩
set_option maxRecDepth 100000 in
set_option maxHeartbeats 1000000 in
theorem ripad_yesN (v : Int) (h1 : -9223372036854775808 ≤ v) (h2 : v ≤ 9223372036854775807) (b : Nat) (hb1 : 2 ≤ b) (hb2 : b ≤ 36) (k : Nat) (hk : k ≤ 1100) (hv : v < 0) (w : World) :
    Calls Tryd.prog 20 #[.int .i64 v, .int .i64 (b : Int), .int .i64 (k : Int), .bool true] w fun x w' => x = .returned (.tuple #[.string ⟨(mrk v false ++ (List.replicate (k - (fl b v.natAbs).length) 48 ++ fl b v.natAbs)).toArray⟩, .int .i64 0]) ∧ w' = w := by
  have A1 := fun W => rabs_any v h1 h2 W
  have F1 := fun W => rpad_yes v.natAbs b k (abs_lt h1 h2) hb1 hb2 hk W
  have M1 := fun W => rminus_any v W
  have hlst : ((List.replicate (k - (fl b v.natAbs).length) 48 ++ fl b v.natAbs)).length ≤ 10000 := by have := fl_le64 hb1 (abs_lt h1 h2); rw [List.length_append, List.length_replicate]; omega
  have hmm := mrk_len v false
  have hz : ¬ 9223372036854775807 < (⟨(mrk v false).toArray⟩ : ByteArray).size + (⟨((List.replicate (k - (fl b v.natAbs).length) 48 ++ fl b v.natAbs)).toArray⟩ : ByteArray).size := by rw [str_size, str_size]; omega
  have HA : Hid ((⟨(mrk v false).toArray⟩ : ByteArray) ++ ⟨((List.replicate (k - (fl b v.natAbs).length) 48 ++ fl b v.natAbs)).toArray⟩ = ⟨(mrk v false ++ (List.replicate (k - (fl b v.natAbs).length) 48 ++ fl b v.natAbs)).toArray⟩) := str_append _ _
  have hv' : ¬ 0 ≤ v := by omega
  clear h1 h2 hlst hmm
  generalize (⟨((List.replicate (k - (fl b v.natAbs).length) 48 ++ fl b v.natAbs)).toArray⟩ : ByteArray) = D at *
  generalize (⟨(mrk v false ++ (List.replicate (k - (fl b v.natAbs).length) 48 ++ fl b v.natAbs)).toArray⟩ : ByteArray) = R at *
  generalize (⟨(mrk v false).toArray⟩ : ByteArray) = S at *
  generalize (v.natAbs : Int) = V at *
  go_enter Tryd.func20, Tryd.ntmps20
  go_wp2_with fail
  refine (A1 _).mono ?_
  rintro e w ⟨rfl, rfl⟩
  go_wp2_with fail
  refine (F1 _).mono ?_
  rintro e w ⟨rfl, rfl⟩
  go_wp2_with fail
  refine (M1 _).mono ?_
  rintro e w ⟨rfl, rfl⟩
  go_wp2
  go_ret2
  exact ⟨by rw [← HA.out]; rfl, rfl⟩
theorem ripad_yes (v : Int) (h1 : -9223372036854775808 ≤ v) (h2 : v ≤ 9223372036854775807) (b : Nat) (hb1 : 2 ≤ b) (hb2 : b ≤ 36) (k : Nat) (hk : k ≤ 1100) (p : Bool) (w : World) :
    Calls Tryd.prog 20 #[.int .i64 v, .int .i64 (b : Int), .int .i64 (k : Int), .bool p] w fun x w' => x = .returned (.tuple #[.string ⟨(mrk v p ++ (List.replicate (k - (fl b v.natAbs).length) 48 ++ fl b v.natAbs)).toArray⟩, .int .i64 0]) ∧ w' = w := by
  cases p
  · exact ripad_yesM v h1 h2 b hb1 hb2 k hk w
  · by_cases q : v < 0
    · rw [show mrk v true = mrk v false by rw [mrk_neg q, mrk_neg q]]
      exact ripad_yesN v h1 h2 b hb1 hb2 k hk q w
    · exact ripad_yesP v h1 h2 b hb1 hb2 k hk q w
set_option maxRecDepth 100000 in
set_option maxHeartbeats 1000000 in
theorem rigroup_err (v : Int) (h1 : -9223372036854775808 ≤ v) (h2 : v ≤ 9223372036854775807) (b : Int) (k : Int) {n : Int} (hn : n ≠ 0)
    (F1 : ∀ W, Calls Tryd.prog 41 #[.int .u64 (v.natAbs : Int), .int .i64 b, .int .i64 k] W fun x w' => x = .returned (.tuple #[.string ⟨#[]⟩, .int .i64 n]) ∧ w' = W) (w : World) :
    Calls Tryd.prog 22 #[.int .i64 v, .int .i64 b, .int .i64 k] w fun x w' => x = .returned (.tuple #[.string ⟨#[]⟩, .int .i64 n]) ∧ w' = w := by
  have A1 := fun W => rabs_any v h1 h2 W
  have hn' : (n != 0) = true := by simpa using hn
  clear h1 h2 hn
  generalize (v.natAbs : Int) = V at *
  go_enter Tryd.func22, Tryd.ntmps22
  go_wp2_with fail
  refine (A1 _).mono ?_
  rintro e w ⟨rfl, rfl⟩
  go_wp2_with fail
  refine (F1 _).mono ?_
  rintro e w ⟨rfl, rfl⟩
  go_wp2
  go_ret2
  exact ⟨rfl, rfl⟩
set_option maxRecDepth 100000 in
set_option maxHeartbeats 1000000 in
theorem rigroup_yes (v : Int) (h1 : -9223372036854775808 ≤ v) (h2 : v ≤ 9223372036854775807) (b : Nat) (hb1 : 2 ≤ b) (hb2 : b ≤ 36) (k : Nat) (hk : 1 ≤ k) (w : World) :
    Calls Tryd.prog 22 #[.int .i64 v, .int .i64 (b : Int), .int .i64 (k : Int)] w fun x w' => x = .returned (.tuple #[.string ⟨(mrk v false ++ gr k (fl b v.natAbs)).toArray⟩, .int .i64 0]) ∧ w' = w := by
  have A1 := fun W => rabs_any v h1 h2 W
  have F1 := fun W => rgroup_yes v.natAbs b k (abs_lt h1 h2) hb1 hb2 hk W
  have M1 := fun W => rminus_any v W
  have hlst : (gr k (fl b v.natAbs)).length ≤ 10000 := by have := gr_len k (fl b v.natAbs); have := fl_le64 hb1 (abs_lt h1 h2); omega
  have hmm := mrk_len v false
  have hz : ¬ 9223372036854775807 < (⟨(mrk v false).toArray⟩ : ByteArray).size + (⟨(gr k (fl b v.natAbs)).toArray⟩ : ByteArray).size := by rw [str_size, str_size]; omega
  have HA : Hid ((⟨(mrk v false).toArray⟩ : ByteArray) ++ ⟨(gr k (fl b v.natAbs)).toArray⟩ = ⟨(mrk v false ++ gr k (fl b v.natAbs)).toArray⟩) := str_append _ _
  clear h1 h2 hlst hmm
  generalize (⟨(gr k (fl b v.natAbs)).toArray⟩ : ByteArray) = D at *
  generalize (⟨(mrk v false ++ gr k (fl b v.natAbs)).toArray⟩ : ByteArray) = R at *
  generalize (⟨(mrk v false).toArray⟩ : ByteArray) = S at *
  generalize (v.natAbs : Int) = V at *
  go_enter Tryd.func22, Tryd.ntmps22
  go_wp2_with fail
  refine (A1 _).mono ?_
  rintro e w ⟨rfl, rfl⟩
  go_wp2_with fail
  refine (F1 _).mono ?_
  rintro e w ⟨rfl, rfl⟩
  go_wp2_with fail
  refine (M1 _).mono ?_
  rintro e w ⟨rfl, rfl⟩
  go_wp2
  go_ret2
  exact ⟨by rw [← HA.out]; rfl, rfl⟩
end Go.Proofs.YthjflphfjemanaaDoor
