/-
  The document's Most and Must of layer 14.
-/
import Derived.Test.YtfgopmgmmpkbeaaEwC
namespace Go.Proofs.Ytfgopmgmmpkbeaa
open Go.RowKit

theorem rmost_no {s : Int} (h : Sn s) (w : World) : Calls Try.prog 14 #[.int .i64 s] w fun e w' => e = .returned (.tuple #[.int .u64 0, .int .i64 0, .int .i64 5]) ∧ w' = w := by
  obtain ⟨h1, h2⟩ := h
  go_enter Try.func14, Try.ntmps14
  go_wp2
  refine bodyPost_ret (v := .tuple #[.int .u64 0, .int .i64 0, .int .i64 5]) (by simp [results, Try.results14, go_sem]) rfl ⟨rfl, rfl⟩
theorem rmost_ok {s : Int} {f T : Nat} {L : Int} {M K : Nat} (h : Xz s f T L M K) (w : World) : Calls Try.prog 14 #[.int .i64 s] w fun e w' => e = .returned (.tuple #[.int .u64 (M : Int), .int .i64 (K : Int), .int .i64 0]) ∧ w' = w := by
  rcases h with ⟨rfl, rfl, rfl, rfl, rfl, rfl⟩ | ⟨rfl, rfl, rfl, rfl, rfl, rfl⟩
  · go_enter Try.func14, Try.ntmps14
    go_wp2
    refine bodyPost_ret (v := .tuple #[.int .u64 16777216, .int .i64 10, .int .i64 0]) (by simp [results, Try.results14, go_sem]) rfl ⟨rfl, rfl⟩
  · go_enter Try.func14, Try.ntmps14
    go_wp2
    refine bodyPost_ret (v := .tuple #[.int .u64 9007199254740992, .int .i64 22, .int .i64 0]) (by simp [results, Try.results14, go_sem]) rfl ⟨rfl, rfl⟩
set_option maxHeartbeats 1000000 in
theorem must_un {s : Int} {f T : Nat} {L : Int} {M K : Nat} (h : Xz s f T L M K) {m : Nat} {e : Int} (m0 : m ≠ 0) (hm : M < m ∨ e < -(K : Int) ∨ (K : Int) < e) (w : World) : Calls Try.prog 9 #[.int .u64 (m : Int), .int .i64 e, .int .i64 s] w fun x w' => x = .returned (.bool false) ∧ w' = w := by
  have T := fun W => rmost_ok h W
  have c0 : ((m : Int) == 0) = false := by simp; omega
  have hk : K ≤ 22 := by rcases h with ⟨_, _, _, _, _, q⟩ | ⟨_, _, _, _, _, q⟩ <;> omega
  clear h m0
  by_cases c1 : (m : Int) ≤ (M : Int)
  · by_cases c2 : -(K : Int) ≤ e
    · have c3 : ¬ e ≤ (K : Int) := by omega
      clear hm
      go_enter Try.func9, Try.ntmps9
      go_wp2_with fail
      refine (T _).mono ?_
      rintro x w1 ⟨rfl, rfl⟩
      go_wp2
      go_ret
      exact ⟨congrArg (fun b => Ending.returned (Value.bool b)) (decide_eq_false (by omega)), rfl⟩
    · clear hm
      go_enter Try.func9, Try.ntmps9
      go_wp2_with fail
      refine (T _).mono ?_
      rintro x w1 ⟨rfl, rfl⟩
      go_wp2
      go_ret
      exact ⟨rfl, rfl⟩
  · clear hm
    go_enter Try.func9, Try.ntmps9
    go_wp2_with fail
    refine (T _).mono ?_
    rintro x w1 ⟨rfl, rfl⟩
    go_wp2
    go_ret
    exact ⟨rfl, rfl⟩
end Go.Proofs.Ytfgopmgmmpkbeaa
