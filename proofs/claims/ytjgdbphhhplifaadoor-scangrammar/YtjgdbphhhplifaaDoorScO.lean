/-
  The law's digits: what it answers for every text.
-/
import Derived.Test.YtjgdbphhhplifaaDoorScB
namespace Go.Proofs.YtjgdbphhhplifaaDoor
open Go.RowKit

/-- Are all bytes digits? -/
def alD (x : Bool) (l : List UInt8) : Bool := l.all (isD (bs x))
theorem alD_cons (x : Bool) (c : UInt8) (r : List UInt8) : alD x (c :: r) = (isD (bs x) c && alD x r) := by unfold alD; rw [List.all_cons]
theorem alD_mem {x : Bool} {l : List UInt8} (h : alD x l = true) : ∀ c ∈ l, isD (bs x) c = true := List.all_eq_true.1 h
set_option maxRecDepth 100000 in
set_option maxHeartbeats 4000000 in
theorem ldig_any (s : ByteArray) (hs : s.size ≤ 140737488355328) (x : Bool) (w : World) : Calls Tryd.prog 18 #[.string s, .bool x] w fun e w' => e = .returned (.bool (alD x s.data.toList)) ∧ w' = w := by
  obtain ⟨R, hR⟩ : ∃ R, R = alD x s.data.toList := ⟨_, rfl⟩
  rw [← hR]
  have HR : Hid (R = alD x s.data.toList) := hR
  clear hR
  go_enter Tryd.func18, Tryd.ntmps18
  go_wp2
  go_loop [5] (fun i => ∃ k : Nat, k ≤ s.size ∧ i = .int .i64 (k : Int) ∧ Hid (R = alD x (s.data.toList.drop k))) (fun i => s.size - (intOf i).toNat)
  case atStart => exact ⟨0, Nat.zero_le _, rfl, HR⟩
  case round =>
    obtain ⟨k, hk, rfl, HK⟩ := hrel
    by_cases hlt : k < s.size
    · have i1 : (k : Int) < (s.size : Int) := by omega
      have i0 : (0 : Int) ≤ (k : Int) := by omega
      have HS : Hid (alD x (s.data.toList.drop k) = (isD (bs x) (s[k]'hlt) && alD x (s.data.toList.drop (k + 1)))) := by show _ = _; rw [drop_at s hlt, alD_cons]
      obtain ⟨n, hn⟩ : ∃ n : Nat, (s[k]'hlt).toNat = n := ⟨_, rfl⟩
      have e1 := isD_ten hn
      have e2 := isD_hex hn
      have hx : ((((s[k]'hlt).toNat : Nat) : Int)) = (n : Int) := by rw [hn]
      have hr : n ≤ 47 ∨ 48 ≤ n ∧ n ≤ 57 ∨ 58 ≤ n ∧ n ≤ 64 ∨ 65 ≤ n ∧ n ≤ 70 ∨ 71 ≤ n ∧ n ≤ 96 ∨ 97 ≤ n ∧ n ≤ 102 ∨ 103 ≤ n := by omega
      clear hn
      generalize hcc : s[k]'hlt = c at HS e1 e2
      clear hcc
      rcases hr with h | h | h | h | h | h | h
      · cases x with
        | true =>
          have t1 : (n : Int) < 48 := by omega
          have t3 : (n : Int) < 97 := by omega
          have t5 : (n : Int) < 65 := by omega
          have hd : isD (bs true) c = false := by rw [show bs true = 16 from rfl, e2]; exact decide_eq_false (by omega)
          have HK2 : Hid (R = false) := by show _ = _; rw [HK.out, HS.out, hd, Bool.false_and]
          clear e1 e2 hd HS HK h
          go_wp2
          go_ret
          exact ⟨by rw [HK2.out]; rfl, rfl⟩
        | false =>
          have t1 : (n : Int) < 48 := by omega
          have hd : isD (bs false) c = false := by rw [show bs false = 10 from rfl, e1]; exact decide_eq_false (by omega)
          have HK2 : Hid (R = false) := by show _ = _; rw [HK.out, HS.out, hd, Bool.false_and]
          clear e1 e2 hd HS HK h
          go_wp2
          go_ret
          exact ⟨by rw [HK2.out]; rfl, rfl⟩
      · cases x with
        | true =>
          have t1 : ¬ (n : Int) < 48 := by omega
          have t2 : ¬ (57 : Int) < (n : Int) := by omega
          have hd : isD (bs true) c = true := by rw [show bs true = 16 from rfl, e2]; exact decide_eq_true (by omega)
          have HK2 : Hid (R = alD true (s.data.toList.drop (k + 1))) := by show _ = _; rw [HK.out, HS.out, hd, Bool.true_and]
          clear e1 e2 hd HS HK h
          go_wp2
          go_round
          case rel => exact ⟨k + 1, by omega, by go_num, HK2⟩
          case measure => simp [intOf]; omega
        | false =>
          have t1 : ¬ (n : Int) < 48 := by omega
          have t2 : ¬ (57 : Int) < (n : Int) := by omega
          have hd : isD (bs false) c = true := by rw [show bs false = 10 from rfl, e1]; exact decide_eq_true (by omega)
          have HK2 : Hid (R = alD false (s.data.toList.drop (k + 1))) := by show _ = _; rw [HK.out, HS.out, hd, Bool.true_and]
          clear e1 e2 hd HS HK h
          go_wp2
          go_round
          case rel => exact ⟨k + 1, by omega, by go_num, HK2⟩
          case measure => simp [intOf]; omega
      · cases x with
        | true =>
          have t1 : ¬ (n : Int) < 48 := by omega
          have t2 : (57 : Int) < (n : Int) := by omega
          have t3 : (n : Int) < 97 := by omega
          have t5 : (n : Int) < 65 := by omega
          have hd : isD (bs true) c = false := by rw [show bs true = 16 from rfl, e2]; exact decide_eq_false (by omega)
          have HK2 : Hid (R = false) := by show _ = _; rw [HK.out, HS.out, hd, Bool.false_and]
          clear e1 e2 hd HS HK h
          go_wp2
          go_ret
          exact ⟨by rw [HK2.out]; rfl, rfl⟩
        | false =>
          have t1 : ¬ (n : Int) < 48 := by omega
          have t2 : (57 : Int) < (n : Int) := by omega
          have hd : isD (bs false) c = false := by rw [show bs false = 10 from rfl, e1]; exact decide_eq_false (by omega)
          have HK2 : Hid (R = false) := by show _ = _; rw [HK.out, HS.out, hd, Bool.false_and]
          clear e1 e2 hd HS HK h
          go_wp2
          go_ret
          exact ⟨by rw [HK2.out]; rfl, rfl⟩
      · cases x with
        | true =>
          have t1 : ¬ (n : Int) < 48 := by omega
          have t2 : (57 : Int) < (n : Int) := by omega
          have t3 : (n : Int) < 97 := by omega
          have t5 : ¬ (n : Int) < 65 := by omega
          have t6 : ¬ (70 : Int) < (n : Int) := by omega
          have hd : isD (bs true) c = true := by rw [show bs true = 16 from rfl, e2]; exact decide_eq_true (by omega)
          have HK2 : Hid (R = alD true (s.data.toList.drop (k + 1))) := by show _ = _; rw [HK.out, HS.out, hd, Bool.true_and]
          clear e1 e2 hd HS HK h
          go_wp2
          go_round
          case rel => exact ⟨k + 1, by omega, by go_num, HK2⟩
          case measure => simp [intOf]; omega
        | false =>
          have t1 : ¬ (n : Int) < 48 := by omega
          have t2 : (57 : Int) < (n : Int) := by omega
          have hd : isD (bs false) c = false := by rw [show bs false = 10 from rfl, e1]; exact decide_eq_false (by omega)
          have HK2 : Hid (R = false) := by show _ = _; rw [HK.out, HS.out, hd, Bool.false_and]
          clear e1 e2 hd HS HK h
          go_wp2
          go_ret
          exact ⟨by rw [HK2.out]; rfl, rfl⟩
      · cases x with
        | true =>
          have t1 : ¬ (n : Int) < 48 := by omega
          have t2 : (57 : Int) < (n : Int) := by omega
          have t3 : (n : Int) < 97 := by omega
          have t5 : ¬ (n : Int) < 65 := by omega
          have t6 : (70 : Int) < (n : Int) := by omega
          have hd : isD (bs true) c = false := by rw [show bs true = 16 from rfl, e2]; exact decide_eq_false (by omega)
          have HK2 : Hid (R = false) := by show _ = _; rw [HK.out, HS.out, hd, Bool.false_and]
          clear e1 e2 hd HS HK h
          go_wp2
          go_ret
          exact ⟨by rw [HK2.out]; rfl, rfl⟩
        | false =>
          have t1 : ¬ (n : Int) < 48 := by omega
          have t2 : (57 : Int) < (n : Int) := by omega
          have hd : isD (bs false) c = false := by rw [show bs false = 10 from rfl, e1]; exact decide_eq_false (by omega)
          have HK2 : Hid (R = false) := by show _ = _; rw [HK.out, HS.out, hd, Bool.false_and]
          clear e1 e2 hd HS HK h
          go_wp2
          go_ret
          exact ⟨by rw [HK2.out]; rfl, rfl⟩
      · cases x with
        | true =>
          have t1 : ¬ (n : Int) < 48 := by omega
          have t2 : (57 : Int) < (n : Int) := by omega
          have t3 : ¬ (n : Int) < 97 := by omega
          have t4 : ¬ (102 : Int) < (n : Int) := by omega
          have hd : isD (bs true) c = true := by rw [show bs true = 16 from rfl, e2]; exact decide_eq_true (by omega)
          have HK2 : Hid (R = alD true (s.data.toList.drop (k + 1))) := by show _ = _; rw [HK.out, HS.out, hd, Bool.true_and]
          clear e1 e2 hd HS HK h
          go_wp2
          go_round
          case rel => exact ⟨k + 1, by omega, by go_num, HK2⟩
          case measure => simp [intOf]; omega
        | false =>
          have t1 : ¬ (n : Int) < 48 := by omega
          have t2 : (57 : Int) < (n : Int) := by omega
          have hd : isD (bs false) c = false := by rw [show bs false = 10 from rfl, e1]; exact decide_eq_false (by omega)
          have HK2 : Hid (R = false) := by show _ = _; rw [HK.out, HS.out, hd, Bool.false_and]
          clear e1 e2 hd HS HK h
          go_wp2
          go_ret
          exact ⟨by rw [HK2.out]; rfl, rfl⟩
      · cases x with
        | true =>
          have t1 : ¬ (n : Int) < 48 := by omega
          have t2 : (57 : Int) < (n : Int) := by omega
          have t3 : ¬ (n : Int) < 97 := by omega
          have t4 : (102 : Int) < (n : Int) := by omega
          have t5 : ¬ (n : Int) < 65 := by omega
          have t6 : (70 : Int) < (n : Int) := by omega
          have hd : isD (bs true) c = false := by rw [show bs true = 16 from rfl, e2]; exact decide_eq_false (by omega)
          have HK2 : Hid (R = false) := by show _ = _; rw [HK.out, HS.out, hd, Bool.false_and]
          clear e1 e2 hd HS HK h
          go_wp2
          go_ret
          exact ⟨by rw [HK2.out]; rfl, rfl⟩
        | false =>
          have t1 : ¬ (n : Int) < 48 := by omega
          have t2 : (57 : Int) < (n : Int) := by omega
          have hd : isD (bs false) c = false := by rw [show bs false = 10 from rfl, e1]; exact decide_eq_false (by omega)
          have HK2 : Hid (R = false) := by show _ = _; rw [HK.out, HS.out, hd, Bool.false_and]
          clear e1 e2 hd HS HK h
          go_wp2
          go_ret
          exact ⟨by rw [HK2.out]; rfl, rfl⟩
    · have i1 : ¬ (k : Int) < (s.size : Int) := by omega
      have HK2 : Hid (R = true) := by
        show _ = _
        rw [HK.out, drop_end s hlt]; rfl
      go_wp2
      go_ret
      exact ⟨by rw [HK2.out]; rfl, rfl⟩
end Go.Proofs.YtjgdbphhhplifaaDoor
