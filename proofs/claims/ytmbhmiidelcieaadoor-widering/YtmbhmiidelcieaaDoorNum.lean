/-
  What a call of wide.isNumber answers, for every text.
-/
import Derived.Test.YtmbhmiidelcieaaDoorReadM
namespace Go.Proofs.YtmbhmiidelcieaaDoor
open Go.RowKit

theorem ret_bool {a b : Bool} (h : a = b) : Ending.returned (.bool a) = .returned (.bool b) := by rw [h]

set_option maxHeartbeats 1000000 in
/-- The loop of isNumber, behind its first test. -/
theorem wisnum_loop (s : ByteArray) (hs : s.size ≤ maxLen) (h0 : 0 < s.size) (hE : s.toList.isEmpty = false)
    (hc : ((((s[0]'h0).toNat : Int) == 48) = true ∧ (s.toList == [48]) = true) ∨ (((s[0]'h0).toNat : Int) == 48) = false) (hok : digitsTo s s.size → isNum s) (w : World) :
    Calls Tryd.prog 35 #[.string s] w fun e w' => e = .returned (.bool (isNumB s)) ∧ w' = w := by
  unfold maxLen at hs
  have HO : Hid (digitsTo s s.size → isNum s) := hok
  clear hok
  rcases hc with ⟨c1, c2⟩ | c1
  all_goals
    go_enter Tryd.func35, Tryd.ntmps35
    go_wp2
    go_loop [17] (fun i => ∃ k : Nat, k ≤ s.size ∧ i = .int .i64 k ∧ digitsTo s k) (fun i => s.size - (intOf i).toNat)
    case atStart => exact ⟨0, Nat.zero_le _, rfl, fun j hj => absurd hj (by omega)⟩
    case round =>
      obtain ⟨k, hk, rfl, hd⟩ := hrel
      have HD : Hid (digitsTo s k) := hd
      clear hd
      by_cases hlt : k < s.size
      · have e := byteAt_eq s k hlt
        have HB : Hid (byteAt s k = (s[k]'hlt).toNat) := e
        clear e
        by_cases d1 : ((s[k]'hlt).toNat : Int) < 48
        · go_wp2
          go_ret
          refine ⟨ret_bool (isNumB_false fun z => ?_), rfl⟩
          have := z.2.1 k hlt
          have := HB.out
          omega
        · have d1' : decide (((s[k]'hlt).toNat : Int) < 48) = false := by simpa using d1
          by_cases d2 : (57 : Int) < ((s[k]'hlt).toNat : Int)
          · go_wp2
            go_ret
            refine ⟨ret_bool (isNumB_false fun z => ?_), rfl⟩
            have := z.2.1 k hlt
            have := HB.out
            omega
          · go_wp2
            go_round
            case rel => exact ⟨k + 1, by omega, by go_num, digitsTo_succ HD.out (by have := HB.out; omega) (by have := HB.out; omega)⟩
            case measure => simp [intOf]; omega
      · go_wp2
        go_ret
        have e : k = s.size := by omega
        exact ⟨ret_bool (isNumB_true (HO.out (e ▸ HD.out))), rfl⟩

set_option maxHeartbeats 1000000 in
theorem wisnum_any (s : ByteArray) (hs : s.size ≤ maxLen) (w : World) :
    Calls Tryd.prog 35 #[.string s] w fun e w' => e = .returned (.bool (isNumB s)) ∧ w' = w := by
  by_cases z : s.size = 0
  · have hE : s.toList.isEmpty = true := by
      rw [toList_data, List.isEmpty_iff]
      exact List.eq_nil_of_length_eq_zero (by simpa using z)
    have HN : Hid (¬ isNum s) := fun q => by have := q.1; omega
    go_enter Tryd.func35, Tryd.ntmps35
    go_wp2
    go_ret
    exact ⟨ret_bool (isNumB_false HN.out), rfl⟩
  · have h0 : 0 < s.size := by omega
    have hE : s.toList.isEmpty = false := by
      rw [toList_data]
      cases q : s.data.toList with
      | nil => exact absurd (show s.size = 0 by have := congrArg List.length q; simpa using this) z
      | cons a r => rfl
    have hb := byteAt_eq s 0 h0
    by_cases c : byteAt s 0 = 48
    · by_cases d : s.size = 1
      · refine wisnum_loop s hs h0 hE (Or.inl ⟨beq_iff_eq.mpr (by omega), ?_⟩) (fun q => ⟨h0, q, fun _ => d⟩) w
        have hl : s.data.toList.length = s.size := by simp
        rw [toList_data]
        match q : s.data.toList with
        | [] => rw [q] at hl; simp only [List.length_nil] at hl; omega
        | [x] =>
          have e : x.toNat = 48 := by
            rw [← c]; unfold byteAt; rw [q]; rfl
          have : x = 48 := UInt8.toNat_inj.mp (by rw [e]; rfl)
          rw [this]; rfl
        | x :: y :: r => rw [q] at hl; simp only [List.length_cons] at hl; omega
      · have c1 : (((s[0]'h0).toNat : Int) == 48) = true := beq_iff_eq.mpr (by omega)
        have c2 : (s.toList == [48]) = false := by
          rw [toList_data]
          cases q : (s.data.toList == [48]) with
          | false => rfl
          | true =>
            have e : s.data.toList = [48] := by simpa using q
            have := congrArg List.length e
            simp at this
            omega
        have HN : Hid (¬ isNum s) := fun q => d (q.2.2 c)
        unfold maxLen at hs
        clear c d hb
        go_enter Tryd.func35, Tryd.ntmps35
        go_wp2
        go_ret
        exact ⟨ret_bool (isNumB_false HN.out), rfl⟩
    · exact wisnum_loop s hs h0 hE (Or.inr (beq_eq_false_iff_ne.mpr (by omega))) (fun q => ⟨h0, q, fun x => absurd x c⟩) w

end Go.Proofs.YtmbhmiidelcieaaDoor
