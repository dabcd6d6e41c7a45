/-
  uints' readable, begin and value: what they answer for every input.
-/
import Derived.Test.YtoabdoognadijaaDoorUiT
namespace Go.Proofs.YtoabdoognadijaaDoor
open Go.RowKit

theorem readable_zero (w : World) : Calls Tryd.prog 50 #[.int .i64 0] w fun e w' => e = .returned (.bool true) ∧ w' = w := by
  go_enter Tryd.func50, Tryd.ntmps50
  go_wp2
  go_ret
  exact ⟨rfl, rfl⟩
theorem readable_yes (b : Int) (h1 : 2 ≤ b) (h2 : b ≤ 36) (w : World) : Calls Tryd.prog 50 #[.int .i64 b] w fun e w' => e = .returned (.bool true) ∧ w' = w := by
  have V := fun W => valid_yes b h1 h2 W
  have hb : (b == 0) = false := beq_eq_false_iff_ne.mpr (by omega)
  clear h1 h2
  go_enter Tryd.func50, Tryd.ntmps50
  go_wp2_with fail
  refine (V _).mono ?_
  rintro e w ⟨rfl, rfl⟩
  go_wp2
  go_ret
  exact ⟨rfl, rfl⟩
theorem readable_no (b : Int) (h0 : b ≠ 0) (h : b < 2 ∨ 36 < b) (w : World) : Calls Tryd.prog 50 #[.int .i64 b] w fun e w' => e = .returned (.bool false) ∧ w' = w := by
  have V := fun W => valid_no b h W
  have hb : (b == 0) = false := beq_eq_false_iff_ne.mpr h0
  clear h h0
  go_enter Tryd.func50, Tryd.ntmps50
  go_wp2_with fail
  refine (V _).mono ?_
  rintro e w ⟨rfl, rfl⟩
  go_wp2
  go_ret
  exact ⟨rfl, rfl⟩
theorem readable_any (b : Nat) (h : readB b) (w : World) : Calls Tryd.prog 50 #[.int .i64 (b : Int)] w fun e w' => e = .returned (.bool true) ∧ w' = w := by
  rcases h with h | h
  · subst h; exact readable_zero w
  · exact readable_yes (b : Int) (by omega) (by omega) w

/-- What begin answers. -/
def bgV (base : Nat) (l : List UInt8) : Value := .tuple #[.int .i64 (bgO base l : Int), .int .i64 (bgA base l : Int), .int .i64 (bgL base l : Int)]
set_option maxRecDepth 100000 in
set_option maxHeartbeats 1000000 in
theorem begin_at (s : ByteArray) (hs : s.size ≤ 9223372036854775806) (b : Nat) (h : readB b) (w : World) :
    Calls Tryd.prog 51 #[.string s, .int .i64 (b : Int)] w fun e w' => e = .returned (bgV b s.data.toList) ∧ Below w.heap.size w w' := by
  rcases h with h | ⟨h1, h2⟩
  · subst h
    have PF := fun W => prefix_any s (by omega) W
    rw [bt_btl, bt_btl, aB_int, aN_int] at PF
    have hlen := aN_len s.data.toList
    rw [show s.data.toList.length = s.size by simp] at hlen
    have RE := fun W => reach_any s (aB s.data.toList) (aN s.data.toList) (aB_in _).2 hs hlen W
    have HBG : Hid (bgV 0 s.data.toList = if 0 < aN s.data.toList ∧ bgR s.data.toList = 0 then .tuple #[.int .i64 10, .int .i64 0, .int .i64 1] else .tuple #[.int .i64 (aB s.data.toList : Int), .int .i64 (aN s.data.toList : Int), .int .i64 ((aN s.data.toList + bgR s.data.toList : Nat) : Int)]) := by
      show _ = _
      have z : ¬ (0 : Nat) ≠ 0 := fun h => h rfl
      unfold bgV bgO bgA bgL
      rw [if_neg z, if_neg z, if_neg z]
      by_cases q : 0 < aN s.data.toList ∧ bgR s.data.toList = 0
      · rw [if_pos q, if_pos q, if_pos q, if_pos q]; rfl
      · rw [if_neg q, if_neg q, if_neg q, if_neg q]
    change ∀ W, Calls _ _ _ _ (fun e w' => e = .returned (.int .i64 ((aN s.data.toList + bgR s.data.toList : Nat) : Int)) ∧ _) at RE
    generalize bgV 0 s.data.toList = V at *
    have hrl : bgR s.data.toList ≤ s.size := by
      have := rch_le (aB s.data.toList) (s.data.toList.drop (aN s.data.toList)) (decide (0 < aN s.data.toList))
      unfold bgR
      rw [List.length_drop, show s.data.toList.length = s.size by simp] at this
      omega
    generalize aB s.data.toList = X at *
    generalize bgR s.data.toList = R at *
    generalize aN s.data.toList = n at *
    by_cases q : 0 < n ∧ R = 0
    · have HE : Hid (V = .tuple #[.int .i64 10, .int .i64 0, .int .i64 1]) := by show _ = _; rw [HBG.out, if_pos q]
      obtain ⟨q1, rfl⟩ := q
      rw [Nat.add_zero] at RE
      clear HBG
      have q1' : (0 : Int) < (n : Int) := by omega
      go_enter Tryd.func51, Tryd.ntmps51
      go_wp2_with fail
      refine (PF _).mono ?_
      rintro e w ⟨rfl, rfl⟩
      go_wp2_with fail
      refine (RE _).mono ?_
      rintro e w1 ⟨rfl, hb⟩
      go_wp2
      go_ret3
      exact ⟨by rw [HE.out]; rfl, hb⟩
    · have HE : Hid (V = .tuple #[.int .i64 (X : Int), .int .i64 (n : Int), .int .i64 ((n + R : Nat) : Int)]) := by show _ = _; rw [HBG.out, if_neg q]
      clear HBG
      by_cases q1 : 0 < n
      · have q2 : 0 < R := by omega
        obtain ⟨L, hL⟩ : ∃ L, n + R = L := ⟨_, rfl⟩
        rw [hL] at RE HE
        have q3 : ((L : Int) == (n : Int)) = false := beq_eq_false_iff_ne.mpr (by omega)
        have q1' : (0 : Int) < (n : Int) := by omega
        clear hL q
        go_enter Tryd.func51, Tryd.ntmps51
        go_wp2_with fail
        refine (PF _).mono ?_
        rintro e w ⟨rfl, rfl⟩
        go_wp2_with fail
        refine (RE _).mono ?_
        rintro e w1 ⟨rfl, hb⟩
        go_wp2
        go_ret3
        exact ⟨by rw [HE.out]; rfl, hb⟩
      · have hn : n = 0 := by omega
        subst hn
        rw [Nat.zero_add] at RE HE
        clear q q1
        go_enter Tryd.func51, Tryd.ntmps51
        go_wp2_with fail
        refine (PF _).mono ?_
        rintro e w ⟨rfl, rfl⟩
        go_wp2_with fail
        refine (RE _).mono ?_
        rintro e w1 ⟨rfl, hb⟩
        go_wp2
        go_ret3
        exact ⟨by rw [HE.out]; rfl, hb⟩
  · have HD := fun W => head_yes s (by omega) b h1 h2 W
    have z : b ≠ 0 := by omega
    have HE : Hid (bgV b s.data.toList = .tuple #[.int .i64 (b : Int), .int .i64 0, .int .i64 (hdn b s.data.toList : Int)]) := by
      show _ = _
      unfold bgV bgO bgA bgL
      rw [if_pos z, if_pos z, if_pos z]; rfl
    generalize bgV b s.data.toList = V at *
    generalize hdn b s.data.toList = K at *
    have hne : ((b : Int) != 0) = true := by simp; omega
    go_enter Tryd.func51, Tryd.ntmps51
    go_wp2_with fail
    refine (HD _).mono ?_
    rintro e w ⟨rfl, rfl⟩
    go_wp2
    go_ret3
    exact ⟨by rw [HE.out]; rfl, Below.refl _ _⟩

/-- What value answers. -/
def vlV (n : Nat) : Value := if n < 18446744073709551616 then .tuple #[.int .u64 (n : Int), .nilIface] else .tuple #[.int .u64 18446744073709551615, .iface 64 (.int .i64 4)]
theorem vlV_in {n : Nat} (h : n < 18446744073709551616) : vlV n = .tuple #[.int .u64 (n : Int), .nilIface] := by unfold vlV; rw [if_pos h]
theorem vlV_out {n : Nat} (h : ¬ n < 18446744073709551616) : vlV n = .tuple #[.int .u64 18446744073709551615, .iface 64 (.int .i64 4)] := by unfold vlV; rw [if_neg h]
set_option maxRecDepth 100000 in
set_option maxHeartbeats 1000000 in
theorem value_any (s : ByteArray) (hs : s.size ≤ 9223372036854775806) (b : Nat) (h1 : 2 ≤ b) (h2 : b ≤ 36) (w : World) :
    Calls Tryd.prog 52 #[.string s, .int .i64 (b : Int)] w fun e w' => e = .returned (vlV (av b 0 s.data.toList)) ∧ w' = w := by
  have u1 : IntKind.u64.wrap (b : Int) = (b : Int) := by rw [IntKind.wrap_u64]; omega
  have d0 : ((b : Int) == 0) = false := beq_eq_false_iff_ne.mpr (by omega)
  obtain ⟨V, hV⟩ : ∃ V, V = av b 0 s.data.toList := ⟨_, rfl⟩
  rw [← hV]
  have HV : Hid (V = av b 0 s.data.toList) := hV
  clear hV
  have VA := fun c hc W => bvalue_any c hc W
  go_enter Tryd.func52, Tryd.ntmps52
  go_wp2
  go_loop [6, 16] (fun vv iv => ∃ k v : Nat, vv = .int .u64 (v : Int) ∧ iv = .int .i64 (k : Int) ∧ k ≤ s.size ∧ v < 18446744073709551616 ∧ Hid (V = av b v (s.data.toList.drop k))) (fun _ iv => s.size - (intOf iv).toNat)
  case atStart => exact ⟨0, 0, rfl, rfl, Nat.zero_le _, by omega, by show V = _; rw [List.drop_zero, HV.out]⟩
  case round =>
    clear HV
    obtain ⟨k, v, rfl, rfl, hk, hv, HI⟩ := hrel
    by_cases hlt : k < s.size
    · have VC := VA (s[k]'hlt).toNat (byte_lt _)
      have HDR : Hid (s.data.toList.drop k = (s[k]'hlt) :: s.data.toList.drop (k + 1)) := drop_at s hlt
      have hlt' : (k : Int) < (s.size : Int) := by omega
      clear VA
      by_cases q : dv (s[k]'hlt).toNat < 36
      · rw [vN_pos q, vB_pos q] at VC
        have HS : Hid (V = av b (v * b + dv (s[k]'hlt).toNat) (s.data.toList.drop (k + 1))) := by
          show V = _
          rw [HI.out, HDR.out, av_cons, avs_yes q]
        clear HI HDR
        generalize dv (s[k]'hlt).toNat = d at *
        have ud : IntKind.u64.wrap (d : Int) = (d : Int) := by rw [IntKind.wrap_u64]; omega
        have us : IntKind.u64.wrap (18446744073709551615 - (d : Int)) = 18446744073709551615 - (d : Int) := by rw [IntKind.wrap_u64]; omega
        obtain ⟨Q, hQ⟩ : ∃ Q : Nat, Q = (18446744073709551615 - d) / b := ⟨_, rfl⟩
        have hq : (18446744073709551615 - (d : Int)) / (b : Int) = (Q : Int) := by
          rw [hQ, Int.natCast_ediv, Int.natCast_sub (by omega)]; rfl
        have uq : IntKind.u64.wrap (Q : Int) = (Q : Int) := by
          have := Nat.div_le_self (18446744073709551615 - d) b
          rw [IntKind.wrap_u64]; omega
        by_cases z : v ≤ Q
        · have hle : v * b + d ≤ 18446744073709551615 := by
            rw [hQ] at z
            have := (Nat.le_div_iff_mul_le (show 0 < b by omega)).1 z
            omega
          have HQ : Hid (Q = (18446744073709551615 - d) / b) := hQ
          clear hQ
          obtain ⟨M, hM⟩ : ∃ M : Nat, v * b = M := ⟨_, rfl⟩
          have hm : (v : Int) * (b : Int) = (M : Int) := by rw [← hM, Int.natCast_mul]
          rw [hM] at HS hle
          clear hM
          have um : IntKind.u64.wrap (M : Int) = (M : Int) := by rw [IntKind.wrap_u64]; omega
          have ua : IntKind.u64.wrap ((M : Int) + (d : Int)) = (M : Int) + (d : Int) := by rw [IntKind.wrap_u64]; omega
          have z' : ¬ (Q : Int) < (v : Int) := by omega
          go_wp2_with fail
          refine (VC _).mono ?_
          rintro e w ⟨rfl, rfl⟩
          go_wp2
          go_round
          case rel => exact ⟨k + 1, M + d, by go_num, by go_num, by omega, by omega, HS⟩
          case measure => simp [intOf] <;> omega
        · have hbig : ¬ V < 18446744073709551616 := by
            have a1 := av_ge (show 1 ≤ b by omega) (s.data.toList.drop (k + 1)) (v * b + d)
            rw [← HS.out] at a1
            have : ¬ v * b ≤ 18446744073709551615 - d := fun y => z (by rw [hQ]; exact (Nat.le_div_iff_mul_le (show 0 < b by omega)).2 y)
            omega
          have HO := vlV_out hbig
          have HO' : Hid (vlV V = .tuple #[.int .u64 18446744073709551615, .iface 64 (.int .i64 4)]) := HO
          have z' : (Q : Int) < (v : Int) := by omega
          clear HO HS hQ hbig z
          go_wp2_with fail
          refine (VC _).mono ?_
          rintro e w ⟨rfl, rfl⟩
          go_wp2
          go_ret2
          exact ⟨by rw [HO'.out]; rfl, rfl⟩
      · rw [vN_neg q, vB_neg q] at VC
        have HS : Hid (V = av b v (s.data.toList.drop (k + 1))) := by
          show V = _
          rw [HI.out, HDR.out, av_cons, avs_no q]
        clear HI HDR q
        go_wp2_with fail
        refine (VC _).mono ?_
        rintro e w ⟨rfl, rfl⟩
        go_wp2
        go_round
        case rel => exact ⟨k + 1, v, by go_num, by go_num, by omega, hv, HS⟩
        case measure => simp [intOf] <;> omega
    · have hV : V = v := by
        rw [HI.out, drop_end s hlt]; rfl
      subst hV
      have HO : Hid (vlV V = .tuple #[.int .u64 (V : Int), .nilIface]) := vlV_in hv
      have hlt' : ¬ (k : Int) < (s.size : Int) := by omega
      clear HI VA
      go_wp2
      go_ret2
      exact ⟨by rw [HO.out]; rfl, rfl⟩
end Go.Proofs.YtoabdoognadijaaDoor
