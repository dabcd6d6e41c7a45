/-
  The law BaseBack: the walk.
-/
import Derived.Test.YtkjmdjegdehpeaaBsK
namespace Go.Proofs.Ytkjmdjegdehpeaa
open Go.RowKit

theorem arr_list (o : List UInt8) : (⟨o.toArray⟩ : ByteArray).data.toList = o := rfl
theorem arr_size (o : List UInt8) : (⟨o.toArray⟩ : ByteArray).size = o.length := by show o.toArray.size = _; rw [List.size_toArray]
theorem len_list (s : ByteArray) : s.data.toList.length = s.size := by rw [Array.length_toList]; rfl
theorem take_bar (s : ByteArray) {k : Nat} (h : k < s.size) : (s.data.toList.take (k + 1)).countP (· == 95) = (s.data.toList.take k).countP (· == 95) + if s[k]'h = 95 then 1 else 0 := by
  have hl : k < s.data.toList.length := by simpa using h
  rw [List.take_succ_eq_append_getElem hl, List.countP_append]
  congr 1
  show [s[k]'h].countP (· == 95) = _
  by_cases q : s[k]'h = 95
  · rw [if_pos q, q]; rfl
  · rw [if_neg q]; simp [q]
theorem bar_le (s : ByteArray) (k : Nat) : (s.data.toList.take k).countP (· == 95) ≤ s.size := by
  have a := List.countP_le_length (p := (· == (95 : UInt8))) (l := s.data.toList.take k)
  have b : (s.data.toList.take k).length ≤ s.size := by simp; omega
  omega

set_option maxRecDepth 100000 in
set_option maxHeartbeats 4000000 in
theorem back_law (s : ByteArray) (hs : s.size ≤ 140737488351232) (b : Int) (pre : Bool) (w : World) :
    Calls Try.prog 6 #[.string s, .int .i64 b, .bool pre] w fun e w' => e = .returned (.bool true) ∧ Below w.heap.size w w' := by
  have V := fun x h W => bvalue_any x h W
  have G := fun n W => digit_any n W
  have S1 := fun W => works_any W
  have HS : Hid (s.size ≤ 140737488351232) := hs
  have hs2 : s.size ≤ 9223372036854775805 := by omega
  clear hs
  go_enter Try.func6, Try.ntmps6
  go_wp2
  go_loop [7] (fun i => ∃ k : Nat, k ≤ s.size ∧ i = .int .i64 (k : Int)) (fun i => s.size - (intOf i).toNat)
  case atStart => exact ⟨0, Nat.zero_le _, rfl⟩
  case round =>
    obtain ⟨k, hk, rfl⟩ := hrel
    by_cases hlt : k < s.size
    · obtain ⟨x, hx⟩ : ∃ x, (s[k]'hlt).toNat = x := ⟨_, rfl⟩
      have hx' : (((s[k]'hlt).toNat : Nat) : Int) = (x : Int) := by rw [hx]
      have hx256 : x < 256 := by rw [← hx]; exact UInt8.toNat_lt _
      have V1 := fun W => V x hx256 W
      clear hx V
      by_cases q : dv x < 36
      · rw [vN_pos q, vB_pos q] at V1
        have G1 := fun W => G (dv x : Int) W
        have g1 : gN (dv x : Int) = (dgc (dv x) : Int) := by unfold gN; rw [if_pos (by omega), Int.toNat_natCast]
        have g2 : gB (dv x : Int) = true := decide_eq_true (by omega)
        rw [g1, g2] at G1
        have dd := dgc_dv x q
        clear g1 g2 q G
        generalize hdx : dv x = y at *
        clear hdx
        rcases dd with dd | ⟨d1, d2, dd⟩
        · rw [dd] at G1
          clear dd
          go_wp2_with fail
          refine (V1 _).mono ?_
          rintro e w ⟨rfl, rfl⟩
          go_wp2_with fail
          refine (G1 _).mono ?_
          rintro e w ⟨rfl, rfl⟩
          go_wp2
          go_round
          case rel => exact ⟨k + 1, by omega, by go_num⟩
          case measure => simp [intOf]; omega
        · rw [dd, Int.natCast_add] at G1
          have G2 : ∀ W, Calls Try.prog 10 #[.int .i64 (y : Int)] W fun e w' => e = .returned (.tuple #[.int .u8 ((x : Int) + 32), .bool true]) ∧ w' = W := G1
          have n1 : ((x : Int) + 32 != (x : Int)) = true := bne_iff_ne.mpr (by omega)
          have n2 : ¬ (x : Int) < 65 := by omega
          have n3 : ¬ (90 : Int) < (x : Int) := by omega
          have n4 : IntKind.u8.wrap ((x : Int) + 32) = (x : Int) + 32 := by rw [IntKind.wrap_u8]; omega
          clear dd G1
          go_wp2_with fail
          refine (V1 _).mono ?_
          rintro e w ⟨rfl, rfl⟩
          go_wp2_with fail
          refine (G2 _).mono ?_
          rintro e w ⟨rfl, rfl⟩
          go_wp2
          go_round
          case rel => exact ⟨k + 1, by omega, by go_num⟩
          case measure => simp [intOf]; omega
      · rw [vN_neg q, vB_neg q] at V1
        clear q G
        go_wp2_with fail
        refine (V1 _).mono ?_
        rintro e w ⟨rfl, rfl⟩
        go_wp2
        go_round
        case rel => exact ⟨k + 1, by omega, by go_num⟩
        case measure => simp [intOf]; omega
    · clear V G
      have key : (∃ c : Int, ∀ W, Calls Try.prog 17 #[.string s, .int .i64 b, .bool pre] W fun e w' => e = .returned (.tuple #[.string ⟨#[]⟩, .iface 51 (.int .i64 c)]) ∧ Below W.heap.size W w') ∨
          (∃ (n : Nat) (o : List UInt8), b = (n : Int) ∧ Hid (2 ≤ n ∧ n ≤ 36 ∧ clean n pre s.data.toList = some o) ∧ ∀ W, Calls Try.prog 17 #[.string s, .int .i64 b, .bool pre] W fun e w' => e = .returned (.tuple #[.string ⟨o.toArray⟩, .nilIface]) ∧ Below W.heap.size W w') := by
        by_cases h : 2 ≤ b ∧ b ≤ 36
        · obtain ⟨n, rfl⟩ : ∃ n : Nat, b = (n : Int) := ⟨b.toNat, by omega⟩
          have c1 := fun W => clean_yes s (by have := HS.out; omega) n (by omega) (by omega) pre W
          cases q : clean n pre s.data.toList with
          | none => rw [q] at c1; exact Or.inl ⟨3, c1⟩
          | some o => rw [q] at c1; exact Or.inr ⟨n, o, rfl, ⟨by omega, by omega, q⟩, c1⟩
        · exact Or.inl ⟨7, fun W => (clean_no s b (by omega) pre W).mono fun e w' z => ⟨z.1, by rw [z.2]; exact Below.refl _ _⟩⟩
      rcases key with ⟨c, C1⟩ | ⟨n, o, rfl, HC, C1⟩
      · go_wp2_with fail
        refine (C1 _).mono ?_
        rintro e w1 ⟨rfl, b1⟩
        have B1 : Hid (Below w.heap.size w w1) := b1
        clear b1
        go_wp2_with fail
        refine (S1 _).mono ?_
        rintro e w2 ⟨rfl, b2⟩
        have B2 : Hid (Below w.heap.size w w2) := B1.out.trans (b2.mono B1.out.size)
        clear b2
        go_wp2
        go_ret
        exact ⟨rfl, B2.out⟩
      · have HL := clean_len HC.out.2.1 HC.out.2.2
        obtain ⟨T, hT⟩ : ∃ T : ByteArray, T = ⟨o.toArray⟩ := ⟨_, rfl⟩
        have tl : T.data.toList = o := by rw [hT]
        have tz : T.size = o.length := by rw [hT]; exact arr_size o
        have C2 := fun W => clean_yes T (by have := HS.out; have := len_list s; omega) n HC.out.1 HC.out.2.1 false W
        have D1 := fun W => head_yes T (by have := HS.out; have := len_list s; omega) n HC.out.1 HC.out.2.1 W
        rw [tl, clean_again HC.out.2.2] at C2
        rw [tl, hdn_clean HC.out.2.2] at D1
        have C3 : ∀ W, Calls Try.prog 17 #[.string T, .int .i64 (n : Int), .bool false] W fun e w' => e = .returned (.tuple #[.string T, .nilIface]) ∧ Below W.heap.size W w' := fun W => by
          have := C2 W
          rw [hT] at this ⊢
          exact this
        rw [← tz] at D1
        rw [← hT] at C1
        rw [← tz, len_list] at HL
        have eT := str_eq T
        have HLH : Hid (T.size + s.data.toList.countP (· == 95) = s.size ∧ 0 < T.size) := HL
        have t0 : 0 < T.size := HL.2
        have t1 : T.size ≤ 9223372036854775805 := by omega
        clear C2 tl tz hT HL HC o
        go_wp2_with fail
        refine (C1 _).mono ?_
        rintro e w1 ⟨rfl, b1⟩
        have B1 : Hid (Below w.heap.size w w1) := b1
        clear b1 C1
        go_wp2_with fail
        refine (C3 _).mono ?_
        rintro e w2 ⟨rfl, b2⟩
        have B2 : Hid (Below w.heap.size w w2) := B1.out.trans (b2.mono B1.out.size)
        clear b2 C3
        go_wp2_with fail
        refine (D1 _).mono ?_
        rintro e w2 ⟨rfl, rfl⟩
        clear D1
        go_wp2
        go_loop [18, 19] (fun c i => ∃ j m : Nat, j ≤ s.size ∧ i = .int .i64 (j : Int) ∧ c = .int .i64 (m : Int) ∧ m ≤ s.size ∧ Hid (m = (s.data.toList.take j).countP (· == 95))) (fun _ i => s.size - (intOf i).toNat)
        case atStart => exact ⟨0, 0, Nat.zero_le _, rfl, rfl, Nat.zero_le _, by show _ = _; rw [List.take_zero]; rfl⟩
        case round =>
          obtain ⟨j, m, hj, rfl, rfl, hm, HM⟩ := hrel
          by_cases hjl : j < s.size
          · have tb := take_bar s hjl
            rw [← HM.out] at tb
            have bl := bar_le s (j + 1)
            obtain ⟨c, hc⟩ : ∃ c, s[j]'hjl = c := ⟨_, rfl⟩
            rw [hc] at tb
            have hc' : (((s[j]'hjl).toNat : Nat) : Int) = (c.toNat : Int) := by rw [hc]
            by_cases z : c = 95
            · rw [if_pos z] at tb
              have hc2 : (((s[j]'hjl).toNat : Nat) : Int) = 95 := by rw [hc', z]; rfl
              have HTB : Hid (m + 1 = (s.data.toList.take (j + 1)).countP (· == 95)) := tb.symm
              have hm2 : m + 1 ≤ s.size := by omega
              clear tb bl hc hc' z
              go_wp2
              go_round
              case rel => exact ⟨j + 1, m + 1, by omega, by go_num, by go_num, hm2, HTB⟩
              case measure => simp [intOf]; omega
            · rw [if_neg z] at tb
              have z2 : ((c.toNat : Int) == 95) = false := by
                refine beq_eq_false_iff_ne.mpr fun y => z (UInt8.toNat_inj.mp ?_)
                exact Int.ofNat_inj.mp y
              have HTB : Hid (m = (s.data.toList.take (j + 1)).countP (· == 95)) := tb.symm
              clear tb bl hc z
              go_wp2
              go_round
              case rel => exact ⟨j + 1, m, by omega, by go_num, rfl, hm, HTB⟩
              case measure => simp [intOf]; omega
          · obtain rfl : j = s.size := by omega
            have hsum : (T.size : Int) + (m : Int) = (s.size : Int) := by
              have a := HLH.out.1
              have c := HM.out
              rw [List.take_of_length_le (by rw [len_list]; exact Nat.le_refl _)] at c
              omega
            go_wp2_with fail
            refine (S1 _).mono ?_
            rintro e w4 ⟨rfl, b4⟩
            have B4 : Hid (Below w.heap.size w w4) := B2.out.trans (b4.mono B2.out.size)
            clear b4
            go_wp2
            go_ret
            exact ⟨rfl, B4.out⟩
end Go.Proofs.Ytkjmdjegdehpeaa
