/-
  The document's sign, signed, Parse, Prefix of ints.
-/
import Derived.Test.YtoabdoognadijaaDoorItN
import Derived.Test.YtoabdoognadijaaDoorItB
import Derived.Test.YtoabdoognadijaaDoorUiK
namespace Go.Proofs.YtoabdoognadijaaDoor
open Go.RowKit

set_option maxRecDepth 100000 in
set_option maxHeartbeats 1000000 in
theorem rsign_any (s : ByteArray) (w : World) :
    Calls Tryd.prog 58 #[.string s] w fun e w' => e = .returned (.tuple #[.bool (sgN s.data.toList), .int .i64 (sgL s.data.toList : Int)]) ∧ w' = w := by
  by_cases h : s.size = 0
  · obtain rfl := str_nil h
    rw [show sgN (⟨#[]⟩ : ByteArray).data.toList = false from rfl, show sgL (⟨#[]⟩ : ByteArray).data.toList = 0 from rfl]
    clear h
    go_enter Tryd.func58, Tryd.ntmps58
    go_wp2
    go_ret2
    exact ⟨rfl, rfl⟩
  · have g0 : 0 < s.size := by omega
    have hne := str_some g0
    rw [str_cons g0]
    by_cases q : ((s[0]'g0).toNat : Int) = 45
    · have e : s[0]'g0 = 45 := u8_eq q
      have HE : Hid (sgN ((s[0]'g0) :: s.data.toList.drop 1) = true ∧ sgL ((s[0]'g0) :: s.data.toList.drop 1) = 1) := by rw [e]; exact sg_minus _
      clear e h
      have q1 : (((s[0]'g0).toNat : Int) != 43) = true := by rw [q]; rfl
      go_enter Tryd.func58, Tryd.ntmps58
      go_wp2
      go_ret2
      exact ⟨by rw [HE.out.1, HE.out.2]; rfl, rfl⟩
    · by_cases q2 : ((s[0]'g0).toNat : Int) = 43
      · have e : s[0]'g0 = 43 := u8_eq q2
        have HE : Hid (sgN ((s[0]'g0) :: s.data.toList.drop 1) = false ∧ sgL ((s[0]'g0) :: s.data.toList.drop 1) = 1) := by rw [e]; exact sg_plus _
        clear e h q
        go_enter Tryd.func58, Tryd.ntmps58
        go_wp2
        go_ret2
        exact ⟨by rw [HE.out.1, HE.out.2]; rfl, rfl⟩
      · have HE : Hid (sgN ((s[0]'g0) :: s.data.toList.drop 1) = false ∧ sgL ((s[0]'g0) :: s.data.toList.drop 1) = 0) := sg_none _ (fun e => q (by rw [e]; rfl)) (fun e => q2 (by rw [e]; rfl))
        have p1 : (((s[0]'g0).toNat : Int) == 45) = false := beq_eq_false_iff_ne.mpr q
        have p2 : (((s[0]'g0).toNat : Int) == 43) = false := beq_eq_false_iff_ne.mpr q2
        have p3 : (((s[0]'g0).toNat : Int) != 45) = true := by simpa using q
        have p4 : (((s[0]'g0).toNat : Int) != 43) = true := by simpa using q2
        clear h q q2
        go_enter Tryd.func58, Tryd.ntmps58
        go_wp2
        go_ret2
        exact ⟨by rw [HE.out.1, HE.out.2]; rfl, rfl⟩
set_option maxRecDepth 100000 in
set_option maxHeartbeats 1000000 in
theorem signed_any (neg far : Bool) (n : Nat) (hn : n < 18446744073709551616) (hf : far = true → mkB neg n = false) (w : World) :
    Calls Tryd.prog 59 #[.bool neg, .int .u64 (n : Int), .bool far] w fun e w' => e = .returned (.tuple #[.int .i64 (nrX neg n), .int .i64 (nrE neg n : Int)]) ∧ w' = w := by
  have M1 := fun W => rmake_any neg n hn W
  clear hn
  by_cases q : mkB neg n = true
  · have HE : Hid (nrX neg n = mkX neg n ∧ nrE neg n = 0) := nr_yes q
    have hf' : far = false := by cases far with | false => rfl | true => exact absurd (hf rfl) (by rw [q]; decide)
    subst hf'
    rw [q] at M1
    clear q hf
    generalize mkX neg n = X at *
    go_enter Tryd.func59, Tryd.ntmps59
    go_wp2_with fail
    refine (M1 _).mono ?_
    rintro e w ⟨rfl, rfl⟩
    go_wp2
    go_ret2
    exact ⟨by rw [HE.out.1, HE.out.2]; rfl, rfl⟩
  · have q' : mkB neg n = false := by cases h : mkB neg n with | true => exact absurd h q | false => rfl
    have HE : Hid (nrX neg n = (if neg then -9223372036854775808 else 9223372036854775807) ∧ nrE neg n = 4) := nr_no q'
    rw [q'] at M1
    clear q q' hf
    generalize mkX neg n = X at *
    generalize nrX neg n = Y at *
    generalize nrE neg n = E at *
    cases neg
    all_goals
      go_enter Tryd.func59, Tryd.ntmps59
      go_wp2_with fail
      refine (M1 _).mono ?_
      rintro e w ⟨rfl, rfl⟩
      go_wp2
      go_ret2
      exact ⟨by rw [HE.out.1, HE.out.2]; rfl, rfl⟩
set_option maxRecDepth 100000 in
set_option maxHeartbeats 1000000 in
theorem riparse_no (s : ByteArray) (b : Int) (h0 : b ≠ 0) (h : b < 2 ∨ 36 < b) (w : World) :
    Calls Tryd.prog 38 #[.string s, .int .i64 b] w fun x w' => x = .returned (.tuple #[.int .i64 0, .int .i64 7]) ∧ w' = w := by
  have SG := fun W => rsign_any s W
  have hle := sgL_le s.data.toList
  rw [ls_size] at hle
  have hsl : ¬ (s.size : Int) < (sgL s.data.toList : Int) := by omega
  have P1 := fun W => rparse_no (s.extract (sgL s.data.toList) s.size) b h0 h W
  clear h h0 hle
  generalize sgL s.data.toList = A at *
  generalize sgN s.data.toList = N at *
  go_enter Tryd.func38, Tryd.ntmps38
  go_wp2_with fail
  refine (SG _).mono ?_
  rintro e w ⟨rfl, rfl⟩
  go_wp2_with fail
  refine (P1 _).mono ?_
  rintro e w ⟨rfl, rfl⟩
  go_wp2
  go_ret2
  exact ⟨rfl, rfl⟩
theorem psX_far {b : Nat} {l : List UInt8} (h : psE b l = 4) (neg : Bool) : mkB neg (psX b l) = false := by
  have e : psX b l = 18446744073709551615 := by
    unfold psE at h
    unfold psX
    by_cases q : 0 < bgL b l ∧ bgL b l = l.length
    · rw [if_pos q] at h ⊢
      by_cases y : psN b l < 18446744073709551616
      · rw [if_pos y] at h; exact absurd h (by decide)
      · rw [if_neg y]
    · rw [if_neg q] at h; exact absurd h (by decide)
  rw [e]; cases neg <;> decide
theorem pxX_far {b : Nat} {l : List UInt8} (h : pxE b l = 4) (neg : Bool) : mkB neg (pxX b l) = false := by
  have e : pxX b l = 18446744073709551615 := by
    unfold pxE at h
    unfold pxX
    by_cases q : 0 < bgL b l
    · rw [if_pos q] at h ⊢
      by_cases y : pxN b l < 18446744073709551616
      · rw [if_pos y] at h; exact absurd h (by decide)
      · rw [if_neg y]
    · rw [if_neg q] at h; exact absurd h (by decide)
  rw [e]; cases neg <;> decide
set_option maxRecDepth 100000 in
set_option maxHeartbeats 1000000 in
theorem riparse_yes (s : ByteArray) (hs : s.size ≤ 140737488355328) (b : Nat) (h : readB b) (w : World) :
    Calls Tryd.prog 38 #[.string s, .int .i64 (b : Int)] w fun x w' => x = .returned (.tuple #[.int .i64 (ipX b s.data.toList), .int .i64 (ipE b s.data.toList : Int)]) ∧ Below w.heap.size w w' := by
  have SG := fun W => rsign_any s W
  have hle := sgL_le s.data.toList
  rw [ls_size] at hle
  have hsl : ¬ (s.size : Int) < (sgL s.data.toList : Int) := by omega
  have P1 := fun W => rparse_yes (s.extract (sgL s.data.toList) s.size) (sub_size s hs _) b h W
  rw [ls_drop] at P1
  have SD := fun far hf W => signed_any (sgN s.data.toList) far (psX b (s.data.toList.drop (sgL s.data.toList))) (psX_lt _ _) hf W
  have hfar := fun (h : psE b (s.data.toList.drop (sgL s.data.toList)) = 4) => psX_far h (sgN s.data.toList)
  have hX : ipX b s.data.toList = if psE b (s.data.toList.drop (sgL s.data.toList)) = 3 then 0 else nrX (sgN s.data.toList) (psX b (s.data.toList.drop (sgL s.data.toList))) := rfl
  have hE : ipE b s.data.toList = if psE b (s.data.toList.drop (sgL s.data.toList)) = 3 then 3 else nrE (sgN s.data.toList) (psX b (s.data.toList.drop (sgL s.data.toList))) := rfl
  have cs := psE_cases b (s.data.toList.drop (sgL s.data.toList))
  clear h hle
  generalize ipX b s.data.toList = X at *
  generalize ipE b s.data.toList = E at *
  generalize psX b (s.data.toList.drop (sgL s.data.toList)) = PX at *
  generalize psE b (s.data.toList.drop (sgL s.data.toList)) = PE at *
  generalize sgL s.data.toList = A at *
  generalize sgN s.data.toList = N at *
  rcases cs with rfl | rfl | rfl
  · have SD' := SD false (fun e => by cases e)
    have HX : Hid (X = nrX N PX ∧ E = nrE N PX) := ⟨by rw [hX, if_neg (by decide)], by rw [hE, if_neg (by decide)]⟩
    clear hX hE SD hfar hs
    generalize nrX N PX = Y at *
    generalize nrE N PX = F at *
    go_enter Tryd.func38, Tryd.ntmps38
    go_wp2_with fail
    refine (SG _).mono ?_
    rintro e w ⟨rfl, rfl⟩
    go_wp2_with fail
    refine (P1 _).mono ?_
    rintro e w1 ⟨rfl, b1⟩
    have B1 : Hid (Below w.heap.size w w1) := b1
    clear b1
    go_wp2_with fail
    refine (SD' _).mono ?_
    rintro e w1 ⟨rfl, rfl⟩
    go_wp2
    go_ret2
    exact ⟨by rw [HX.out.1, HX.out.2]; rfl, B1.out⟩
  · have HX : Hid (X = 0 ∧ E = 3) := ⟨by rw [hX, if_pos rfl], by rw [hE, if_pos rfl]⟩
    clear hX hE SD hfar hs
    go_enter Tryd.func38, Tryd.ntmps38
    go_wp2_with fail
    refine (SG _).mono ?_
    rintro e w ⟨rfl, rfl⟩
    go_wp2_with fail
    refine (P1 _).mono ?_
    rintro e w1 ⟨rfl, b1⟩
    have B1 : Hid (Below w.heap.size w w1) := b1
    clear b1
    go_wp2
    go_ret2
    exact ⟨by rw [HX.out.1, HX.out.2]; rfl, B1.out⟩
  · have SD' := SD true (fun e => hfar rfl)
    have HX : Hid (X = nrX N PX ∧ E = nrE N PX) := ⟨by rw [hX, if_neg (by decide)], by rw [hE, if_neg (by decide)]⟩
    clear hX hE SD hfar hs
    generalize nrX N PX = Y at *
    generalize nrE N PX = F at *
    go_enter Tryd.func38, Tryd.ntmps38
    go_wp2_with fail
    refine (SG _).mono ?_
    rintro e w ⟨rfl, rfl⟩
    go_wp2_with fail
    refine (P1 _).mono ?_
    rintro e w1 ⟨rfl, b1⟩
    have B1 : Hid (Below w.heap.size w w1) := b1
    clear b1
    go_wp2_with fail
    refine (SD' _).mono ?_
    rintro e w1 ⟨rfl, rfl⟩
    go_wp2
    go_ret2
    exact ⟨by rw [HX.out.1, HX.out.2]; rfl, B1.out⟩
end Go.Proofs.YtoabdoognadijaaDoor
