/-
  What the head of the statements of layer 12 answers (works); a struct of five fields in a box of its own; that both answer the same.
-/
import Derived.Test.YtealnajogkeckaaDoorRnF
import Derived.Test.YtealnajogkeckaaDoorRnJ
namespace Go.Proofs.YtealnajogkeckaaDoor
open Go.RowKit

/-- A struct of five fields. -/
structure FvB (W : World) (K : Nat) (a b c d e : Value) : Prop where
  lt : K < W.heap.size
  a0 : W.cell? ⟨K, 0, none⟩ = some a
  a1 : W.cell? ⟨K, 1, none⟩ = some b
  a2 : W.cell? ⟨K, 2, none⟩ = some c
  a3 : W.cell? ⟨K, 3, none⟩ = some d
  a4 : W.cell? ⟨K, 4, none⟩ = some e
theorem FvB.step {W W' : World} {K : Nat} {a b c d e : Value} (h : FvB W K a b c d e) (hb : Below W.heap.size W W') : FvB W' K a b c d e := by
  have k := fun o => hb.cell (p := ⟨K, o, none⟩) h.lt
  exact ⟨Nat.lt_of_lt_of_le h.lt hb.size, (k 0).trans h.a0, (k 1).trans h.a1, (k 2).trans h.a2, (k 3).trans h.a3, (k 4).trans h.a4⟩
theorem FvB.new (W : World) (a b c d e : Value) (T : TypeId) : FvB (W.alloc (.cells #[a, b, c, d, e] T)) W.heap.size a b c d e :=
  ⟨by simp, by simp, by simp, by simp, by simp, by simp⟩
theorem fz_of (s : Int) : Sn s ∨ ∃ g n f T L, Fz s g n f T L := by
  by_cases h1 : s = 32
  · exact .inr ⟨_, _, _, _, _, .inl ⟨h1, rfl, rfl, rfl, rfl, rfl⟩⟩
  · by_cases h2 : s = 64
    · exact .inr ⟨_, _, _, _, _, .inr ⟨h2, rfl, rfl, rfl, rfl, rfl⟩⟩
    · exact .inl ⟨h1, h2⟩
theorem anV_err (g : Nat) (c : Bool) (p : Nat × Bool) : anV g c p = .tuple #[.int .u64 ((sgd g c p.1 : Nat) : Int), errV (if p.2 then 4 else 0)] := by
  unfold anV
  cases p.2 <;> rfl
theorem anR_num (g : Nat) (c : Bool) (p : Nat × Bool) : anR g c p = .tuple #[.int .u64 ((sgd g c p.1 : Nat) : Int), .int .i64 (((if p.2 then 4 else 0 : Nat)) : Int)] := by
  unfold anR
  cases p.2 <;> rfl
theorem z64 : Fz 64 9223372036854775808 9218868437227405312 52 2047 (-1074) := .inr ⟨rfl, rfl, rfl, rfl, rfl, rfl⟩
theorem z32 : Fz 32 2147483648 2139095040 23 255 (-149) := .inl ⟨rfl, rfl, rfl, rfl, rfl, rfl⟩

set_option maxRecDepth 100000 in
set_option maxHeartbeats 1000000 in
theorem works_any (w : World) (hT : Tab w) : Calls Tryd.prog 14 #[] w fun e w' => e = .returned (.bool true) ∧ Below w.heap.size w w' := by
  have R1 : ∀ W vn vd, Tab W → NatV W vn 1 → NatV W vd 3 → Calls Tryd.prog 10 #[.int .i64 64, .bool false, vn, vd, .int .i64 0] W fun x w' => x = .returned (.tuple #[.int .u64 4599676419421066581, .nilIface]) ∧ Below W.heap.size W w' := fun W vn vd hW hn hd => by
    have h := ratio_ok (e := 0) z64 false (by decide) (by decide) hW hn hd (by decide)
    rw [show anV 9223372036854775808 false (rdA 52 2047 (-1074) 1 3 0 false) = .tuple #[.int .u64 4599676419421066581, .nilIface] from by
      have k : rdA 52 2047 (-1074) 1 3 0 false = (4599676419421066581, false) := by decide +kernel
      rw [k]; rfl] at h
    exact h
  have W1 : ∀ W, Tab W → Calls Tryd.prog 15 #[.int .i64 64, .bool false, .int .u64 9007199254740993, .int .i64 0, .bool false] W fun x w' => x = .returned (.tuple #[.int .u64 4845873199050653696, .nilIface]) ∧ Below W.heap.size W w' := fun W hW => by
    have h := whole_ok (m := 9007199254740993) (e := 0) z64 false false (by decide) (by decide) (by decide) W hW
    rw [show anV 9223372036854775808 false (rdA 52 2047 (-1074) 9007199254740993 1 0 false) = .tuple #[.int .u64 4845873199050653696, .nilIface] from by
      have k : rdA 52 2047 (-1074) 9007199254740993 1 0 false = (4845873199050653696, false) := by decide +kernel
      rw [k]; rfl] at h
    exact h
  have W2 : ∀ W, Tab W → Calls Tryd.prog 15 #[.int .i64 64, .bool false, .int .u64 9007199254740993, .int .i64 0, .bool true] W fun x w' => x = .returned (.tuple #[.int .u64 4845873199050653697, .nilIface]) ∧ Below W.heap.size W w' := fun W hW => by
    have h := whole_ok (m := 9007199254740993) (e := 0) z64 false true (by decide) (by decide) (by decide) W hW
    rw [show anV 9223372036854775808 false (rdA 52 2047 (-1074) 9007199254740993 1 0 true) = .tuple #[.int .u64 4845873199050653697, .nilIface] from by
      have k : rdA 52 2047 (-1074) 9007199254740993 1 0 true = (4845873199050653697, false) := by decide +kernel
      rw [k]; rfl] at h
    exact h
  have W3 : ∀ W, Tab W → Calls Tryd.prog 15 #[.int .i64 32, .bool true, .int .u64 1, .int .i64 128, .bool false] W fun x w' => x = .returned (.tuple #[.int .u64 4286578688, .iface 76 (.int .i64 4)]) ∧ Below W.heap.size W w' := fun W hW => by
    have h := whole_ok (m := 1) (e := 128) z32 true false (by decide) (by decide) (by decide) W hW
    rw [show anV 2147483648 true (rdA 23 255 (-149) 1 1 128 false) = .tuple #[.int .u64 4286578688, .iface 76 (.int .i64 4)] from by
      have k : rdA 23 255 (-149) 1 1 128 false = (2139095040, true) := by decide +kernel
      rw [k]; rfl] at h
    exact h
  have N4 := fun W => num2_errno 4 W
  have HT : Hid (Tab w) := hT
  have BA : Hid (Below w.heap.size w ((w.alloc (.cells #[.int .u64 1] 27)).alloc (.cells #[.int .u64 3] 27))) := ((Below.refl _ _).alloc (Nat.le_refl _) _).alloc (by simp) _
  have n1 : NatV ((w.alloc (.cells #[.int .u64 1] 27)).alloc (.cells #[.int .u64 3] 27)) (.slice (some ⟨w.heap.size, 0, none⟩) 1 1) 1 := (natv_lit (x := 1) (by unfold B; decide) (by decide) 27).below ((Below.refl _ _).alloc (Nat.le_refl _) _)
  have n3 : NatV ((w.alloc (.cells #[.int .u64 1] 27)).alloc (.cells #[.int .u64 3] 27)) (.slice (some ⟨w.heap.size + 1, 0, none⟩) 1 1) 3 := by
    have h := natv_lit (w := w.alloc (.cells #[.int .u64 1] 27)) (x := 3) (by unfold B; decide) (by decide) 27
    rw [show (w.alloc (.cells #[.int .u64 1] 27)).heap.size = w.heap.size + 1 from by simp] at h
    exact h
  have T1 := R1 _ _ _ (HT.out.next BA.out) n1 n3
  clear n1 n3 R1 hT
  go_enter Tryd.func14, Tryd.ntmps14
  go_wp2_with fail
  refine T1.mono ?_
  rintro x w1 ⟨rfl, b1⟩
  have B1 : Hid (Below w.heap.size w w1) := BA.out.trans (b1.mono BA.out.size)
  clear b1 T1 BA
  go_wp2_with fail
  refine (W1 _ (HT.out.next B1.out)).mono ?_
  rintro x w2 ⟨rfl, b2⟩
  have B2 : Hid (Below w.heap.size w w2) := B1.out.trans (b2.mono B1.out.size)
  clear b2 B1
  go_wp2_with fail
  refine (W2 _ (HT.out.next B2.out)).mono ?_
  rintro x w3 ⟨rfl, b3⟩
  have B3 : Hid (Below w.heap.size w w3) := B2.out.trans (b3.mono B2.out.size)
  clear b3 B2
  go_wp2_with fail
  refine (W3 _ (HT.out.next B3.out)).mono ?_
  rintro x w4 ⟨rfl, b4⟩
  have B4 : Hid (Below w.heap.size w w4) := B3.out.trans (b4.mono B3.out.size)
  clear b4 B3 W1 W2 W3
  go_wp2_with fail
  refine (N4 _).mono ?_
  rintro x w5 ⟨rfl, rfl⟩
  go_wp2
  go_ret
  exact ⟨rfl, B4.out⟩
theorem whole_both (s : Int) (c more : Bool) (m : Nat) (hm : m < 18446744073709551616) (e : Int) : ∃ (y : Int) (k : Nat), (∀ W, Tab W → Calls Tryd.prog 15 #[.int .i64 s, .bool c, .int .u64 (m : Int), .int .i64 e, .bool more] W fun x w' => x = .returned (.tuple #[.int .u64 y, errV k]) ∧ Below W.heap.size W w') ∧ (∀ W, Calls Tryd.prog 16 #[.int .i64 s, .bool c, .int .u64 (m : Int), .int .i64 e, .bool more] W fun x w' => x = .returned (.tuple #[.int .u64 y, .int .i64 (k : Int)]) ∧ Below W.heap.size W w') := by
  rcases fz_of s with h | ⟨g, n, f, T, L, hz⟩
  · exact ⟨0, 5, fun W _ => whole_no h c more m e W, fun W => rwhole_no h c more m e W⟩
  · by_cases p1 : e < -1099511627776
    · exact ⟨0, 1, fun W _ => whole_far hz c more (.inl p1) W, fun W => rwhole_far1 hz c more m p1 W⟩
    · by_cases p2 : 1099511627776 < e
      · exact ⟨0, 1, fun W _ => whole_far hz c more (.inr p2) W, fun W => rwhole_far2 hz c more m p1 p2 W⟩
      · refine ⟨((sgd g c (rdA f T L m 1 e more).1 : Nat) : Int), if (rdA f T L m 1 e more).2 then 4 else 0, fun W hW => ?_, fun W => ?_⟩
        · rw [← anV_err]
          exact whole_ok hz c more hm (by omega) (by omega) W hW
        · rw [← anR_num]
          exact rwhole_ok hz c more hm p1 p2 W
theorem ratio_both (s : Int) (c : Bool) (n m : Nat) (F G : Nat → Nat) (e : Int) : ∃ (y : Int) (k : Nat), (∀ (W : World) (ao bo : Option Addr) (cn bn on cm bm om : Nat), Tab W → Sl W ao n cn bn on F → Sl W bo m cm bm om G → Calls Tryd.prog 10 #[.int .i64 s, .bool c, .slice ao n cn, .slice bo m cm, .int .i64 e] W fun x w' => x = .returned (.tuple #[.int .u64 y, errV k]) ∧ Below W.heap.size W w') ∧ (∀ (W : World) (ao bo : Option Addr) (cn bn on cm bm om : Nat), Sl W ao n cn bn on F → Sl W bo m cm bm om G → Calls Tryd.prog 11 #[.int .i64 s, .bool c, .slice ao n cn, .slice bo m cm, .int .i64 e] W fun x w' => x = .returned (.tuple #[.int .u64 y, .int .i64 (k : Int)]) ∧ Below W.heap.size W w') := by
  rcases fz_of s with h | ⟨g, n', f, T, L, hz⟩
  · exact ⟨0, 5, fun W ao bo cn bn on cm bm om _ S S' => ratio_no h c _ _ e W, fun W ao bo cn bn on cm bm om S S' => rratio_no h c e S S'⟩
  by_cases h1 : verr F n = 0
  · by_cases h2 : verr G m = 0
    · by_cases m0 : m = 0
      · refine ⟨0, 10, fun W ao bo cn bn on cm bm om _ S S' => ratio_fe hz c e (by decide) fun W' hb => ?_, fun W ao bo cn bn on cm bm om S S' => rratio_zero hz c e S S' h1 h2 m0⟩
        have q := fe_ok (S.below hb) (S'.below hb) h1 h2
        rw [if_pos m0] at q
        exact q
      · have FE : ∀ (W : World) (ao bo : Option Addr) (cn bn on cm bm om : Nat), Sl W ao n cn bn on F → Sl W bo m cm bm om G → Calls Tryd.prog 32 #[.slice ao n cn, .slice bo m cm] W fun e w' => e = .returned .nilIface ∧ Below W.heap.size W w' := fun W ao bo cn bn on cm bm om S S' => by
          have q := fe_ok S S' h1 h2
          rw [if_neg m0] at q
          exact q
        by_cases p : e < -1099511627776 ∨ 1099511627776 < e
        · exact ⟨0, 1, fun W ao bo cn bn on cm bm om _ S S' => ratio_far hz c p fun W' hb => FE W' ao bo cn bn on cm bm om (S.below hb) (S'.below hb), fun W ao bo cn bn on cm bm om S S' => rratio_far hz c S S' h1 h2 m0 p⟩
        · refine ⟨((sgd g c (rdA f T L (V F n) (V G m) e false).1 : Nat) : Int), if (rdA f T L (V F n) (V G m) e false).2 then 4 else 0, fun W ao bo cn bn on cm bm om hW S S' => ?_, fun W ao bo cn bn on cm bm om S S' => ?_⟩
          · rw [← anV_err]
            have NY := natv_mk S' h2
            refine ratio_ok hz c (by omega) (by omega) hW (natv_mk S h1) NY ?_
            obtain ⟨_, _, _, q, hq, _⟩ := nat_slice NY
            cases q
            exact fun z => m0 (hq.2 z)
          · rw [← anR_num]
            exact rratio_ok hz c S S' h1 h2 m0 (by omega) (by omega)
    · exact ⟨0, verr G m, fun W ao bo cn bn on cm bm om _ S S' => ratio_fe hz c e h2 fun W' hb => fe_bad2 (S.below hb) (S'.below hb) h1 h2, fun W ao bo cn bn on cm bm om S S' => rratio_bad2 hz c e S S' h1 h2⟩
  · exact ⟨0, verr F n, fun W ao bo cn bn on cm bm om _ S S' => ratio_fe hz c e h1 fun W' hb => fe_bad1 (S.below hb) _ h1, fun W ao bo cn bn on cm bm om S S' => rratio_bad1 hz c e S S' h1⟩
end Go.Proofs.YtealnajogkeckaaDoor
