/-
  What the document's two, Add, Sub, Cmp answer of every two rows of words; what nat's Add, Sub, Cmp, Word answer of every number.
-/
import Derived.Test.YtkkgancmodhghaaDoorBigB
import Derived.Test.YtkkgancmodhghaaDoorBigW
import Derived.Test.YtkkgancmodhghaaDoorNatQ
namespace Go.Proofs.YtkkgancmodhghaaDoor
open Go.RowKit

theorem two_any {w : World} {ao : Option Addr} {n c b o : Nat} {f : Nat → Nat} (S : Sl w ao n c b o f) {ao' : Option Addr} {n' c' b' o' : Nat} {f' : Nat → Nat} (S' : Sl w ao' n' c' b' o' f') :
    Calls Tryd.prog 46 #[.slice ao n c, .slice ao' n' c'] w fun e w' => e = .returned (.int .i64 (verr2 f n f' n' : Int)) ∧ w' = w := by
  have V1 := rvalid_any S
  have V2 := rvalid_any S'
  unfold verr2
  by_cases q : verr f n = 0
  · rw [if_pos q]
    rw [q] at V1
    clear q
    generalize verr f' n' = e2 at *
    go_enter Tryd.func46, Tryd.ntmps46
    go_wp2_with fail
    refine V1.mono ?_
    rintro e w ⟨rfl, rfl⟩
    go_wp2_with fail
    refine V2.mono ?_
    rintro e w ⟨rfl, rfl⟩
    go_wp2
    go_ret
    exact ⟨rfl, rfl⟩
  · rw [if_neg q]
    have q' : (((verr f n : Nat) : Int) == 0) = false := beq_eq_false_iff_ne.mpr (by omega)
    clear V2
    generalize verr f n = e1 at *
    go_enter Tryd.func46, Tryd.ntmps46
    go_wp2_with fail
    refine V1.mono ?_
    rintro e w ⟨rfl, rfl⟩
    go_wp2
    go_ret
    exact ⟨rfl, rfl⟩

/-- What a call of two numbers answers where neither is refused: the number R, or the error E. -/
def num2 (k r : Nat) : Nat := if k = 0 then r else 0
def err2 (k e : Nat) : Nat := if k = 0 then e else k
theorem num2_zero (r : Nat) : num2 0 r = r := rfl
theorem err2_zero (e : Nat) : err2 0 e = e := rfl
theorem num2_bad {k : Nat} (h : k ≠ 0) (r : Nat) : num2 k r = 0 := by unfold num2; rw [if_neg h]
theorem err2_bad {k : Nat} (h : k ≠ 0) (e : Nat) : err2 k e = k := by unfold err2; rw [if_neg h]
theorem verr2_both {f g : Nat → Nat} {n m : Nat} (h : verr2 f n g m = 0) : verr f n = 0 ∧ verr g m = 0 := by
  unfold verr2 at h
  by_cases q : verr f n = 0
  · rw [if_pos q] at h; exact ⟨q, h⟩
  · rw [if_neg q] at h; exact absurd h q
theorem verr_nat {f : Nat → Nat} {n : Nat} (h : verr f n = 0) : n ≤ 128 ∧ Top f n := by
  unfold verr at h
  by_cases q : 128 < n
  · rw [if_pos q] at h; omega
  · rw [if_neg q] at h
    refine ⟨by omega, ?_⟩
    by_cases z : n = 0
    · exact Or.inl z
    · right
      intro e
      rw [if_pos ⟨by omega, e⟩] at h
      omega
theorem V_small {f : Nat → Nat} {n : Nat} (hf : Ws f) (hn : n ≤ 128) : V f n < B ^ 128 := Nat.lt_of_lt_of_le (V_lt hf n) (Nat.pow_le_pow_right B_pos hn)
theorem V_fits {f : Nat → Nat} {n : Nat} (hf : Ws f) (hn : n ≤ 128) : Fits 256 (V f n) := Fits.word (n := 128) (V_small hf hn)

set_option maxRecDepth 100000 in
set_option maxHeartbeats 1000000 in
theorem radd_any {w : World} {ao : Option Addr} {n c b o : Nat} {f : Nat → Nat} (S : Sl w ao n c b o f) {bo : Option Addr} {m cb bb ob : Nat} {g : Nat → Nat} (S' : Sl w bo m cb bb ob g) :
    Calls Tryd.prog 11 #[.slice ao n c, .slice bo m cb] w fun e w' => ∃ v, e = .returned (.tuple #[v, .int .i64 (err2 (verr2 f n g m) (wE (V f n + V g m)) : Int)]) ∧ NatV w' v (num2 (verr2 f n g m) (wR (V f n + V g m))) ∧ Below w.heap.size w w' := by
  have T := two_any S S'
  by_cases q : verr2 f n g m = 0
  · obtain ⟨q1, q2⟩ := verr2_both q
    obtain ⟨hn, t⟩ := verr_nat q1
    obtain ⟨hm, t'⟩ := verr_nat q2
    rw [q] at T ⊢
    rw [num2_zero, err2_zero]
    have O1 := rof_any S (by omega)
    have bX := V_fits S.ws hn
    have bY := V_fits S'.ws hm
    have HB : Hid (Fits 256 (V f n) ∧ Fits 256 (V g m)) := ⟨bX, bY⟩
    clear bX bY q q1 q2 t t'
    go_enter Tryd.func11, Tryd.ntmps11
    go_wp2_with fail
    refine T.mono ?_
    rintro e w ⟨rfl, rfl⟩
    go_wp2_with fail
    refine O1.mono ?_
    rintro e w1 ⟨v1, rfl, n1, b1⟩
    have O2 := rof_any (S'.below b1) (by omega)
    go_wp2_with fail
    refine O2.mono ?_
    rintro e w2 ⟨v2, rfl, n2, b2⟩
    have P := plus_any (n1.below b2) n2 (HB.out.1.up (by omega)) (HB.out.2.up (by omega))
    go_wp2_with fail
    refine P.mono ?_
    rintro e w3 ⟨v3, rfl, n3, b3⟩
    have W := words_any n3 ((HB.out.1.sum HB.out.2).up (by omega))
    go_wp2_with fail
    refine W.mono ?_
    rintro e w4 ⟨v4, rfl, n4, b4⟩
    go_wp2
    refine bodyPost_ret (v := .tuple #[v4, .int .i64 (wE (V f n + V g m) : Int)]) (by simp [results, Tryd.results11, go_sem]) rfl ⟨v4, rfl, n4, ?_⟩
    have c2 := b1.trans (b2.mono b1.size)
    have c3 := c2.trans (b3.mono c2.size)
    exact c3.trans (b4.mono c3.size)
  · rw [num2_bad q, err2_bad q]
    have q' : (((verr2 f n g m : Nat) : Int) == 0) = false := beq_eq_false_iff_ne.mpr (by omega)
    generalize verr2 f n g m = k at *
    go_enter Tryd.func11, Tryd.ntmps11
    go_wp2_with fail
    refine T.mono ?_
    rintro e w ⟨rfl, rfl⟩
    go_wp2
    refine bodyPost_ret (v := .tuple #[.slice none 0 0, .int .i64 (k : Int)]) (by simp [results, Tryd.results11, go_sem]) rfl ⟨.slice none 0 0, rfl, natv_nil _, Below.refl _ _⟩

theorem ord_neg {x y : Nat} : ord x y < 0 ↔ x < y := by
  unfold ord
  split
  · simp_all
  · split <;> simp_all

set_option maxRecDepth 100000 in
set_option maxHeartbeats 1000000 in
theorem rsub_any {w : World} {ao : Option Addr} {n c b o : Nat} {f : Nat → Nat} (S : Sl w ao n c b o f) {bo : Option Addr} {m cb bb ob : Nat} {g : Nat → Nat} (S' : Sl w bo m cb bb ob g) :
    Calls Tryd.prog 13 #[.slice ao n c, .slice bo m cb] w fun e w' => ∃ v, e = .returned (.tuple #[v, .int .i64 (err2 (verr2 f n g m) (if V f n < V g m then 21 else 0) : Int)]) ∧ NatV w' v (num2 (verr2 f n g m) (V f n - V g m)) ∧ Below w.heap.size w w' := by
  have T := two_any S S'
  by_cases q : verr2 f n g m = 0
  · obtain ⟨q1, q2⟩ := verr2_both q
    obtain ⟨hn, t⟩ := verr_nat q1
    obtain ⟨hm, t'⟩ := verr_nat q2
    rw [q] at T ⊢
    rw [num2_zero, err2_zero]
    have O1 := rof_any S (by omega)
    have bX := V_fits S.ws hn
    have bS := V_small S.ws hn
    have HB : Hid (Fits 256 (V f n) ∧ V f n < B ^ 128) := ⟨bX, bS⟩
    clear bX bS q q1 q2 t t'
    by_cases lt : V f n < V g m
    · rw [if_pos lt, Nat.sub_eq_zero_of_le (Nat.le_of_lt lt)]
      have ho : ord (V f n) (V g m) = -1 := ord_lt lt
      have HO : Hid (ord (V f n) (V g m) = -1) := ho
      clear lt ho
      go_enter Tryd.func13, Tryd.ntmps13
      go_wp2_with fail
      refine T.mono ?_
      rintro e w ⟨rfl, rfl⟩
      go_wp2_with fail
      refine O1.mono ?_
      rintro e w1 ⟨v1, rfl, n1, b1⟩
      have O2 := rof_any (S'.below b1) (by omega)
      go_wp2_with fail
      refine O2.mono ?_
      rintro e w2 ⟨v2, rfl, n2, b2⟩
      have P := bcmp_nat (n1.below b2) n2
      rw [HO.out] at P
      go_wp2_with fail
      refine P.mono ?_
      rintro e w3 ⟨rfl, b3⟩
      go_wp2
      refine bodyPost_ret (v := .tuple #[.slice none 0 0, .int .i64 21]) (by simp [results, Tryd.results13, go_sem]) rfl ⟨.slice none 0 0, rfl, natv_nil _, ?_⟩
      have c2 := b1.trans (b2.mono b1.size)
      exact c2.trans (b3.mono c2.size)
    · rw [if_neg lt]
      have HL : Hid (V g m ≤ V f n) := Nat.le_of_not_lt lt
      have ho : ¬ ord (V f n) (V g m) < 0 := fun z => lt (ord_neg.1 z)
      generalize hk : ord (V f n) (V g m) = k at *
      have HO : Hid (ord (V f n) (V g m) = k) := hk
      clear lt hk
      go_enter Tryd.func13, Tryd.ntmps13
      go_wp2_with fail
      refine T.mono ?_
      rintro e w ⟨rfl, rfl⟩
      go_wp2_with fail
      refine O1.mono ?_
      rintro e w1 ⟨v1, rfl, n1, b1⟩
      have O2 := rof_any (S'.below b1) (by omega)
      go_wp2_with fail
      refine O2.mono ?_
      rintro e w2 ⟨v2, rfl, n2, b2⟩
      have P := bcmp_nat (n1.below b2) n2
      rw [HO.out] at P
      go_wp2_with fail
      refine P.mono ?_
      rintro e w3 ⟨rfl, b3⟩
      have c2 := b1.trans (b2.mono b1.size)
      have c3 := c2.trans (b3.mono c2.size)
      have O3 := rof_any (S.below c3) (by omega)
      go_wp2_with fail
      refine O3.mono ?_
      rintro e w4 ⟨v4, rfl, n4, b4⟩
      have c4 := c3.trans (b4.mono c3.size)
      have O4 := rof_any (S'.below c4) (by omega)
      go_wp2_with fail
      refine O4.mono ?_
      rintro e w5 ⟨v5, rfl, n5, b5⟩
      have c5 := c4.trans (b5.mono c4.size)
      have M := minus_any (n4.below b5) n5 (HB.out.1.up (by omega)) HL.out
      go_wp2_with fail
      refine M.mono ?_
      rintro e w6 ⟨v6, rfl, n6, b6⟩
      have c6 := c5.trans (b6.mono c5.size)
      have W := words_any n6 ((HB.out.1.le (Nat.sub_le _ _)).up (by omega))
      have lt2 : V f n - V g m < B ^ 128 := Nat.lt_of_le_of_lt (Nat.sub_le _ _) HB.out.2
      unfold wE wR at W
      rw [if_pos lt2, if_pos lt2] at W
      clear lt2
      go_wp2_with fail
      refine W.mono ?_
      rintro e w7 ⟨v7, rfl, n7, b7⟩
      go_wp2
      refine bodyPost_ret (v := .tuple #[v7, .int .i64 0]) (by simp [results, Tryd.results13, go_sem]) rfl ⟨v7, rfl, n7, c6.trans (b7.mono c6.size)⟩
  · rw [num2_bad q, err2_bad q]
    have q' : (((verr2 f n g m : Nat) : Int) == 0) = false := beq_eq_false_iff_ne.mpr (by omega)
    generalize verr2 f n g m = k at *
    go_enter Tryd.func13, Tryd.ntmps13
    go_wp2_with fail
    refine T.mono ?_
    rintro e w ⟨rfl, rfl⟩
    go_wp2
    refine bodyPost_ret (v := .tuple #[.slice none 0 0, .int .i64 (k : Int)]) (by simp [results, Tryd.results13, go_sem]) rfl ⟨.slice none 0 0, rfl, natv_nil _, Below.refl _ _⟩

/-- The order that is told, 0 beside an error. -/
def ord2 (k : Nat) (r : Int) : Int := if k = 0 then r else 0

set_option maxRecDepth 100000 in
set_option maxHeartbeats 1000000 in
theorem rcmp_any {w : World} {ao : Option Addr} {n c b o : Nat} {f : Nat → Nat} (S : Sl w ao n c b o f) {bo : Option Addr} {m cb bb ob : Nat} {g : Nat → Nat} (S' : Sl w bo m cb bb ob g) :
    Calls Tryd.prog 15 #[.slice ao n c, .slice bo m cb] w fun e w' => e = .returned (.tuple #[.int .i64 (ord2 (verr2 f n g m) (ord (V f n) (V g m))), .int .i64 (verr2 f n g m : Int)]) ∧ Below w.heap.size w w' := by
  have T := two_any S S'
  by_cases q : verr2 f n g m = 0
  · obtain ⟨q1, q2⟩ := verr2_both q
    obtain ⟨hn, t⟩ := verr_nat q1
    obtain ⟨hm, t'⟩ := verr_nat q2
    rw [q] at T ⊢
    have O1 := rof_any S (by omega)
    have e0 : ord2 0 (ord (V f n) (V g m)) = ord (V f n) (V g m) := rfl
    rw [e0]
    clear q q1 q2 t t' e0
    go_enter Tryd.func15, Tryd.ntmps15
    go_wp2_with fail
    refine T.mono ?_
    rintro e w ⟨rfl, rfl⟩
    go_wp2_with fail
    refine O1.mono ?_
    rintro e w1 ⟨v1, rfl, n1, b1⟩
    have O2 := rof_any (S'.below b1) (by omega)
    go_wp2_with fail
    refine O2.mono ?_
    rintro e w2 ⟨v2, rfl, n2, b2⟩
    have P := bcmp_nat (n1.below b2) n2
    go_wp2_with fail
    refine P.mono ?_
    rintro e w3 ⟨rfl, b3⟩
    have c2 := b1.trans (b2.mono b1.size)
    go_wp2
    refine bodyPost_ret (v := .tuple #[.int .i64 (ord (V f n) (V g m)), .int .i64 0]) (by simp [results, Tryd.results15, go_sem]) rfl ⟨rfl, c2.trans (b3.mono c2.size)⟩
  · have e0 : ord2 (verr2 f n g m) (ord (V f n) (V g m)) = 0 := by unfold ord2; rw [if_neg q]
    rw [e0]
    have q' : (((verr2 f n g m : Nat) : Int) == 0) = false := beq_eq_false_iff_ne.mpr (by omega)
    clear e0
    generalize verr2 f n g m = k at *
    go_enter Tryd.func15, Tryd.ntmps15
    go_wp2_with fail
    refine T.mono ?_
    rintro e w ⟨rfl, rfl⟩
    go_wp2
    refine bodyPost_ret (v := .tuple #[.int .i64 0, .int .i64 (k : Int)]) (by simp [results, Tryd.results15, go_sem]) rfl ⟨rfl, Below.refl _ _⟩

end Go.Proofs.YtkkgancmodhghaaDoor
