/-
  What nat's and the document's Shl, Shr, Bits, Zeros answer of every row of words and every distance, errors too.
-/
import Derived.Test.YtkkgancmodhghaaDoorNatFl
import Derived.Test.YtkkgancmodhghaaDoorBigU
import Derived.Test.YtkkgancmodhghaaDoorNatU
namespace Go.Proofs.YtkkgancmodhghaaDoor
open Go.RowKit

/-- The error of a number and a distance. -/
def bad (k : Nat) (s : Int) : Nat := if k = 0 then (if s < 0 then 1 else 0) else k
theorem bad_num {k : Nat} {s : Int} (h : k ≠ 0) : bad k s = k := by unfold bad; rw [if_neg h]
theorem bad_neg {s : Int} (h : s < 0) : bad 0 s = 1 := by unfold bad; rw [if_pos rfl, if_pos h]
theorem bad_none {s : Int} (h : ¬ s < 0) : bad 0 s = 0 := by unfold bad; rw [if_pos rfl, if_neg h]

theorem length_eq {f : Nat → Nat} {n : Nat} (hf : Ws f) (t : Top f n) (h0 : 0 < n) : ((n : Int) - 1) * 64 + blen (f (n - 1) : Int) = (bl (V f n) : Int) := by
  obtain ⟨k, rfl⟩ : ∃ k, n = k + 1 := ⟨n - 1, by omega⟩
  have tk : f k ≠ 0 := by
    rcases t with z | z
    · omega
    · simpa using z
  have hw' : f k < 18446744073709551616 := hf k
  obtain ⟨m, e, hm, h1, h2⟩ := blen_bounds (f k : Int) (by omega) (by omega)
  have h1' : 2 ^ m ≤ f k := by exact_mod_cast h1
  have h2' : f k < 2 ^ (m + 1) := by exact_mod_cast h2
  have lo := V_lt hf k
  rw [twoB_pow] at lo
  have ev : V f (k + 1) = V f k + f k * 2 ^ (64 * k) := by rw [V_succ, twoB_pow]
  have hb : bl (V f (k + 1)) = 64 * k + m + 1 := by
    rw [ev]
    refine bl_of ?_ ?_
    · rw [Nat.pow_add, Nat.mul_comm (2 ^ (64 * k))]
      have := Nat.mul_le_mul_right (2 ^ (64 * k)) h1'
      omega
    · rw [Nat.add_assoc, Nat.pow_add, Nat.mul_comm (2 ^ (64 * k))]
      have := Nat.mul_le_mul_right (2 ^ (64 * k)) (Nat.succ_le_of_lt h2')
      rw [Nat.succ_mul] at this
      omega
  rw [show k + 1 - 1 = k by omega, e, hb]
  omega

theorem length_full {w : World} {ao : Option Addr} {n c b o : Nat} {f : Nat → Nat} (S : Sl w ao n c b o f) (t : Top f n) (hn : n ≤ 1000) :
    Calls Tryd.prog 62 #[.slice ao n c] w fun e w' => e = .returned (.int .i64 (bl (V f n) : Int)) ∧ Below w.heap.size w w' := by
  by_cases h0 : n = 0
  · subst h0
    have e : bl (V f 0) = 0 := rfl
    rw [e]
    clear e
    go_enter Tryd.func62, Tryd.ntmps62
    go_wp2
    go_ret
    exact ⟨rfl, Below.refl _ _⟩
  · rw [← length_eq S.ws t (by omega)]
    exact length_any S (by omega) hn

set_option maxHeartbeats 1000000 in
theorem bitsN_any {w : World} {ao : Option Addr} {n c b o : Nat} {f : Nat → Nat} (S : Sl w ao n c b o f) :
    Calls Tryd.prog 35 #[.slice ao n c] w fun e w' => e = .returned (.tuple #[.int .i64 (num2 (verr f n) (bl (V f n)) : Int), errV (verr f n)]) ∧ Below w.heap.size w w' := by
  have h1 := valid_any S
  by_cases q : verr f n = 0
  · obtain ⟨hn, t⟩ := verr_nat q
    rw [q] at h1 ⊢
    rw [num2_zero]
    unfold errV at h1 ⊢
    have HS : Hid (Sl w ao n c b o f ∧ Top f n) := ⟨S, t⟩
    clear S t q
    go_enter Tryd.func35, Tryd.ntmps35
    go_wp2_with fail
    refine h1.mono ?_
    rintro e wa ⟨rfl, hba⟩
    have T := length_full (HS.out.1.below hba) HS.out.2 (by omega)
    go_wp2_with fail
    refine T.mono ?_
    rintro e wb ⟨rfl, hbb⟩
    go_wp2
    refine bodyPost_ret (v := .tuple #[.int .i64 (bl (V f n) : Int), .nilIface]) (by simp [results, Tryd.results35, go_sem]) rfl ⟨rfl, hba.trans (hbb.mono hba.size)⟩
  · rw [num2_bad q]
    rw [errV_succ q] at h1 ⊢
    generalize verr f n = k at *
    go_enter Tryd.func35, Tryd.ntmps35
    go_wp2_with fail
    refine h1.mono ?_
    rintro e wa ⟨rfl, hba⟩
    go_wp2
    refine bodyPost_ret (v := .tuple #[.int .i64 0, .iface 82 (.int .i64 (k : Int))]) (by simp [results, Tryd.results35, go_sem]) rfl ⟨rfl, hba⟩

set_option maxHeartbeats 1000000 in
theorem rbits_any {w : World} {ao : Option Addr} {n c b o : Nat} {f : Nat → Nat} (S : Sl w ao n c b o f) :
    Calls Tryd.prog 36 #[.slice ao n c] w fun e w' => e = .returned (.tuple #[.int .i64 (num2 (verr f n) (bl (V f n)) : Int), .int .i64 (verr f n : Int)]) ∧ Below w.heap.size w w' := by
  have T := rvalid_any S
  by_cases q : verr f n = 0
  · obtain ⟨hn, t⟩ := verr_nat q
    rw [q] at T ⊢
    rw [num2_zero]
    have O1 := rof_any S (by omega)
    have HF : Hid (Fits 256 (V f n)) := V_fits S.ws hn
    clear q S t
    go_enter Tryd.func36, Tryd.ntmps36
    go_wp2_with fail
    refine T.mono ?_
    rintro e w ⟨rfl, rfl⟩
    go_wp2_with fail
    refine O1.mono ?_
    rintro e w1 ⟨v1, rfl, n1, b1⟩
    have L := length_nat n1 (HF.out.up (by omega))
    go_wp2_with fail
    refine L.mono ?_
    rintro e w1 ⟨rfl, rfl⟩
    go_wp2
    refine bodyPost_ret (v := .tuple #[.int .i64 (bl (V f n) : Int), .int .i64 0]) (by simp [results, Tryd.results36, go_sem]) rfl ⟨rfl, b1⟩
  · rw [num2_bad q]
    have q' : (((verr f n : Nat) : Int) == 0) = false := beq_eq_false_iff_ne.mpr (by omega)
    generalize verr f n = k at *
    go_enter Tryd.func36, Tryd.ntmps36
    go_wp2_with fail
    refine T.mono ?_
    rintro e w ⟨rfl, rfl⟩
    go_wp2
    refine bodyPost_ret (v := .tuple #[.int .i64 0, .int .i64 (k : Int)]) (by simp [results, Tryd.results36, go_sem]) rfl ⟨rfl, Below.refl _ _⟩

/-- So many noughts at the end. -/
def Zs (X z : Nat) : Prop := (X = 0 ∧ z = 0) ∨ ∃ j, X = 2 ^ z * (2 * j + 1)
def Zz (k X z : Nat) : Prop := (k = 0 ∧ Zs X z) ∨ (k ≠ 0 ∧ z = 0)
theorem Zs_uniq {X z y : Nat} (h : Zs X z) (g : Zs X y) : z = y := by
  have pos : ∀ a b : Nat, 0 < 2 ^ a * (2 * b + 1) := fun a b => Nat.mul_pos (Nat.pow_pos (by omega)) (by omega)
  rcases h with ⟨h1, h2⟩ | ⟨i, hi⟩ <;> rcases g with ⟨g1, g2⟩ | ⟨j, hj⟩
  · omega
  · have := pos y j; omega
  · have := pos z i; omega
  · rcases Nat.lt_trichotomy z y with q | q | q
    · have a := (odd_mod (s := y) hi).1 q
      rw [hj, Nat.mul_mod_right] at a
      exact absurd rfl a
    · exact q
    · have a := (odd_mod (s := z) hj).1 q
      rw [hi, Nat.mul_mod_right] at a
      exact absurd rfl a
theorem Zz_uniq {k X z y : Nat} (h : Zz k X z) (g : Zz k X y) : z = y := by
  rcases h with ⟨a, b⟩ | ⟨a, b⟩ <;> rcases g with ⟨c, d⟩ | ⟨c, d⟩
  · exact Zs_uniq b d
  · exact absurd a c
  · exact absurd c a
  · omega

theorem zeros_none {w : World} {ao : Option Addr} {c : Nat} :
    Calls Tryd.prog 69 #[.slice ao 0 c] w fun e w' => e = .returned (.int .i64 0) ∧ w' = w := by
  go_enter Tryd.func69, Tryd.ntmps69
  go_wp2
  go_loop [7] (fun i => i = .int .i64 0) (fun _ => 0)
  case atStart => exact rfl
  case round =>
    subst hrel
    go_wp2
    go_ret
    exact ⟨rfl, rfl⟩

set_option maxHeartbeats 1000000 in
theorem zerosN_any {w : World} (hT : Tab w) {ao : Option Addr} {n c b o : Nat} {f : Nat → Nat} (S : Sl w ao n c b o f) :
    Calls Tryd.prog 37 #[.slice ao n c] w fun e w' => ∃ z : Nat, e = .returned (.tuple #[.int .i64 (z : Int), errV (verr f n)]) ∧ Zz (verr f n) (V f n) z ∧ Below w.heap.size w w' := by
  have h1 := valid_any S
  by_cases q : verr f n = 0
  · obtain ⟨hn, t⟩ := verr_nat q
    rw [q] at h1 ⊢
    unfold errV at h1 ⊢
    have HS : Hid (Sl w ao n c b o f ∧ Top f n) := ⟨S, t⟩
    clear S t q
    by_cases h0 : n = 0
    · subst h0
      go_enter Tryd.func37, Tryd.ntmps37
      go_wp2_with fail
      refine h1.mono ?_
      rintro e wa ⟨rfl, hba⟩
      go_wp2_with fail
      refine zeros_none.mono ?_
      rintro e wa ⟨rfl, rfl⟩
      go_wp2
      refine bodyPost_ret (v := .tuple #[.int .i64 0, .nilIface]) (by simp [results, Tryd.results37, go_sem]) rfl ⟨0, rfl, Or.inl ⟨rfl, Or.inl ⟨rfl, rfl⟩⟩, hba⟩
    · have hv0 : V f n ≠ 0 := by
        have q := Top_ge HS.out.2 (by omega)
        have := Bp_pos (n - 1)
        omega
      have HV : Hid (V f n ≠ 0) := hv0
      clear hv0
      go_enter Tryd.func37, Tryd.ntmps37
      go_wp2_with fail
      refine h1.mono ?_
      rintro e wa ⟨rfl, hba⟩
      have T := zeros_any (hT.next hba) (HS.out.1.below hba) (by omega) HV.out
      go_wp2_with fail
      refine T.mono ?_
      rintro e wa ⟨z, j, rfl, hz, _, rfl⟩
      have HZ : Hid (V f n = 2 ^ z * (2 * j + 1)) := hz
      clear hz
      go_wp2
      refine bodyPost_ret (v := .tuple #[.int .i64 (z : Int), .nilIface]) (by simp [results, Tryd.results37, go_sem]) rfl ⟨z, rfl, Or.inl ⟨rfl, Or.inr ⟨j, HZ.out⟩⟩, hba⟩
  · rw [errV_succ q] at h1 ⊢
    have HK : Hid (verr f n ≠ 0) := q
    generalize verr f n = k at *
    go_enter Tryd.func37, Tryd.ntmps37
    go_wp2_with fail
    refine h1.mono ?_
    rintro e wa ⟨rfl, hba⟩
    go_wp2
    refine bodyPost_ret (v := .tuple #[.int .i64 0, .iface 82 (.int .i64 (k : Int))]) (by simp [results, Tryd.results37, go_sem]) rfl ⟨0, rfl, Or.inr ⟨HK.out, rfl⟩, hba⟩

set_option maxRecDepth 100000 in
set_option maxHeartbeats 1000000 in
theorem rzeros_any {w : World} {ao : Option Addr} {n c b o : Nat} {f : Nat → Nat} (S : Sl w ao n c b o f) :
    Calls Tryd.prog 38 #[.slice ao n c] w fun e w' => ∃ z : Nat, e = .returned (.tuple #[.int .i64 (z : Int), .int .i64 (verr f n : Int)]) ∧ Zz (verr f n) (V f n) z ∧ Below w.heap.size w w' := by
  have T := rvalid_any S
  by_cases q : verr f n = 0
  · obtain ⟨hn, t⟩ := verr_nat q
    rw [q] at T ⊢
    by_cases h0 : n = 0
    · subst h0
      clear S t q
      go_enter Tryd.func38, Tryd.ntmps38
      go_wp2_with fail
      refine T.mono ?_
      rintro e w ⟨rfl, rfl⟩
      go_wp2
      go_loop [5] (fun i => i = .int .i64 0) (fun _ => 0)
      case atStart => exact rfl
      case round =>
        subst hrel
        go_wp2
        refine bodyPost_ret (v := .tuple #[.int .i64 0, .int .i64 0]) (by simp [results, Tryd.results38, go_sem]) rfl ⟨0, rfl, Or.inl ⟨rfl, Or.inl ⟨rfl, rfl⟩⟩, Below.refl _ _⟩
    · have hv0 : V f n ≠ 0 := by
        have q := Top_ge t (by omega)
        have := Bp_pos (n - 1)
        omega
      obtain ⟨M, hM, hBM⟩ : ∃ M, M = 8192 ∧ B ^ 128 = 2 ^ M := ⟨64 * 128, rfl, twoB_pow 128⟩
      have HM : Hid (M = 8192) := hM
      have HV : Hid (V f n ≠ 0 ∧ V f n < 2 ^ M) := ⟨hv0, by rw [← hBM]; exact V_small S.ws hn⟩
      clear hM hBM
      have HF : Hid (Fits 256 (V f n)) := V_fits S.ws hn
      have HS : Hid (Sl w ao n c b o f) := S
      have hn0 : (0 : Int) < (n : Int) := by omega
      clear S t q hv0
      go_enter Tryd.func38, Tryd.ntmps38
      go_wp2_with fail
      refine T.mono ?_
      rintro e w ⟨rfl, rfl⟩
      clear T
      go_wp2
      go_loopw [5] (fun i wr => ∃ k : Nat, i = .int .i64 (k : Int) ∧ k ≤ 8192 ∧ Below w.heap.size w wr ∧ Hid (V f n % 2 ^ k = 0)) (fun i _ => 8192 - (intOf i).toNat)
      case atStart => exact ⟨0, rfl, by omega, Below.refl _ _, by show V f n % 2 ^ 0 = 0; rw [Nat.pow_zero, Nat.mod_one]⟩
      case round =>
        obtain ⟨k, rfl, hk, hbl, HK⟩ := hrel
        have O1 := rof_any (HS.out.below hbl) (by omega)
        go_wp2_with fail
        refine O1.mono ?_
        rintro e w1 ⟨v1, rfl, n1, b1⟩
        have b2 : Below w.heap.size w w1 := hbl.trans (b1.mono hbl.size)
        have TB := bit_any n1 (HF.out.up (by omega)) k (by omega)
        clear O1 b1 hbl
        by_cases c3 : V f n / 2 ^ k % 2 = 1
        · rw [tb_one c3] at TB
          have HR : Hid (∃ j, V f n = 2 ^ k * (2 * j + 1)) := by
            refine ⟨V f n / 2 ^ k / 2, ?_⟩
            have a := Nat.div_add_mod (V f n) (2 ^ k)
            rw [HK.out, Nat.add_zero] at a
            have b := Nat.div_add_mod (V f n / 2 ^ k) 2
            rw [c3] at b
            rw [b]
            exact a.symm
          clear c3
          go_wp2_with fail
          refine TB.mono ?_
          rintro e w1 ⟨rfl, rfl⟩
          go_wp2
          refine bodyPost_ret (v := .tuple #[.int .i64 (k : Int), .int .i64 0]) (by simp [results, Tryd.results38, go_sem]) rfl ⟨k, rfl, Or.inl ⟨rfl, Or.inr HR.out⟩, b2⟩
        · rw [tb_none c3] at TB
          have hlt : k < 8192 := by
            rcases Nat.lt_or_ge k 8192 with z | z
            · exact z
            · exfalso
              have e : k = M := by have := HM.out; omega
              have a := HK.out
              rw [e, Nat.mod_eq_of_lt HV.out.2] at a
              exact HV.out.1 a
          have HR : Hid (V f n % 2 ^ (k + 1) = 0) := by
            show _ = _
            rw [low_step HK.out, show V f n / 2 ^ k % 2 = 0 by omega, Nat.mul_zero]
          clear c3
          go_wp2_with fail
          refine TB.mono ?_
          rintro e w1 ⟨rfl, rfl⟩
          go_wp2
          go_roundw
          case rel => exact ⟨k + 1, by go_num, by omega, b2, HR⟩
          case measure => simp [intOf]; omega
  · have q' : (((verr f n : Nat) : Int) == 0) = false := beq_eq_false_iff_ne.mpr (by omega)
    have HK : Hid (verr f n ≠ 0) := q
    generalize verr f n = k at *
    go_enter Tryd.func38, Tryd.ntmps38
    go_wp2_with fail
    refine T.mono ?_
    rintro e w ⟨rfl, rfl⟩
    go_wp2
    refine bodyPost_ret (v := .tuple #[.int .i64 0, .int .i64 (k : Int)]) (by simp [results, Tryd.results38, go_sem]) rfl ⟨0, rfl, Or.inr ⟨HK.out, rfl⟩, Below.refl _ _⟩

/-- Numbers below and not below B^128, by their length. -/
theorem shl_fits {X s : Nat} (h : ¬ X * 2 ^ s < B ^ 128) : 8192 < bl X + s := by
  obtain ⟨M, hM, hBM⟩ : ∃ M, M = 8192 ∧ B ^ 128 = 2 ^ M := ⟨64 * 128, rfl, twoB_pow 128⟩
  rcases Nat.lt_or_ge 8192 (bl X + s) with z | z
  · exact z
  · exfalso
    apply h
    rw [hBM]
    have a : X * 2 ^ s < 2 ^ bl X * 2 ^ s := Nat.mul_lt_mul_of_pos_right (bl_lt X) (Nat.pow_pos (by omega))
    rw [← Nat.pow_add] at a
    exact Nat.lt_of_lt_of_le a (Nat.pow_le_pow_right (by omega) (by omega))
theorem shl_far {X s : Nat} (hX : X ≠ 0) (h : 8192 ≤ s) : ¬ X * 2 ^ s < B ^ 128 := by
  obtain ⟨M, hM, hBM⟩ : ∃ M, M = 8192 ∧ B ^ 128 = 2 ^ M := ⟨64 * 128, rfl, twoB_pow 128⟩
  have a : 1 * 2 ^ s ≤ X * 2 ^ s := Nat.mul_le_mul_right _ (by omega)
  have b : 2 ^ M ≤ 2 ^ s := Nat.pow_le_pow_right (by omega) (by omega)
  rw [hBM]
  omega
theorem shl_bits {X s : Nat} (hX : X ≠ 0) (h : X * 2 ^ s < B ^ 128) : s ≤ 8192 := by
  rcases Nat.lt_or_ge 8192 s with z | z
  · exact absurd h (shl_far hX (by omega))
  · exact z
theorem two_fits {s k : Nat} (h : s < 32 * k) : Fits k (2 ^ s) := by
  refine ⟨k, Nat.le_refl _, ?_⟩
  rw [D_pow]
  exact Nat.pow_lt_pow_right (by omega) h

set_option maxRecDepth 100000 in
set_option maxHeartbeats 1000000 in
theorem shlN_any {w : World} {ao : Option Addr} {n c b o : Nat} {f : Nat → Nat} (S : Sl w ao n c b o f) (s : Int) (hs : s < 9223372036854775808) :
    Calls Tryd.prog 31 #[.slice ao n c, .int .i64 s] w fun e w' => ∃ v, e = .returned (.tuple #[v, errV (err2 (bad (verr f n) s) (wE (V f n * 2 ^ s.toNat)))]) ∧ NatV w' v (num2 (bad (verr f n) s) (wR (V f n * 2 ^ s.toNat))) ∧ Below w.heap.size w w' := by
  have h1 := valid_any S
  by_cases q : verr f n = 0
  · obtain ⟨hn, t⟩ := verr_nat q
    rw [q] at h1 ⊢
    by_cases g : s < 0
    · rw [bad_neg g, num2_bad (by omega), err2_bad (by omega)]
      unfold errV at h1 ⊢
      clear S t q
      go_enter Tryd.func31, Tryd.ntmps31
      go_wp2_with fail
      refine h1.mono ?_
      rintro e wa ⟨rfl, hba⟩
      go_wp2
      refine bodyPost_ret (v := .tuple #[.slice none 0 0, .iface 82 (.int .i64 1)]) (by simp [results, Tryd.results31, go_sem]) rfl ⟨_, rfl, natv_nil _, hba⟩
    · rw [bad_none g, num2_zero, err2_zero]
      obtain ⟨k, rfl⟩ := Int.eq_ofNat_of_zero_le (Int.not_lt.1 g)
      rw [Int.toNat_natCast]
      have hk0 : (0 : Int) ≤ (k : Int) := by omega
      have hk1 : k < 9223372036854775808 := by omega
      clear g hs
      by_cases h0 : n = 0
      · subst h0
        rw [show V f 0 * 2 ^ k = 0 by rw [V_zero, Nat.zero_mul]]
        have hw0 : (0 : Nat) < B ^ 128 := Bp_pos 128
        unfold wE wR
        rw [if_pos hw0]
        unfold errV at h1 ⊢
        clear S t q hw0
        go_enter Tryd.func31, Tryd.ntmps31
        go_wp2_with fail
        refine h1.mono ?_
        rintro e wa ⟨rfl, hba⟩
        go_wp2
        refine bodyPost_ret (v := .tuple #[.slice none 0 0, .nilIface]) (by simp [results, Tryd.results31, go_sem]) rfl ⟨_, rfl, natv_nil _, hba⟩
      · have hv0 : V f n ≠ 0 := by
          have q := Top_ge t (by omega)
          have := Bp_pos (n - 1)
          omega
        unfold wE wR
        by_cases lt : V f n * 2 ^ k < B ^ 128
        · rw [if_pos lt, if_pos lt]
          have nv : NatV w (.slice ao n c) (V f n) := ⟨_, _, _, _, _, _, rfl, S, t, rfl, hn⟩
          exact shl_ok nv k lt (shl_bits hv0 lt)
        · rw [if_neg lt, if_neg lt]
          have hb := shl_fits lt
          have cL : (8192 : Int) - (bl (V f n) : Int) < (k : Int) := by omega
          have hbl : bl (V f n) ≤ 8192 := by
            refine bl_mono_le ?_
            obtain ⟨M, hM, hBM⟩ : ∃ M, M = 8192 ∧ B ^ 128 = 2 ^ M := ⟨64 * 128, rfl, twoB_pow 128⟩
            rw [← hM, ← hBM]
            exact V_small S.ws hn
          have e1 : ((n : Int) == 0) = false := beq_eq_false_iff_ne.mpr (by omega)
          have HS : Hid (Sl w ao n c b o f ∧ Top f n) := ⟨S, t⟩
          unfold errV at h1 ⊢
          clear S t q lt hb hv0
          go_enter Tryd.func31, Tryd.ntmps31
          go_wp2_with fail
          refine h1.mono ?_
          rintro e wa ⟨rfl, hba⟩
          have LN := length_full (HS.out.1.below hba) HS.out.2 (by omega)
          generalize bl (V f n) = L at *
          go_wp2_with fail
          refine LN.mono ?_
          rintro e wb ⟨rfl, hbb⟩
          go_wp2
          refine bodyPost_ret (v := .tuple #[.slice none 0 0, .iface 82 (.int .i64 20)]) (by simp [results, Tryd.results31, go_sem]) rfl ⟨_, rfl, natv_nil _, hba.trans (hbb.mono hba.size)⟩
  · rw [bad_num q, num2_bad q, err2_bad q]
    rw [errV_succ q] at h1 ⊢
    generalize verr f n = k at *
    go_enter Tryd.func31, Tryd.ntmps31
    go_wp2_with fail
    refine h1.mono ?_
    rintro e wa ⟨rfl, hba⟩
    go_wp2
    refine bodyPost_ret (v := .tuple #[.slice none 0 0, .iface 82 (.int .i64 (k : Int))]) (by simp [results, Tryd.results31, go_sem]) rfl ⟨_, rfl, natv_nil _, hba⟩

set_option maxRecDepth 100000 in
set_option maxHeartbeats 1000000 in
theorem rshl_any {w : World} {ao : Option Addr} {n c b o : Nat} {f : Nat → Nat} (S : Sl w ao n c b o f) (s : Int) (hs : s < 9223372036854775808) :
    Calls Tryd.prog 32 #[.slice ao n c, .int .i64 s] w fun e w' => ∃ v, e = .returned (.tuple #[v, .int .i64 (err2 (bad (verr f n) s) (wE (V f n * 2 ^ s.toNat)) : Int)]) ∧ NatV w' v (num2 (bad (verr f n) s) (wR (V f n * 2 ^ s.toNat))) ∧ Below w.heap.size w w' := by
  have h1 := rvalid_any S
  by_cases q : verr f n = 0
  · obtain ⟨hn, t⟩ := verr_nat q
    rw [q] at h1 ⊢
    by_cases g : s < 0
    · rw [bad_neg g, num2_bad (by omega), err2_bad (by omega)]
      clear S t q
      go_enter Tryd.func32, Tryd.ntmps32
      go_wp2_with fail
      refine h1.mono ?_
      rintro e w ⟨rfl, rfl⟩
      go_wp2
      refine bodyPost_ret (v := .tuple #[.slice none 0 0, .int .i64 1]) (by simp [results, Tryd.results32, go_sem]) rfl ⟨_, rfl, natv_nil _, Below.refl _ _⟩
    · rw [bad_none g, num2_zero, err2_zero]
      obtain ⟨k, rfl⟩ := Int.eq_ofNat_of_zero_le (Int.not_lt.1 g)
      rw [Int.toNat_natCast]
      have hk0 : (0 : Int) ≤ (k : Int) := by omega
      have hk1 : k < 9223372036854775808 := by omega
      clear g hs
      by_cases h0 : n = 0
      · subst h0
        rw [show V f 0 * 2 ^ k = 0 by rw [V_zero, Nat.zero_mul]]
        have hw0 : (0 : Nat) < B ^ 128 := Bp_pos 128
        unfold wE wR
        rw [if_pos hw0]
        clear S t q hw0
        go_enter Tryd.func32, Tryd.ntmps32
        go_wp2_with fail
        refine h1.mono ?_
        rintro e w ⟨rfl, rfl⟩
        go_wp2
        refine bodyPost_ret (v := .tuple #[.slice none 0 0, .int .i64 0]) (by simp [results, Tryd.results32, go_sem]) rfl ⟨_, rfl, natv_nil _, Below.refl _ _⟩
      · have hv0 : V f n ≠ 0 := by
          have q := Top_ge t (by omega)
          have := Bp_pos (n - 1)
          omega
        have e1 : ((n : Int) == 0) = false := beq_eq_false_iff_ne.mpr (by omega)
        by_cases far : 8192 < k
        · have nl := shl_far hv0 (by omega : 8192 ≤ k)
          unfold wE wR
          rw [if_neg nl, if_neg nl]
          have far' : (8192 : Int) < (k : Int) := by omega
          clear S t q nl hv0
          go_enter Tryd.func32, Tryd.ntmps32
          go_wp2_with fail
          refine h1.mono ?_
          rintro e w ⟨rfl, rfl⟩
          go_wp2
          refine bodyPost_ret (v := .tuple #[.slice none 0 0, .int .i64 20]) (by simp [results, Tryd.results32, go_sem]) rfl ⟨_, rfl, natv_nil _, Below.refl _ _⟩
        · have far' : ¬ (8192 : Int) < (k : Int) := by omega
          have O1 := rof_any S (by omega)
          have HF : Hid (Fits 256 (V f n) ∧ Fits 1000 (V f n * 2 ^ k)) := ⟨V_fits S.ws hn, ((V_fits S.ws hn).mul (two_fits (k := 257) (by omega))).up (by omega)⟩
          clear S t q hv0
          go_enter Tryd.func32, Tryd.ntmps32
          go_wp2_with fail
          refine h1.mono ?_
          rintro e w ⟨rfl, rfl⟩
          go_wp2_with fail
          refine O1.mono ?_
          rintro e w1 ⟨v1, rfl, n1, b1⟩
          have U := up_any n1 (HF.out.1.up (by omega)) k (by omega)
          go_wp2_with fail
          refine U.mono ?_
          rintro e w2 ⟨v2, rfl, n2, b2⟩
          have W := words_any n2 HF.out.2
          go_wp2_with fail
          refine W.mono ?_
          rintro e w3 ⟨v3, rfl, n3, b3⟩
          have c2 := b1.trans (b2.mono b1.size)
          go_wp2
          refine bodyPost_ret (v := .tuple #[v3, .int .i64 (wE (V f n * 2 ^ k) : Int)]) (by simp [results, Tryd.results32, go_sem]) rfl ⟨_, rfl, n3, c2.trans (b3.mono c2.size)⟩
  · rw [bad_num q, num2_bad q, err2_bad q]
    have q' : (((verr f n : Nat) : Int) == 0) = false := beq_eq_false_iff_ne.mpr (by omega)
    generalize verr f n = k at *
    go_enter Tryd.func32, Tryd.ntmps32
    go_wp2_with fail
    refine h1.mono ?_
    rintro e w ⟨rfl, rfl⟩
    go_wp2
    refine bodyPost_ret (v := .tuple #[.slice none 0 0, .int .i64 (k : Int)]) (by simp [results, Tryd.results32, go_sem]) rfl ⟨_, rfl, natv_nil _, Below.refl _ _⟩

/-- Whether something was cut off, beside no error. -/
def cutQ (k X : Nat) (s : Int) : Bool := decide (k = 0 ∧ X % 2 ^ s.toNat ≠ 0)
theorem cutQ_bad {k X : Nat} {s : Int} (h : k ≠ 0) : cutQ k X s = false := decide_eq_false fun z => h z.1
theorem cutQ_ok {X k : Nat} : cutQ 0 X (k : Int) = decide (X % 2 ^ k ≠ 0) := by
  unfold cutQ
  rw [Int.toNat_natCast]
  simp

set_option maxRecDepth 100000 in
set_option maxHeartbeats 1000000 in
theorem shrN_any {w : World} (hT : Tab w) {ao : Option Addr} {n c b o : Nat} {f : Nat → Nat} (S : Sl w ao n c b o f) (s : Int) (hs : s < 9223372036854775808) :
    Calls Tryd.prog 33 #[.slice ao n c, .int .i64 s] w fun e w' => ∃ v, e = .returned (.tuple #[v, .bool (cutQ (bad (verr f n) s) (V f n) s), errV (bad (verr f n) s)]) ∧ NatV w' v (num2 (bad (verr f n) s) (V f n / 2 ^ s.toNat)) ∧ Below w.heap.size w w' := by
  have h1 := valid_any S
  by_cases q : verr f n = 0
  · obtain ⟨hn, t⟩ := verr_nat q
    rw [q] at h1 ⊢
    by_cases g : s < 0
    · rw [bad_neg g, num2_bad (by omega), cutQ_bad (by omega)]
      unfold errV at h1 ⊢
      clear S t q
      go_enter Tryd.func33, Tryd.ntmps33
      go_wp2_with fail
      refine h1.mono ?_
      rintro e wa ⟨rfl, hba⟩
      go_wp2
      refine bodyPost_ret (v := .tuple #[.slice none 0 0, .bool false, .iface 82 (.int .i64 1)]) (by simp [results, Tryd.results33, go_sem]) rfl ⟨_, rfl, natv_nil _, hba⟩
    · rw [bad_none g, num2_zero]
      obtain ⟨k, rfl⟩ := Int.eq_ofNat_of_zero_le (Int.not_lt.1 g)
      rw [Int.toNat_natCast, cutQ_ok]
      have hk0 : (0 : Int) ≤ (k : Int) := by omega
      have hk1 : k < 9223372036854775808 := by omega
      clear g hs
      have nv : NatV w (.slice ao n c) (V f n) := ⟨_, _, _, _, _, _, rfl, S, t, rfl, hn⟩
      exact shr_ok hT nv k hk1
  · rw [bad_num q, num2_bad q, cutQ_bad q]
    rw [errV_succ q] at h1 ⊢
    generalize verr f n = k at *
    go_enter Tryd.func33, Tryd.ntmps33
    go_wp2_with fail
    refine h1.mono ?_
    rintro e wa ⟨rfl, hba⟩
    go_wp2
    refine bodyPost_ret (v := .tuple #[.slice none 0 0, .bool false, .iface 82 (.int .i64 (k : Int))]) (by simp [results, Tryd.results33, go_sem]) rfl ⟨_, rfl, natv_nil _, hba⟩

set_option maxRecDepth 100000 in
set_option maxHeartbeats 1000000 in
theorem rshr_any {w : World} {ao : Option Addr} {n c b o : Nat} {f : Nat → Nat} (S : Sl w ao n c b o f) (s : Int) (hs : s < 9223372036854775808) :
    Calls Tryd.prog 34 #[.slice ao n c, .int .i64 s] w fun e w' => ∃ v, e = .returned (.tuple #[v, .bool (cutQ (bad (verr f n) s) (V f n) s), .int .i64 (bad (verr f n) s : Int)]) ∧ NatV w' v (num2 (bad (verr f n) s) (V f n / 2 ^ s.toNat)) ∧ Below w.heap.size w w' := by
  have h1 := rvalid_any S
  by_cases q : verr f n = 0
  · obtain ⟨hn, t⟩ := verr_nat q
    rw [q] at h1 ⊢
    by_cases g : s < 0
    · rw [bad_neg g, num2_bad (by omega), cutQ_bad (by omega)]
      clear S t q
      go_enter Tryd.func34, Tryd.ntmps34
      go_wp2_with fail
      refine h1.mono ?_
      rintro e w ⟨rfl, rfl⟩
      go_wp2
      refine bodyPost_ret (v := .tuple #[.slice none 0 0, .bool false, .int .i64 1]) (by simp [results, Tryd.results34, go_sem]) rfl ⟨_, rfl, natv_nil _, Below.refl _ _⟩
    · rw [bad_none g, num2_zero]
      obtain ⟨k, rfl⟩ := Int.eq_ofNat_of_zero_le (Int.not_lt.1 g)
      rw [Int.toNat_natCast, cutQ_ok]
      have hk0 : (0 : Int) ≤ (k : Int) := by omega
      have hk1 : k < 9223372036854775808 := by omega
      clear g hs
      have O1 := rof_any S (by omega)
      have lt2 : V f n / 2 ^ k < B ^ 128 := Nat.lt_of_le_of_lt (Nat.div_le_self _ _) (V_small S.ws hn)
      have HF : Hid (Fits 256 (V f n) ∧ Fits 256 (V f n / 2 ^ k)) := ⟨V_fits S.ws hn, (V_fits S.ws hn).le (Nat.div_le_self _ _)⟩
      have HW : Hid (wE (V f n / 2 ^ k) = 0 ∧ wR (V f n / 2 ^ k) = V f n / 2 ^ k) := ⟨by unfold wE; rw [if_pos lt2], by unfold wR; rw [if_pos lt2]⟩
      have HS : Hid (Sl w ao n c b o f) := S
      have e0 : decide (V f n % 2 ^ k ≠ 0) = lowB (V f n) k := rfl
      rw [e0]
      clear S t q lt2 e0
      go_enter Tryd.func34, Tryd.ntmps34
      go_wp2_with fail
      refine h1.mono ?_
      rintro e w ⟨rfl, rfl⟩
      go_wp2_with fail
      refine O1.mono ?_
      rintro e w1 ⟨v1, rfl, n1, b1⟩
      have U := down_any n1 (HF.out.1.up (by omega)) k
      go_wp2_with fail
      refine U.mono ?_
      rintro e w2 ⟨v2, rfl, n2, b2⟩
      have W := words_any n2 (HF.out.2.up (by omega))
      rw [HW.out.1, HW.out.2] at W
      go_wp2_with fail
      refine W.mono ?_
      rintro e w3 ⟨v3, rfl, n3, b3⟩
      have c2 := b1.trans (b2.mono b1.size)
      have c3 := c2.trans (b3.mono c2.size)
      have O2 := rof_any (HS.out.below c3) (by omega)
      go_wp2_with fail
      refine O2.mono ?_
      rintro e w4 ⟨v4, rfl, n4, b4⟩
      have L := low_any n4 (HF.out.1.up (by omega)) k hk1
      go_wp2_with fail
      refine L.mono ?_
      rintro e w4 ⟨rfl, rfl⟩
      go_wp2
      refine bodyPost_ret (v := .tuple #[v3, .bool (lowB (V f n) k), .int .i64 0]) (by simp [results, Tryd.results34, go_sem]) rfl ⟨_, rfl, n3.below b4, c3.trans (b4.mono c3.size)⟩
  · rw [bad_num q, num2_bad q, cutQ_bad q]
    have q' : (((verr f n : Nat) : Int) == 0) = false := beq_eq_false_iff_ne.mpr (by omega)
    generalize verr f n = k at *
    go_enter Tryd.func34, Tryd.ntmps34
    go_wp2_with fail
    refine h1.mono ?_
    rintro e w ⟨rfl, rfl⟩
    go_wp2
    refine bodyPost_ret (v := .tuple #[.slice none 0 0, .bool false, .int .i64 (k : Int)]) (by simp [results, Tryd.results34, go_sem]) rfl ⟨_, rfl, natv_nil _, Below.refl _ _⟩

end Go.Proofs.YtkkgancmodhghaaDoor
