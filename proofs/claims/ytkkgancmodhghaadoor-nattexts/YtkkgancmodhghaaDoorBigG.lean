/-
  What the document's Read answers of every text and base.
-/
import Derived.Test.YtkkgancmodhghaaDoorBigE
import Derived.Deep.RegionHeld3
namespace Go.Proofs.YtkkgancmodhghaaDoor
open Go.RowKit

theorem D_B2 : Big.B ^ 256 = B ^ 128 := (BB_pow 128).symm
theorem sv_succ (b : Nat) (g : Nat → Nat) (k : Nat) : sv b g (k + 1) = sv b g k * b + g k := rfl

set_option maxRecDepth 100000 in
set_option maxHeartbeats 2000000 in
theorem rread_ok {w : World} (s : ByteArray) (hs : s.size ≤ 9223372036854775807) (b : Nat) (h1 : 2 ≤ b) (h2 : b ≤ 36) (hd : IsDig s b) :
    Calls Tryd.prog 42 #[.string s, .int .i64 (b : Int)] w fun e w' => ∃ v, e = .returned (.tuple #[v, .int .i64 (wE (sv b (gOf s) s.size) : Int)]) ∧ NatV w' v (wR (sv b (gOf s) s.size)) ∧ Below w.heap.size w w' := by
  have HD : Hid (IsDig s b) := hd
  have h0 := hd.1
  have hE : s.toList.isEmpty = false := by
    rw [toListData]
    cases q : s.data.toList with
    | nil => exact absurd (show s.size = 0 by have := congrArg List.length q; simpa using this) (by omega)
    | cons a r => rfl
  have S0 := fun W => small_nat 0 (by decide) W
  have SB := fun W => small_nat b (by unfold B; omega) W
  have b1 : ¬ (b : Int) < 2 := by omega
  have b2 : ¬ (36 : Int) < (b : Int) := by omega
  clear hd
  go_enter Tryd.func42, Tryd.ntmps42
  go_wp2
  go_loop [6] (fun i => ∃ k : Nat, k ≤ s.size ∧ i = .int .i64 k) (fun i => s.size - (intOf i).toNat)
  case atStart => exact ⟨0, Nat.zero_le _, rfl⟩
  case round =>
    obtain ⟨k, hk, rfl⟩ := hrel
    by_cases hlt : k < s.size
    · have DG := value_any (s[k]'hlt).toNat (UInt8.toNat_lt _) w
      have hv := HD.out.2 k hlt
      have e : rv (s[k]'hlt).toNat = (dv (s[k]'hlt).toNat : Int) := by unfold rv; rw [if_pos (by omega)]
      rw [e] at DG
      have v1 : ¬ ((dv (s[k]'hlt).toNat : Nat) : Int) < 0 := by omega
      have v2 : ¬ (b : Int) ≤ ((dv (s[k]'hlt).toNat : Nat) : Int) := by omega
      clear e hv
      generalize dv (s[k]'hlt).toNat = d at *
      go_wp2_with fail
      refine DG.mono ?_
      rintro e w ⟨rfl, rfl⟩
      go_wp2
      go_round
      case rel => exact ⟨k + 1, by omega, by go_num⟩
      case measure => simp [intOf]; omega
    · skip
      go_wp2_with fail
      refine (S0 _).mono ?_
      rintro e w1 ⟨v1, rfl, n1, B1⟩
      clear S0 hlt hk
      go_wp2
      go_loopw [8, 9] (fun z i wr => ∃ k : Nat, i = .int .i64 (k : Int) ∧ k ≤ s.size ∧ Hid (Big.NatV wr z (sv b (gOf s) k) ∧ Fits 256 (sv b (gOf s) k) ∧ Below w.heap.size w wr)) (fun _ i _ => s.size - (intOf i).toNat)
      case atStart => exact ⟨0, rfl, Nat.zero_le _, n1, ⟨1, by omega, by show 0 < _; exact Big.Bp_pos 1⟩, B1⟩
      case round =>
        clear n1 B1
        obtain ⟨j, rfl, hj, HI⟩ := hrel
        by_cases c1 : j < s.size
        · have hv := HD.out.2 j c1
          have VL := fun W => value_any (s[j]'c1).toNat (UInt8.toNat_lt _) W
          have e : rv (s[j]'c1).toNat = (gOf s j : Int) := by
            unfold rv; rw [if_pos (by omega), gOf_at c1]
          rw [gOf_at c1] at hv
          have SD := fun W => small_nat (gOf s j) (by unfold B; omega) W
          have HG : Hid (sv b (gOf s) (j + 1) = sv b (gOf s) j * b + gOf s j) := sv_succ _ _ _
          have hd36 : gOf s j < 36 := by omega
          have i1 : (0 : Int) ≤ (j : Int) := by omega
          have i2 : (j : Int) < (s.size : Int) := by omega
          have u1 : IntKind.u64.wrap (b : Int) = (b : Int) := by rw [IntKind.wrap_u64]; omega
          have u2 : IntKind.u64.wrap ((gOf s j : Nat) : Int) = ((gOf s j : Nat) : Int) := by rw [IntKind.wrap_u64]; omega
          rw [e] at VL
          clear e hv
          generalize gOf s j = d at *
          go_wp2_with fail
          go_region_held3 (fun _ => True) (trivial)
            (first
              | (go_at_call_of 61 (Value.int .u64 (b : Int)); refine (SB _).mono ?_; rintro e w2 ⟨v2, rfl, n2, b2'⟩)
              | (go_at_call 56; refine (times_nat ((HI.out.1.below ((Below.refl _ _).drew)).below b2') n2 (HI.out.2.1.up (by omega)) ((Fits.word (n := 1) (X := b) (by rw [Nat.pow_one]; unfold B; omega)).up (by omega))).mono ?_; rintro e w3 ⟨v3, rfl, n3, b3⟩)
              | (go_at_call 80; refine (VL _).mono ?_; rintro e w4 ⟨rfl, rfl⟩)
              | (go_at_call 61; refine (SD _).mono ?_; rintro e w5 ⟨v5, rfl, n5, b5⟩)
              | (go_at_call 48; refine (plus_any (n3.below b5) n5 ((HI.out.2.1.mul (Fits.word (n := 1) (X := b) (by rw [Nat.pow_one]; unfold B; omega))).up (by omega)) ((Fits.word (n := 1) (X := d) (by rw [Nat.pow_one]; unfold B; omega)).up (by omega))).mono ?_; rintro e w6 ⟨v6, rfl, n6, b6⟩))
          all_goals
            have Bd := HI.out.2.2.drew
            have B2 : Below w.heap.size w w2 := Bd.trans (b2'.mono Bd.size)
            have B4 : Below w.heap.size w w4 := B2.trans (b3.mono B2.size)
            have B5 : Below w.heap.size w w5 := B4.trans (b5.mono B4.size)
            have B6 : Below w.heap.size w w6 := B5.trans (b6.mono B5.size)
            rw [← HG.out] at n6
            have n6' := n6
            obtain ⟨ao, l, c, bk, o, F, rfl, S, t, hvv⟩ := n6'
            have HNV : Hid (Big.NatV w6 (.slice ao l c) (sv b (gOf s) (j + 1)) ∧ Below w.heap.size w w6) := ⟨n6, B6⟩
            have hll := big_len t (L := 300) (by rw [hvv, HG.out]; exact (((HI.out.2.1.mul (Fits.word (n := 1) (X := b) (by rw [Nat.pow_one]; unfold B; omega))).up (show 256 + 2 * 1 ≤ 299 by omega)).sum ((Fits.word (n := 1) (X := d) (by rw [Nat.pow_one]; unfold B; omega)).up (by omega))))
            clear Bd B2 B4 B5 B6 b2' b3 b5 b6 n6 n3 n5 n2 VL SD
            by_cases c2 : 256 < l
            · have c2' : (256 : Int) < (l : Int) := by omega
              have HN : Hid (wE (sv b (gOf s) s.size) = 20 ∧ wR (sv b (gOf s) s.size) = 0) := by
                have nl : ¬ sv b (gOf s) s.size < B ^ 128 := by
                  intro z
                  have q := Nat.lt_of_le_of_lt (sv_mono (b := b) (by omega) (gOf s) (show j + 1 ≤ s.size by omega)) z
                  rw [← hvv, ← D_B2] at q
                  have := Big.len_le t q
                  omega
                exact ⟨by unfold wE; rw [if_neg nl], by unfold wR; rw [if_neg nl]⟩
              clear S t hvv
              go_wp2
              refine bodyPost_ret (v := .tuple #[.slice none 0 0, .int .i64 20]) (by simp [results, Tryd.results42, go_sem]) rfl ⟨.slice none 0 0, by rw [HN.out.1]; rfl, by rw [HN.out.2]; exact natv_nil _, HNV.out.2⟩
            · have c2' : ¬ (256 : Int) < (l : Int) := by omega
              have HF3 : Hid (Fits 256 (sv b (gOf s) (j + 1))) := ⟨l, by omega, by rw [← hvv]; exact Big.V_lt S.ws l⟩
              clear S t hvv
              go_wp2
              go_roundw
              case rel => exact ⟨j + 1, by go_num, by omega, HNV.out.1, HF3.out, HNV.out.2⟩
              case measure => simp [intOf]; omega
        · obtain rfl : j = s.size := by omega
          have lt : sv b (gOf s) s.size < B ^ 128 := by rw [← D_B2]; exact HI.out.2.1.lt
          have W := words_any HI.out.1 (HI.out.2.1.up (by omega))
          have B1 := HI.out.2.2
          go_wp2_with fail
          refine W.mono ?_
          rintro e w2 ⟨v2, rfl, n2, b2'⟩
          go_wp2
          refine bodyPost_ret (v := .tuple #[v2, .int .i64 (wE (sv b (gOf s) s.size) : Int)]) (by simp [results, Tryd.results42, go_sem]) rfl ⟨v2, rfl, n2, B1.trans (b2'.mono B1.size)⟩

set_option maxRecDepth 100000 in
set_option maxHeartbeats 1000000 in
theorem rread_bad {w : World} (s : ByteArray) (hs : s.size ≤ 9223372036854775807) (b : Nat) (h1 : 2 ≤ b) (h2 : b ≤ 36) (hd : ¬ IsDig s b) :
    Calls Tryd.prog 42 #[.string s, .int .i64 (b : Int)] w fun e w' => e = .returned (.tuple #[.slice none 0 0, .int .i64 30]) ∧ w' = w := by
  have HN : Hid (¬ IsDig s b) := hd
  have b1 : ¬ (b : Int) < 2 := by omega
  have b2 : ¬ (36 : Int) < (b : Int) := by omega
  clear hd
  go_enter Tryd.func42, Tryd.ntmps42
  go_wp2
  go_loop [6] (fun i => ∃ k : Nat, k ≤ s.size ∧ i = .int .i64 k ∧ Hid (∀ j (h : j < s.size), j < k → dv (s[j]'h).toNat < b)) (fun i => s.size - (intOf i).toNat)
  case atStart => exact ⟨0, Nat.zero_le _, rfl, fun j _ q => absurd q (by omega)⟩
  case round =>
    obtain ⟨k, hk, rfl, HD⟩ := hrel
    by_cases hlt : k < s.size
    · have DG := value_any (s[k]'hlt).toNat (UInt8.toNat_lt _) w
      by_cases hv : dv (s[k]'hlt).toNat < b
      · have e : rv (s[k]'hlt).toNat = (dv (s[k]'hlt).toNat : Int) := by unfold rv; rw [if_pos (by omega)]
        rw [e] at DG
        have v1 : ¬ ((dv (s[k]'hlt).toNat : Nat) : Int) < 0 := by omega
        have v2 : ¬ (b : Int) ≤ ((dv (s[k]'hlt).toNat : Nat) : Int) := by omega
        have HD2 : Hid (∀ j (h : j < s.size), j < k + 1 → dv (s[j]'h).toNat < b) := fun j h q => by
          by_cases z : j = k
          · subst z; exact hv
          · exact HD.out j h (by omega)
        clear e hv
        generalize dv (s[k]'hlt).toNat = d at *
        go_wp2_with fail
        refine DG.mono ?_
        rintro e w ⟨rfl, rfl⟩
        go_wp2
        go_round
        case rel => exact ⟨k + 1, by omega, by go_num, HD2⟩
        case measure => simp [intOf]; omega
      · have hr : rv (s[k]'hlt).toNat < 0 ∨ (b : Int) ≤ rv (s[k]'hlt).toNat := by
          unfold rv
          split
          · right; omega
          · left; omega
        clear hv
        generalize rv (s[k]'hlt).toNat = d at *
        rcases hr with hr | hr
        · go_wp2_with fail
          refine DG.mono ?_
          rintro e w ⟨rfl, rfl⟩
          go_wp2
          refine bodyPost_ret (v := .tuple #[.slice none 0 0, .int .i64 30]) (by simp [results, Tryd.results42, go_sem]) rfl ⟨rfl, rfl⟩
        · have hr0 : ¬ d < 0 := by omega
          go_wp2_with fail
          refine DG.mono ?_
          rintro e w ⟨rfl, rfl⟩
          go_wp2
          refine bodyPost_ret (v := .tuple #[.slice none 0 0, .int .i64 30]) (by simp [results, Tryd.results42, go_sem]) rfl ⟨rfl, rfl⟩
    · have hz : s.size = 0 := by
        rcases Nat.eq_zero_or_pos s.size with z | z
        · exact z
        · exact absurd ⟨z, fun j h => HD.out j h (by omega)⟩ HN.out
      have hE : s.toList.isEmpty = true := by
        rw [toListData, List.isEmpty_iff]
        exact List.eq_nil_of_length_eq_zero (by simpa using hz)
      go_wp2
      refine bodyPost_ret (v := .tuple #[.slice none 0 0, .int .i64 30]) (by simp [results, Tryd.results42, go_sem]) rfl ⟨rfl, rfl⟩

set_option maxHeartbeats 1000000 in
theorem rread_any (s : ByteArray) (hs : s.size ≤ 9223372036854775807) (b : Int) (w : World) :
    Calls Tryd.prog 42 #[.string s, .int .i64 b] w fun e w' => ∃ v, e = .returned (.tuple #[v, .int .i64 (rdE s b : Int)]) ∧ NatV w' v (rdR s b) ∧ Below w.heap.size w w' := by
  unfold rdE rdR
  by_cases h : b < 2 ∨ 36 < b
  · rw [if_pos h, if_pos h]
    rcases h with h | h
    · go_enter Tryd.func42, Tryd.ntmps42
      go_wp2
      refine bodyPost_ret (v := .tuple #[.slice none 0 0, .int .i64 7]) (by simp [results, Tryd.results42, go_sem]) rfl ⟨_, rfl, natv_nil _, Below.refl _ _⟩
    · have h' : ¬ b < 2 := by omega
      go_enter Tryd.func42, Tryd.ntmps42
      go_wp2
      refine bodyPost_ret (v := .tuple #[.slice none 0 0, .int .i64 7]) (by simp [results, Tryd.results42, go_sem]) rfl ⟨_, rfl, natv_nil _, Below.refl _ _⟩
  · rw [if_neg h, if_neg h]
    obtain ⟨k, rfl⟩ := Int.eq_ofNat_of_zero_le (show 0 ≤ b by omega)
    rw [Int.toNat_natCast]
    have h1 : 2 ≤ k := by omega
    have h2 : k ≤ 36 := by omega
    by_cases q : IsDig s k
    · rw [if_pos q, if_pos q]
      exact rread_ok s hs k h1 h2 q
    · rw [if_neg q, if_neg q]
      exact (rread_bad s hs k h1 h2 q).mono fun _ _ ⟨e, hw⟩ => ⟨_, e, natv_nil _, by rw [hw]; exact Below.refl _ _⟩

end Go.Proofs.YtkkgancmodhghaaDoor
