/-
  What nat's Digits and Read answer of every number, text and base, errors too.
-/
import Derived.Test.YtkkgancmodhghaaDoorNatRq
import Derived.Test.YtkkgancmodhghaaDoorNatFl
namespace Go.Proofs.YtkkgancmodhghaaDoor
open Go.RowKit

set_option maxRecDepth 100000 in
set_option maxHeartbeats 2000000 in
theorem read_full {w : World} (s : ByteArray) (hs : s.size ≤ 9223372036854775807) (h0 : 0 < s.size) (b : Nat) (h1 : 2 ≤ b) (h2 : b ≤ 36) (g : Nat → Nat) (hg : ∀ k (h : k < s.size), dv (s[k]'h).toNat = g k) (hd : ∀ k, k < s.size → g k < b)
    (m : Nat) (hm : m ≤ s.size) (hz : ∀ i, (h : i < m) → (s[i]'(by omega)).toNat = 48) (hy : (h : m < s.size) → (s[m]'h).toNat ≠ 48) :
    Calls Tryd.prog 41 #[.string s, .int .i64 (b : Int)] w fun e w' => ∃ v, e = .returned (.tuple #[v, errV (wE (sv b g s.size))]) ∧ NatV w' v (wR (sv b g s.size)) ∧ Below w.heap.size w w' := by
  have AR := areDigits_ok s (by unfold maxLen; omega) h0 b (fun k h => by rw [hg k h]; exact hd k h) w
  have TL := trimLeft_any s hs m hm h0 hz hy w
  have HG : Hid ((∀ k (h : k < s.size), dv (s[k]'h).toNat = g k) ∧ (∀ k, k < s.size → g k < b)) := ⟨hg, hd⟩
  have HZ : Hid (sv b g m = 0) := sv_noughts fun i hi => by
    rw [← hg i (by omega), hz i hi]
    rfl
  clear hg hd hz hy
  go_enter Tryd.func41, Tryd.ntmps41
  go_wp2_with fail
  refine (isBase_yes b h1 h2 _).mono ?_
  rintro e w ⟨rfl, rfl⟩
  go_wp2_with fail
  refine AR.mono ?_
  rintro e w ⟨rfl, rfl⟩
  go_wp2_with fail
  refine (chunk_any b h1 h2 _).mono ?_
  rintro e w ⟨ck, P, rfl, hP, hk1, hk2, hPB, rfl⟩
  have HP : Hid (P = b ^ ck ∧ P < B) := ⟨hP, hPB⟩
  clear hP hPB AR
  go_wp2_with fail
  refine TL.mono ?_
  rintro e w ⟨rfl, rfl⟩
  clear TL
  go_wp2
  go_loopw [8, 9] (fun z r wr => ∃ k : Nat, k ≤ s.size ∧ r = .string (s.extract k s.size) ∧ Hid (NatV wr z (sv b g k) ∧ Below w.heap.size w wr)) (fun _ r _ => strLen r)
  case atStart => exact ⟨m, hm, rfl, by rw [HZ.out]; exact natv_nil _, Below.refl _ _⟩
  case round =>
    obtain ⟨k, hk, rfl, HV⟩ := hrel
    by_cases hlt : k < s.size
    · obtain ⟨r, hr⟩ : ∃ r, r = s.extract k s.size := ⟨_, rfl⟩
      have hrs : r.size = s.size - k := by rw [hr]; exact cut_size s k
      have hE : r.toList.isEmpty = false := by
        rw [toListData]
        cases q : r.data.toList with
        | nil => exact absurd (show r.size = 0 by have := congrArg List.length q; simpa using this) (by omega)
        | cons a l => rfl
      rw [← hr]
      have HR : Hid (r = s.extract k s.size) := hr
      clear hr
      have HRS : Hid (r.size = s.size - k) := hrs
      by_cases c : ck ≤ r.size
      · have c' : (ck : Int) ≤ (r.size : Int) := by omega
        have c'' : ¬ (r.size : Int) < (ck : Int) := by omega
        have cs : k + ck ≤ s.size := by omega
        clear hrs
        obtain ⟨⟨za, zn, zc, zb, zo, zf, rfl, ZS, zt, zv, zl⟩, hbl⟩ := HV.out
        have SP := small_piece (n := ck) HR.out (by omega) (by omega) HG.out.1 HG.out.2 (Nat.lt_of_le_of_lt (Nat.pow_le_pow_right (by omega) (by omega)) (HP.out.1 ▸ HP.out.2)) h2 wr
        have eS := sv_split b g k (ck)
        have hlo := sv_mono (b := b) (by omega) g (k := k + ck) (n := s.size) (by omega)
        have q1 : b ^ (ck) < B := Nat.lt_of_le_of_lt (Nat.pow_le_pow_right (by omega) (by omega)) (HP.out.1 ▸ HP.out.2)
        have q2 : sv b (fun j => g (k + j)) (ck) < b ^ (ck) := sv_lt (n := ck) (fun j hj => HG.out.2 (k + j) (by omega)) _ (Nat.le_refl _)
        have HW : Hid (zn ≤ 128 ∧ V zf zn * b ^ (ck) + sv b (fun j => g (k + j)) (ck) = sv b g (k + ck) ∧ sv b g (k + ck) ≤ sv b g s.size ∧ b ^ (ck) < B ∧ sv b (fun j => g (k + j)) (ck) < B ∧ Sl wr za zn zc zb zo zf ∧ Below w.heap.size w wr) := ⟨zl, by rw [zv, eS], hlo, q1, Nat.lt_trans q2 q1, ZS, hbl⟩
        clear eS hlo q1 q2 zv zt zl HV ZS hbl
        generalize sv b (fun j => g (k + j)) (ck) = Y at *
        generalize b ^ (ck) = Z at *
        go_wp2_with fail
        refine SP.mono ?_
        rintro e wr ⟨rfl, rfl⟩
        have PL := tplus_any HW.out.2.2.2.2.2.1 (by have := HW.out.1; omega) Z Y HW.out.2.2.2.1 HW.out.2.2.2.2.1
        clear SP
        go_wp2_with fail
        refine PL.mono ?_
        rintro e wx ⟨rfl, hbx, F, RF, hv⟩
        have hzl := HW.out.1
        by_cases lt : sv b g (k + ck) < B ^ 128
        · skip
          obtain ⟨nv, hl⟩ := natv_tl RF (by unfold maxLen; omega) (hv.trans HW.out.2.1) lt
          have FT := fit_ok (row_sl0 RF (by unfold maxLen; omega)) hl
          have HN : Hid (NatV wx (.slice (some ⟨wr.heap.size, 0, none⟩) (tl F (zn + 1)) (tl F (zn + 1))) (sv b g (k + ck)) ∧ Below w.heap.size w wx) := ⟨nv, HW.out.2.2.2.2.2.2.trans (hbx.mono HW.out.2.2.2.2.2.2.size)⟩
          clear PL nv hl RF hv hbx
          generalize tl F (zn + 1) = tn at *
          go_wp2_with fail
          refine FT.mono ?_
          rintro e wx ⟨rfl, rfl⟩
          go_wp2
          go_roundw
          case rel => exact ⟨k + ck, by omega, by rw [← cut_rest HR.out], HN.out⟩
          case measure => simp [strLen, HR.out]; omega
        · skip
          have hl : 128 < tl F (zn + 1) := by
            rcases Nat.lt_or_ge 128 (tl F (zn + 1)) with z | z
            · exact z
            · exfalso
              have p := Nat.lt_of_lt_of_le (V_lt RF.ws (tl F (zn + 1))) (Nat.pow_le_pow_right B_pos z)
              rw [tl_V, hv, HW.out.2.1] at p
              exact lt p
          have FT : Calls Tryd.prog 45 #[.slice (some ⟨wr.heap.size, 0, none⟩) (zn + 1) (zn + 1)] wx fun e w' => e = .returned (.tuple #[.slice none 0 0, .iface 82 (.int .i64 20)]) ∧ w' = wx := fit_big (row_sl0 RF (by unfold maxLen; omega)) hl
          have HN : Hid (wE (sv b g s.size) = 20 ∧ wR (sv b g s.size) = 0 ∧ Below w.heap.size w wx) := by
            have nl : ¬ sv b g s.size < B ^ 128 := fun z => lt (Nat.lt_of_le_of_lt HW.out.2.2.1 z)
            exact ⟨by unfold wE; rw [if_neg nl], by unfold wR; rw [if_neg nl], HW.out.2.2.2.2.2.2.trans (hbx.mono HW.out.2.2.2.2.2.2.size)⟩
          clear PL lt hl RF hv hbx
          go_wp2_with fail
          refine FT.mono ?_
          rintro e wx ⟨rfl, rfl⟩
          go_wp2
          refine bodyPost_ret (v := .tuple #[.slice none 0 0, .iface 82 (.int .i64 20)]) (by simp [results, Tryd.results41, go_sem]) rfl ⟨_, by rw [HN.out.1]; rfl, by rw [HN.out.2.1]; exact natv_nil _, HN.out.2.2⟩
      · have c' : ¬ (ck : Int) ≤ (r.size : Int) := by omega
        have c'' : (r.size : Int) < (ck : Int) := by omega
        have cs : k + r.size ≤ s.size := by omega
        have cp : 1 ≤ r.size := by omega
        clear hrs
        obtain ⟨⟨za, zn, zc, zb, zo, zf, rfl, ZS, zt, zv, zl⟩, hbl⟩ := HV.out
        have SP := small_piece (n := r.size) HR.out (by omega) (by omega) HG.out.1 HG.out.2 (Nat.lt_of_le_of_lt (Nat.pow_le_pow_right (by omega) (by omega)) (HP.out.1 ▸ HP.out.2)) h2 wr
        rw [show r.extract 0 r.size = r by simp] at SP
        have eS := sv_split b g k (r.size)
        have hlo := sv_mono (b := b) (by omega) g (k := k + r.size) (n := s.size) (by omega)
        have q1 : b ^ (r.size) < B := Nat.lt_of_le_of_lt (Nat.pow_le_pow_right (by omega) (by omega)) (HP.out.1 ▸ HP.out.2)
        have q2 : sv b (fun j => g (k + j)) (r.size) < b ^ (r.size) := sv_lt (n := r.size) (fun j hj => HG.out.2 (k + j) (by omega)) _ (Nat.le_refl _)
        have HW : Hid (zn ≤ 128 ∧ V zf zn * b ^ (r.size) + sv b (fun j => g (k + j)) (r.size) = sv b g (k + r.size) ∧ sv b g (k + r.size) ≤ sv b g s.size ∧ b ^ (r.size) < B ∧ sv b (fun j => g (k + j)) (r.size) < B ∧ Sl wr za zn zc zb zo zf ∧ Below w.heap.size w wr) := ⟨zl, by rw [zv, eS], hlo, q1, Nat.lt_trans q2 q1, ZS, hbl⟩
        clear eS hlo q1 q2 zv zt zl HV ZS hbl
        generalize sv b (fun j => g (k + j)) (r.size) = Y at *
        generalize b ^ (r.size) = Z at *
        go_wp2_with fail
        refine SP.mono ?_
        rintro e wr ⟨rfl, rfl⟩
        have PL := tplus_any HW.out.2.2.2.2.2.1 (by have := HW.out.1; omega) Z Y HW.out.2.2.2.1 HW.out.2.2.2.2.1
        clear SP
        go_wp2_with fail
        refine PL.mono ?_
        rintro e wx ⟨rfl, hbx, F, RF, hv⟩
        have hzl := HW.out.1
        by_cases lt : sv b g (k + r.size) < B ^ 128
        · skip
          obtain ⟨nv, hl⟩ := natv_tl RF (by unfold maxLen; omega) (hv.trans HW.out.2.1) lt
          have FT := fit_ok (row_sl0 RF (by unfold maxLen; omega)) hl
          have HN : Hid (NatV wx (.slice (some ⟨wr.heap.size, 0, none⟩) (tl F (zn + 1)) (tl F (zn + 1))) (sv b g (k + r.size)) ∧ Below w.heap.size w wx) := ⟨nv, HW.out.2.2.2.2.2.2.trans (hbx.mono HW.out.2.2.2.2.2.2.size)⟩
          clear PL nv hl RF hv hbx
          generalize tl F (zn + 1) = tn at *
          go_wp2_with fail
          refine FT.mono ?_
          rintro e wx ⟨rfl, rfl⟩
          go_wp2
          go_roundw
          case rel => exact ⟨k + r.size, by omega, by rw [← cut_rest HR.out]; simp, HN.out⟩
          case measure => simp [strLen, HR.out]; omega
        · skip
          have hl : 128 < tl F (zn + 1) := by
            rcases Nat.lt_or_ge 128 (tl F (zn + 1)) with z | z
            · exact z
            · exfalso
              have p := Nat.lt_of_lt_of_le (V_lt RF.ws (tl F (zn + 1))) (Nat.pow_le_pow_right B_pos z)
              rw [tl_V, hv, HW.out.2.1] at p
              exact lt p
          have FT : Calls Tryd.prog 45 #[.slice (some ⟨wr.heap.size, 0, none⟩) (zn + 1) (zn + 1)] wx fun e w' => e = .returned (.tuple #[.slice none 0 0, .iface 82 (.int .i64 20)]) ∧ w' = wx := fit_big (row_sl0 RF (by unfold maxLen; omega)) hl
          have HN : Hid (wE (sv b g s.size) = 20 ∧ wR (sv b g s.size) = 0 ∧ Below w.heap.size w wx) := by
            have nl : ¬ sv b g s.size < B ^ 128 := fun z => lt (Nat.lt_of_le_of_lt HW.out.2.2.1 z)
            exact ⟨by unfold wE; rw [if_neg nl], by unfold wR; rw [if_neg nl], HW.out.2.2.2.2.2.2.trans (hbx.mono HW.out.2.2.2.2.2.2.size)⟩
          clear PL lt hl RF hv hbx
          go_wp2_with fail
          refine FT.mono ?_
          rintro e wx ⟨rfl, rfl⟩
          go_wp2
          refine bodyPost_ret (v := .tuple #[.slice none 0 0, .iface 82 (.int .i64 20)]) (by simp [results, Tryd.results41, go_sem]) rfl ⟨_, by rw [HN.out.1]; rfl, by rw [HN.out.2.1]; exact natv_nil _, HN.out.2.2⟩
    · obtain rfl : k = s.size := by omega
      have hE : (s.extract s.size s.size).toList.isEmpty = true := by
        rw [toListData, List.isEmpty_iff]
        exact List.eq_nil_of_length_eq_zero (by simp)
      have HN : Hid (wE (sv b g s.size) = 0 ∧ wR (sv b g s.size) = sv b g s.size) := by
        have lt : sv b g s.size < B ^ 128 := by
          obtain ⟨⟨_, _, _, _, _, _, _, S, _, hv, hl⟩, _⟩ := HV.out
          rw [← hv]
          exact V_small S.ws hl
        exact ⟨by unfold wE; rw [if_pos lt], by unfold wR; rw [if_pos lt]⟩
      go_wp2
      refine bodyPost_ret (v := .tuple #[u8, .nilIface]) (by simp [results, Tryd.results41, go_sem]) rfl ⟨u8, by rw [HN.out.1]; rfl, by rw [HN.out.2]; exact HV.out.1, HV.out.2⟩


/-- A text of digits of a base. -/
def IsDig (s : ByteArray) (b : Nat) : Prop := 0 < s.size ∧ ∀ k (h : k < s.size), dv (s[k]'h).toNat < b

set_option maxRecDepth 100000 in
set_option maxHeartbeats 1000000 in
theorem areDigits_no (s : ByteArray) (hs : s.size ≤ 9223372036854775807) (b : Nat) (hn : ¬ IsDig s b) (w : World) :
    Calls Tryd.prog 77 #[.string s, .int .i64 (b : Int)] w fun e w' => e = .returned (.bool false) ∧ w' = w := by
  have HN : Hid (¬ IsDig s b) := hn
  clear hn
  go_enter Tryd.func77, Tryd.ntmps77
  go_wp2
  go_loop [8] (fun i => ∃ k : Nat, k ≤ s.size ∧ i = .int .i64 k ∧ Hid (∀ j (h : j < s.size), j < k → dv (s[j]'h).toNat < b)) (fun i => s.size - (intOf i).toNat)
  case atStart => exact ⟨0, Nat.zero_le _, rfl, fun j _ q => absurd q (by omega)⟩
  case round =>
    obtain ⟨k, hk, rfl, HD⟩ := hrel
    by_cases hlt : k < s.size
    · have DG := digit_any (s[k]'hlt).toNat (UInt8.toNat_lt _) w
      by_cases hv : dv (s[k]'hlt).toNat < b
      · have hv' : ¬ (b : Int) ≤ (dv (s[k]'hlt).toNat : Int) := by omega
        have HD2 : Hid (∀ j (h : j < s.size), j < k + 1 → dv (s[j]'h).toNat < b) := fun j h q => by
          by_cases z : j = k
          · subst z; exact hv
          · exact HD.out j h (by omega)
        clear hv
        generalize dv (s[k]'hlt).toNat = d at *
        go_wp2_with fail
        refine DG.mono ?_
        rintro e w ⟨rfl, rfl⟩
        go_wp2
        go_round
        case rel => exact ⟨k + 1, by omega, by go_num, HD2⟩
        case measure => simp [intOf]; omega
      · have hv' : (b : Int) ≤ (dv (s[k]'hlt).toNat : Int) := by omega
        clear hv
        generalize dv (s[k]'hlt).toNat = d at *
        go_wp2_with fail
        refine DG.mono ?_
        rintro e w ⟨rfl, rfl⟩
        go_wp2
        go_ret
        exact ⟨rfl, rfl⟩
    · have hz : s.size = 0 := by
        rcases Nat.eq_zero_or_pos s.size with z | z
        · exact z
        · exact absurd ⟨z, fun j h => HD.out j h (by omega)⟩ HN.out
      have hE : s.toList.isEmpty = true := by
        rw [toListData, List.isEmpty_iff]
        exact List.eq_nil_of_length_eq_zero (by simpa using hz)
      go_wp2
      go_ret
      exact ⟨rfl, rfl⟩

theorem isBase_no (b : Int) (h : b < 2 ∨ 36 < b) (w : World) :
    Calls Tryd.prog 71 #[.int .i64 b] w fun e w' => e = .returned (.bool false) ∧ w' = w := by
  rcases h with h | h
  · have h' : ¬ 2 ≤ b := by omega
    go_enter Tryd.func71, Tryd.ntmps71
    go_wp2
    go_ret
    exact ⟨rfl, rfl⟩
  · have h' : ¬ b ≤ 36 := by omega
    have h2 : 2 ≤ b := by omega
    go_enter Tryd.func71, Tryd.ntmps71
    go_wp2
    go_ret
    exact ⟨rfl, rfl⟩

/-- How many noughts stand ahead. -/
theorem lead_noughts (s : ByteArray) : ∃ m, ∃ hm : m ≤ s.size, (∀ i, (h : i < m) → (s[i]'(by omega)).toNat = 48) ∧ ((h : m < s.size) → (s[m]'h).toNat ≠ 48) := by
  have key : ∀ d k, s.size - k = d → (hk : k ≤ s.size) → (∀ i, (h : i < k) → (s[i]'(by omega)).toNat = 48) → ∃ m, ∃ hm : m ≤ s.size, (∀ i, (h : i < m) → (s[i]'(by omega)).toNat = 48) ∧ ((h : m < s.size) → (s[m]'h).toNat ≠ 48) := by
    intro d
    induction d with
    | zero => intro k hd hk hz; exact ⟨k, hk, hz, fun h => absurd h (by omega)⟩
    | succ d ih =>
      intro k hd hk hz
      have hlt : k < s.size := by omega
      by_cases c : (s[k]'hlt).toNat = 48
      · refine ih (k + 1) (by omega) hlt (fun i h => ?_)
        by_cases z : i = k
        · subst z; exact c
        · exact hz i (by omega)
      · exact ⟨k, hk, hz, fun _ => c⟩
  exact key _ 0 rfl (Nat.zero_le _) (fun i h => absurd h (by omega))

/-- The digits' values of a text. -/
def gOf (s : ByteArray) (k : Nat) : Nat := if h : k < s.size then dv (s[k]'h).toNat else 0
theorem gOf_at {s : ByteArray} {k : Nat} (h : k < s.size) : dv (s[k]'h).toNat = gOf s k := by unfold gOf; rw [dif_pos h]

open Classical in
/-- The error and the number of a text in a base. -/
noncomputable def rdE (s : ByteArray) (b : Int) : Nat := if b < 2 ∨ 36 < b then 7 else if IsDig s b.toNat then wE (sv b.toNat (gOf s) s.size) else 30
open Classical in
noncomputable def rdR (s : ByteArray) (b : Int) : Nat := if b < 2 ∨ 36 < b then 0 else if IsDig s b.toNat then wR (sv b.toNat (gOf s) s.size) else 0

set_option maxRecDepth 100000 in
set_option maxHeartbeats 1000000 in
theorem readN_any (s : ByteArray) (hs : s.size ≤ 9223372036854775807) (b : Int) (w : World) :
    Calls Tryd.prog 41 #[.string s, .int .i64 b] w fun e w' => ∃ v, e = .returned (.tuple #[v, errV (rdE s b)]) ∧ NatV w' v (rdR s b) ∧ Below w.heap.size w w' := by
  unfold rdE rdR
  by_cases h : b < 2 ∨ 36 < b
  · rw [if_pos h, if_pos h]
    have T := isBase_no b h w
    unfold errV
    clear h
    go_enter Tryd.func41, Tryd.ntmps41
    go_wp2_with fail
    refine T.mono ?_
    rintro e w ⟨rfl, rfl⟩
    go_wp2
    refine bodyPost_ret (v := .tuple #[.slice none 0 0, .iface 82 (.int .i64 7)]) (by simp [results, Tryd.results41, go_sem]) rfl ⟨_, rfl, natv_nil _, Below.refl _ _⟩
  · rw [if_neg h, if_neg h]
    obtain ⟨k, rfl⟩ := Int.eq_ofNat_of_zero_le (show 0 ≤ b by omega)
    rw [Int.toNat_natCast]
    have h1 : 2 ≤ k := by omega
    have h2 : k ≤ 36 := by omega
    by_cases q : IsDig s k
    · rw [if_pos q, if_pos q]
      obtain ⟨m, hm, hz, hy⟩ := lead_noughts s
      exact read_full s hs q.1 k h1 h2 (gOf s) (fun j hj => gOf_at hj) (fun j hj => by rw [← gOf_at hj]; exact q.2 j hj) m hm hz hy
    · rw [if_neg q, if_neg q]
      have T := fun W => isBase_yes k h1 h2 W
      have D := fun W => areDigits_no s hs k q W
      unfold errV
      clear q h
      go_enter Tryd.func41, Tryd.ntmps41
      go_wp2_with fail
      refine (T _).mono ?_
      rintro e w ⟨rfl, rfl⟩
      go_wp2_with fail
      refine (D _).mono ?_
      rintro e w ⟨rfl, rfl⟩
      go_wp2
      refine bodyPost_ret (v := .tuple #[.slice none 0 0, .iface 82 (.int .i64 30)]) (by simp [results, Tryd.results41, go_sem]) rfl ⟨_, rfl, natv_nil _, Below.refl _ _⟩

/-- The error of a number and a base; the digits that are told. -/
def dgE (k : Nat) (b : Int) : Nat := if k = 0 then (if b < 2 ∨ 36 < b then 7 else 0) else k
def IsTx (k X : Nat) (b : Int) (t : ByteArray) : Prop := (dgE k b ≠ 0 ∧ t = ⟨#[]⟩) ∨ (dgE k b = 0 ∧ X = 0 ∧ t = ⟨#[48]⟩) ∨ (dgE k b = 0 ∧ X ≠ 0 ∧ ∃ K, t = rowText b.toNat X K ∧ 1 ≤ K ∧ b.toNat ^ (K - 1) ≤ X ∧ X < b.toNat ^ K ∧ 2 ≤ b)
theorem IsTx.uniq {k X : Nat} {b : Int} {t t' : ByteArray} (h : IsTx k X b t) (h' : IsTx k X b t') : t = t' := by
  rcases h with ⟨a1, a2⟩ | ⟨a1, a2, a3⟩ | ⟨a1, a2, K, a3, a4, a5, a6, a7⟩ <;> rcases h' with ⟨b1, b2⟩ | ⟨b1, b2, b3⟩ | ⟨b1, b2, K', b3, b4, b5, b6, b7⟩
  · rw [a2, b2]
  · exact absurd b1 a1
  · exact absurd b1 a1
  · exact absurd a1 b1
  · rw [a3, b3]
  · exact absurd a2 b2
  · exact absurd a1 b1
  · exact absurd b2 a2
  · have e : K = K' := by
      have p : 0 < b.toNat := by omega
      rcases Nat.lt_trichotomy K K' with z | z | z
      · have := Nat.pow_le_pow_right p (show K ≤ K' - 1 by omega)
        omega
      · exact z
      · have := Nat.pow_le_pow_right p (show K' ≤ K - 1 by omega)
        omega
    rw [a3, b3, e]

set_option maxRecDepth 100000 in
set_option maxHeartbeats 1000000 in
theorem digitsN_any {w : World} {ao : Option Addr} {n c b' o : Nat} {f : Nat → Nat} (S : Sl w ao n c b' o f) (b : Int) :
    Calls Tryd.prog 39 #[.slice ao n c, .int .i64 b] w fun e w' => ∃ t, e = .returned (.tuple #[.string t, errV (dgE (verr f n) b)]) ∧ IsTx (verr f n) (V f n) b t ∧ Below w.heap.size w w' := by
  have h1 := valid_any S
  by_cases q : verr f n = 0
  · rw [q] at h1 ⊢
    by_cases h : b < 2 ∨ 36 < b
    · have e7 : dgE 0 b = 7 := by unfold dgE; rw [if_pos rfl, if_pos h]
      have HT : Hid (IsTx 0 (V f n) b ⟨#[]⟩) := Or.inl ⟨by rw [e7]; omega, rfl⟩
      rw [e7]
      unfold errV at h1 ⊢
      have T := fun W => isBase_no b h W
      clear h q e7 S
      go_enter Tryd.func39, Tryd.ntmps39
      go_wp2_with fail
      refine h1.mono ?_
      rintro e wa ⟨rfl, hba⟩
      go_wp2_with fail
      refine (T _).mono ?_
      rintro e wa ⟨rfl, rfl⟩
      go_wp2
      refine bodyPost_ret (v := .tuple #[.string ⟨#[]⟩, .iface 82 (.int .i64 7)]) (by simp [results, Tryd.results39, go_sem]) rfl ⟨_, rfl, HT.out, hba⟩
    · have e0 : dgE 0 b = 0 := by unfold dgE; rw [if_pos rfl, if_neg h]
      obtain ⟨k, rfl⟩ := Int.eq_ofNat_of_zero_le (show 0 ≤ b by omega)
      have g1 : 2 ≤ k := by omega
      have g2 : k ≤ 36 := by omega
      obtain ⟨hn, t⟩ := verr_nat q
      by_cases z : V f n = 0
      · have hn0 : n = 0 := by
          rcases Nat.eq_zero_or_pos n with y | y
          · exact y
          · have := Top_ge t y
            have := Bp_pos (n - 1)
            omega
        subst hn0
        rw [e0]
        exact (digits_zero S k g1 g2).mono fun _ _ ⟨e, hb⟩ => ⟨_, e, Or.inr (Or.inl ⟨e0, z, rfl⟩), hb⟩
      · rw [e0]
        exact (digits_any (natv_mk S q) z k g1 g2).mono fun _ _ ⟨K, e, k1, k2, k3, hb⟩ => ⟨_, e, Or.inr (Or.inr ⟨e0, z, K, rfl, k1, k2, k3, by omega⟩), hb⟩
  · have ek : dgE (verr f n) b = verr f n := by unfold dgE; rw [if_neg q]
    have HT : Hid (IsTx (verr f n) (V f n) b ⟨#[]⟩) := Or.inl ⟨by rw [ek]; exact q, rfl⟩
    rw [ek]
    rw [errV_succ q] at h1 ⊢
    clear ek S
    generalize verr f n = k at *
    go_enter Tryd.func39, Tryd.ntmps39
    go_wp2_with fail
    refine h1.mono ?_
    rintro e wa ⟨rfl, hba⟩
    go_wp2
    refine bodyPost_ret (v := .tuple #[.string ⟨#[]⟩, .iface 82 (.int .i64 (k : Int))]) (by simp [results, Tryd.results39, go_sem]) rfl ⟨_, rfl, HT.out, hba⟩

end Go.Proofs.YtkkgancmodhghaaDoor
