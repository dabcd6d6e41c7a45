/-
  What the call of nat.Read answers for digits of a base.
-/
import Derived.Test.YtbmcegoebhbglabDoorNatVl
namespace Go.Proofs.YtbmcegoebhbglabDoor
open Go.RowKit

theorem small_piece {s r : ByteArray} {k n b : Nat} {g : Nat → Nat} (hr : r = s.extract k s.size) (hk : k + n ≤ s.size) (hn : n ≤ 64) (hg : ∀ k (h : k < s.size), dv (s[k]'h).toNat = g k) (hd : ∀ k, k < s.size → g k < b) (hp : b ^ n < B) (h2 : b ≤ 36) (w : World) :
    Calls Tryd.prog 37 #[.string (r.extract 0 n), .int .i64 (b : Int)] w fun e w' => e = .returned (.tuple #[.int .u64 ((b ^ n : Nat) : Int), .int .u64 ((sv b (fun j => g (k + j)) n : Nat) : Int)]) ∧ w' = w := by
  have hs : (r.extract 0 n).size = n := by rw [hr]; simp; omega
  have T := small_ok (r.extract 0 n) (by omega) b (fun j => g (k + j)) (fun j h => by
    rw [hs] at h
    show dv ((r.extract 0 n)[j]'_).toNat = g (k + j)
    rw [← hg (k + j) (by omega)]
    subst hr
    simp [ByteArray.getElem_extract]) (fun j h => hd (k + j) (by omega)) h2 (by rw [hs]; exact hp) w
  rw [hs] at T
  exact T
theorem cut_rest {s r : ByteArray} {k n : Nat} (hr : r = s.extract k s.size) : r.extract n r.size = s.extract (k + n) s.size := by
  subst hr
  simp [ByteArray.extract_extract]
  congr 1
  omega

def strLen : Value → Nat
  | .string t => t.size
  | _ => 0

set_option maxRecDepth 100000 in
set_option maxHeartbeats 2000000 in
theorem read_ok {w : World} (s : ByteArray) (hs : s.size ≤ 1000000) (h0 : 0 < s.size) (b : Nat) (h1 : 2 ≤ b) (h2 : b ≤ 36) (g : Nat → Nat) (hg : ∀ k (h : k < s.size), dv (s[k]'h).toNat = g k) (hd : ∀ k, k < s.size → g k < b)
    (m : Nat) (hm : m ≤ s.size) (hz : ∀ i, (h : i < m) → (s[i]'(by omega)).toNat = 48) (hy : (h : m < s.size) → (s[m]'h).toNat ≠ 48) (hX : sv b g s.size < B ^ 128) :
    Calls Tryd.prog 11 #[.string s, .int .i64 (b : Int)] w fun e w' => ∃ v, e = .returned (.tuple #[v, .nilIface]) ∧ NatV w' v (sv b g s.size) ∧ Below w.heap.size w w' := by
  have AR := areDigits_ok s (by unfold maxLen; omega) h0 b (fun k h => by rw [hg k h]; exact hd k h) w
  have TL := trimLeft_any s hs m hm h0 hz hy w
  have HG : Hid ((∀ k (h : k < s.size), dv (s[k]'h).toNat = g k) ∧ (∀ k, k < s.size → g k < b) ∧ sv b g s.size < B ^ 128) := ⟨hg, hd, hX⟩
  have HZ : Hid (sv b g m = 0) := sv_noughts fun i hi => by
    rw [← hg i (by omega), hz i hi]
    rfl
  clear hg hd hX hz hy
  go_enter Tryd.func11, Tryd.ntmps11
  go_wp2_with fail
  refine (isBase_yes b h1 h2 _).mono ?_
  rintro e w ⟨rfl, rfl⟩
  go_wp2_with fail
  refine AR.mono ?_
  rintro e w ⟨rfl, rfl⟩
  go_wp2_with fail
  refine (chunk_any b h1 h2 _).mono ?_
  rintro e w ⟨ck, P, rfl, hP, hk1, hk2, hPB, rfl⟩
  have HP : Hid (P = b ^ ck ∧ P < B) := ⟨hP, hPB⟩
  clear hP hPB AR
  go_wp2_with fail
  refine TL.mono ?_
  rintro e w ⟨rfl, rfl⟩
  clear TL
  go_wp2
  go_loopw [8, 9] (fun z r wr => ∃ k : Nat, k ≤ s.size ∧ r = .string (s.extract k s.size) ∧ Hid (NatV wr z (sv b g k) ∧ Below w.heap.size w wr)) (fun _ r _ => strLen r)
  case atStart => exact ⟨m, hm, rfl, by rw [HZ.out]; exact natv_nil _, Below.refl _ _⟩
  case round =>
    obtain ⟨k, hk, rfl, HV⟩ := hrel
    by_cases hlt : k < s.size
    · obtain ⟨r, hr⟩ : ∃ r, r = s.extract k s.size := ⟨_, rfl⟩
      have hrs : r.size = s.size - k := by rw [hr]; exact cut_size s k
      have hE : r.toList.isEmpty = false := by
        rw [toListData]
        cases q : r.data.toList with
        | nil => exact absurd (show r.size = 0 by have := congrArg List.length q; simpa using this) (by omega)
        | cons a l => rfl
      rw [← hr]
      have HR : Hid (r = s.extract k s.size) := hr
      clear hr
      have HRS : Hid (r.size = s.size - k) := hrs
      by_cases c : ck ≤ r.size
      · have c' : (ck : Int) ≤ (r.size : Int) := by omega
        have c'' : ¬ (r.size : Int) < (ck : Int) := by omega
        have cs : k + ck ≤ s.size := by omega
        clear hrs
        obtain ⟨⟨za, zn, zc, zb, zo, zf, rfl, ZS, zt, zv, zl⟩, hbl⟩ := HV.out
        have SP := small_piece (n := ck) HR.out (by omega) (by omega) HG.out.1 HG.out.2.1 (Nat.lt_of_le_of_lt (Nat.pow_le_pow_right (by omega) (by omega)) (HP.out.1 ▸ HP.out.2)) h2 wr
        have eS := sv_split b g k (ck)
        have hlo := sv_mono (b := b) (by omega) g (k := k + ck) (n := s.size) (by omega)
        have q1 : b ^ (ck) < B := Nat.lt_of_le_of_lt (Nat.pow_le_pow_right (by omega) (by omega)) (HP.out.1 ▸ HP.out.2)
        have q2 : sv b (fun j => g (k + j)) (ck) < b ^ (ck) := sv_lt (n := ck) (fun j hj => HG.out.2.1 (k + j) (by omega)) _ (Nat.le_refl _)
        have HW : Hid (zn ≤ 128 ∧ V zf zn * b ^ (ck) + sv b (fun j => g (k + j)) (ck) = sv b g (k + ck) ∧ sv b g (k + ck) < B ^ 128 ∧ b ^ (ck) < B ∧ sv b (fun j => g (k + j)) (ck) < B ∧ Sl wr za zn zc zb zo zf ∧ Below w.heap.size w wr) := ⟨zl, by rw [zv, eS], Nat.lt_of_le_of_lt hlo HG.out.2.2, q1, Nat.lt_trans q2 q1, ZS, hbl⟩
        clear eS hlo q1 q2 zv zt zl HV ZS hbl
        generalize sv b (fun j => g (k + j)) (ck) = Y at *
        generalize b ^ (ck) = Z at *
        go_wp2_with fail
        refine SP.mono ?_
        rintro e wr ⟨rfl, rfl⟩
        have PL := plus_any HW.out.2.2.2.2.2.1 (by have := HW.out.1; omega) Z Y HW.out.2.2.2.1 HW.out.2.2.2.2.1
        clear SP
        go_wp2_with fail
        refine PL.mono ?_
        rintro e wx ⟨rfl, hbx, F, RF, hv⟩
        have hzl := HW.out.1
        obtain ⟨nv, hl⟩ := natv_tl RF (by unfold maxLen; omega) (hv.trans HW.out.2.1) HW.out.2.2.1
        have FT := fit_ok (row_sl0 RF (by unfold maxLen; omega)) hl
        have HN : Hid (NatV wx (.slice (some ⟨wr.heap.size, 0, none⟩) (tl F (zn + 1)) (tl F (zn + 1))) (sv b g (k + ck)) ∧ Below w.heap.size w wx) := ⟨nv, HW.out.2.2.2.2.2.2.trans (hbx.mono HW.out.2.2.2.2.2.2.size)⟩
        clear PL nv hl RF hv hbx
        generalize tl F (zn + 1) = tn at *
        go_wp2_with fail
        refine FT.mono ?_
        rintro e wx ⟨rfl, rfl⟩
        go_wp2
        go_roundw
        case rel => exact ⟨k + ck, by omega, by rw [← cut_rest HR.out], HN.out⟩
        case measure => simp [strLen, HR.out]; omega
      · have c' : ¬ (ck : Int) ≤ (r.size : Int) := by omega
        have c'' : (r.size : Int) < (ck : Int) := by omega
        have cs : k + r.size ≤ s.size := by omega
        have cp : 1 ≤ r.size := by omega
        clear hrs
        obtain ⟨⟨za, zn, zc, zb, zo, zf, rfl, ZS, zt, zv, zl⟩, hbl⟩ := HV.out
        have SP := small_piece (n := r.size) HR.out (by omega) (by omega) HG.out.1 HG.out.2.1 (Nat.lt_of_le_of_lt (Nat.pow_le_pow_right (by omega) (by omega)) (HP.out.1 ▸ HP.out.2)) h2 wr
        rw [show r.extract 0 r.size = r by simp] at SP
        have eS := sv_split b g k (r.size)
        have hlo := sv_mono (b := b) (by omega) g (k := k + r.size) (n := s.size) (by omega)
        have q1 : b ^ (r.size) < B := Nat.lt_of_le_of_lt (Nat.pow_le_pow_right (by omega) (by omega)) (HP.out.1 ▸ HP.out.2)
        have q2 : sv b (fun j => g (k + j)) (r.size) < b ^ (r.size) := sv_lt (n := r.size) (fun j hj => HG.out.2.1 (k + j) (by omega)) _ (Nat.le_refl _)
        have HW : Hid (zn ≤ 128 ∧ V zf zn * b ^ (r.size) + sv b (fun j => g (k + j)) (r.size) = sv b g (k + r.size) ∧ sv b g (k + r.size) < B ^ 128 ∧ b ^ (r.size) < B ∧ sv b (fun j => g (k + j)) (r.size) < B ∧ Sl wr za zn zc zb zo zf ∧ Below w.heap.size w wr) := ⟨zl, by rw [zv, eS], Nat.lt_of_le_of_lt hlo HG.out.2.2, q1, Nat.lt_trans q2 q1, ZS, hbl⟩
        clear eS hlo q1 q2 zv zt zl HV ZS hbl
        generalize sv b (fun j => g (k + j)) (r.size) = Y at *
        generalize b ^ (r.size) = Z at *
        go_wp2_with fail
        refine SP.mono ?_
        rintro e wr ⟨rfl, rfl⟩
        have PL := plus_any HW.out.2.2.2.2.2.1 (by have := HW.out.1; omega) Z Y HW.out.2.2.2.1 HW.out.2.2.2.2.1
        clear SP
        go_wp2_with fail
        refine PL.mono ?_
        rintro e wx ⟨rfl, hbx, F, RF, hv⟩
        have hzl := HW.out.1
        obtain ⟨nv, hl⟩ := natv_tl RF (by unfold maxLen; omega) (hv.trans HW.out.2.1) HW.out.2.2.1
        have FT := fit_ok (row_sl0 RF (by unfold maxLen; omega)) hl
        have HN : Hid (NatV wx (.slice (some ⟨wr.heap.size, 0, none⟩) (tl F (zn + 1)) (tl F (zn + 1))) (sv b g (k + r.size)) ∧ Below w.heap.size w wx) := ⟨nv, HW.out.2.2.2.2.2.2.trans (hbx.mono HW.out.2.2.2.2.2.2.size)⟩
        clear PL nv hl RF hv hbx
        generalize tl F (zn + 1) = tn at *
        go_wp2_with fail
        refine FT.mono ?_
        rintro e wx ⟨rfl, rfl⟩
        go_wp2
        go_roundw
        case rel => exact ⟨k + r.size, by omega, by rw [← cut_rest HR.out]; simp, HN.out⟩
        case measure => simp [strLen, HR.out]; omega
    · obtain rfl : k = s.size := by omega
      have hE : (s.extract s.size s.size).toList.isEmpty = true := by
        rw [toListData, List.isEmpty_iff]
        exact List.eq_nil_of_length_eq_zero (by simp)
      go_wp2
      refine bodyPost_ret (v := .tuple #[_, .nilIface]) (by simp [results, Tryd.results11, go_sem]) rfl ⟨_, rfl, HV.out.1, HV.out.2⟩

end Go.Proofs.YtbmcegoebhbglabDoor
