/-
  The document's Prefix at a base that may be read: what it answers for every text.
-/
import Derived.Test.YthjflphfjemanaaDoorUiJ
namespace Go.Proofs.YthjflphfjemanaaDoor
open Go.RowKit

set_option maxRecDepth 100000 in
set_option maxHeartbeats 2000000 in
theorem rprefix_zero (s : ByteArray) (hs : s.size ≤ 140737488355328) (b : Nat) (h : readB b) (hz0 : b = 0) (w : World) :
    Calls Tryd.prog 49 #[.string s, .int .i64 (b : Int)] w fun x w' => x = .returned (.tuple #[.int .u64 (pxX b s.data.toList : Int), .int .i64 (bgL b s.data.toList : Int), .int .i64 (pxE b s.data.toList : Int)]) ∧ Below w.heap.size w w' := by
  have HBG : Hid (Begin b s.data.toList) := begin_any h s.data.toList
  have HRB : Hid (readB b) := h
  obtain ⟨X, hX⟩ : ∃ X, X = pxX b s.data.toList := ⟨_, rfl⟩
  obtain ⟨E, hE⟩ : ∃ E, E = pxE b s.data.toList := ⟨_, rfl⟩
  obtain ⟨L, hL⟩ : ∃ L, L = bgL b s.data.toList := ⟨_, rfl⟩
  rw [← hX, ← hE, ← hL]
  have HT : Hid (X = pxX b s.data.toList ∧ E = pxE b s.data.toList ∧ L = bgL b s.data.toList) := ⟨hX, hE, hL⟩
  clear hX hE hL
  have hb0 : ((b : Int) != 0) = false := by rw [hz0]; rfl
  clear hz0 h
  go_enter Tryd.func49, Tryd.ntmps49
  go_wp2
  go_loop [7] (fun nv => ∃ k : Nat, nv = .int .i64 (k : Int) ∧ k ≤ s.size ∧ Hid (lead s.data.toList = k + lead (s.data.toList.drop k))) (fun nv => s.size - (intOf nv).toNat)
  case atStart => exact ⟨0, rfl, Nat.zero_le _, by (show _ = _; rw [List.drop_zero]; omega)⟩
  case round =>
    obtain ⟨k, rfl, hk, HI⟩ := hrel
    have hexit : ¬ k < s.size ∨ (∃ h : k < s.size, okc (s[k]'h) = false) ∨ (∃ h : k < s.size, okc (s[k]'h) = true) := by
      by_cases h : k < s.size
      · cases q : okc (s[k]'h) with
        | true => exact Or.inr (Or.inr ⟨h, q⟩)
        | false => exact Or.inr (Or.inl ⟨h, q⟩)
      · exact Or.inl h
    rcases hexit with hx | ⟨hlt, hx⟩ | ⟨hlt, hx⟩
    · have hlt' : ¬ (k : Int) < (s.size : Int) := by omega
      have HLD : Hid (lead s.data.toList = k) := by
        show _ = _
        rw [HI.out, drop_end s hx]; rfl
      clear HI hx
      go_wp2
      go_loop [7] (fun nv => ∃ n : Nat, nv = .int .i64 (n : Int) ∧ n ≤ k ∧ Hid (∀ m, n < m → m ≤ k → inB b (s.data.toList.take m) = false)) (fun nv => (intOf nv).toNat)
      case atStart => exact ⟨k, rfl, Nat.le_refl _, fun m a c => by omega⟩
      case round =>
        obtain ⟨n, rfl, hnk, HM⟩ := hrel
        by_cases hz : n = 0
        · subst hz
          have hL : bgL b s.data.toList = 0 := (HBG.out.uniq (n := 0) (fun m a c => HM.out m a (by rw [← HLD.out]; exact c)) (by omega) (Or.inl rfl)).symm
          have HX : Hid (pxX b s.data.toList = 0 ∧ pxE b s.data.toList = 3) := ⟨by unfold pxX; rw [hL, if_neg (by omega)], by unfold pxE; rw [hL, if_neg (by omega)]⟩
          rw [← HT.out.1, ← HT.out.2.1] at HX
          have HL' : Hid (L = 0) := by show _ = _; rw [← hL, HT.out.2.2]
          clear HM hL
          go_wp2
          go_ret3
          exact ⟨by rw [HX.out.1, HX.out.2, HL'.out]; rfl, Below.refl _ _⟩
        · have hn0 : (0 : Int) < (n : Int) := by omega
          have hsl : (s.extract 0 n).data.toList = s.data.toList.take n := by rw [ls_slice s (Nat.zero_le _), List.drop_zero]
          have hsn : (s.extract 0 n).size ≤ 9223372036854775806 := by rw [ByteArray.size_extract]; omega
          have IN := fun W => in_any (s.extract 0 n) hsn b HRB.out W
          rw [hsl] at IN
          have hns : ¬ (s.size : Int) < (n : Int) := by omega
          cases A : inB b (s.data.toList.take n) with
          | false =>
            rw [A] at IN
            have HM2 : Hid (∀ m, n - 1 < m → m ≤ k → inB b (s.data.toList.take m) = false) := fun m a c => by
              by_cases y : m = n
              · rw [y]; exact A
              · exact HM.out m (by omega) c
            clear HM A hsl hsn
            go_wp2_with fail
            refine (IN _).mono ?_
            rintro e w ⟨rfl, rfl⟩
            go_wp2
            go_round
            case rel => exact ⟨n - 1, by go_num, by omega, HM2⟩
            case measure => simp [intOf] <;> omega
          | true =>
            rw [A] at IN
            have hL : bgL b s.data.toList = n := (HBG.out.uniq (n := n) (fun m a c => HM.out m a (by rw [← HLD.out]; exact c)) (by rw [HLD.out]; exact hnk) (Or.inr A)).symm
            have hok : ∀ c ∈ (s.extract 0 n).data.toList, okc c = true := by
              rw [hsl, ← hL]
              exact lead_ok s.data.toList _ HBG.out.ld
            have VL := fun W => rval_any (s.extract 0 n) hsn b HRB.out hok W
            rw [hsl] at VL
            have e := px_same HRB.out (l := s.data.toList) (by rw [hL]; omega)
            rw [hL] at e
            rw [e] at VL
            have HL' : Hid (L = n) := by show _ = _; rw [← hL, HT.out.2.2]
            have hp : 0 < bgL b s.data.toList := by rw [hL]; omega
            have hnz : ((n : Int) == 0) = false := beq_eq_false_iff_ne.mpr (by omega)
            by_cases z : pxN b s.data.toList < 18446744073709551616
            · have HX : Hid (X = pxN b s.data.toList ∧ E = 0) := ⟨by rw [HT.out.1]; unfold pxX; rw [if_pos hp, if_pos z], by rw [HT.out.2.1]; unfold pxE; rw [if_pos hp, if_pos z]⟩
              rw [rvV_in z] at VL
              clear HM A hsl hsn hok e hL hp z HT
              generalize pxN b s.data.toList = N at *
              go_wp2_with fail
              refine (IN _).mono ?_
              rintro e w ⟨rfl, rfl⟩
              go_wp2_with fail
              refine (VL _).mono ?_
              rintro e w1 ⟨rfl, b1⟩
              have B1 : Hid (Below w.heap.size w w1) := b1
              clear b1
              go_wp2
              go_ret3
              exact ⟨by rw [HX.out.1, HX.out.2, HL'.out]; rfl, B1.out⟩
            · have HX : Hid (X = 18446744073709551615 ∧ E = 4) := ⟨by rw [HT.out.1]; unfold pxX; rw [if_pos hp, if_neg z], by rw [HT.out.2.1]; unfold pxE; rw [if_pos hp, if_neg z]⟩
              rw [rvV_out z] at VL
              clear HM A hsl hsn hok e hL hp z HT
              go_wp2_with fail
              refine (IN _).mono ?_
              rintro e w ⟨rfl, rfl⟩
              go_wp2_with fail
              refine (VL _).mono ?_
              rintro e w1 ⟨rfl, b1⟩
              have B1 : Hid (Below w.heap.size w w1) := b1
              clear b1
              go_wp2
              go_ret3
              exact ⟨by rw [HX.out.1, HX.out.2, HL'.out]; rfl, B1.out⟩
    · have hlt' : (k : Int) < (s.size : Int) := by omega
      have HLD : Hid (lead s.data.toList = k) := by
        show _ = _
        rw [HI.out, drop_at s hlt, lead_no hx]; rfl
      have o1 : ¬ ((s[k]'hlt).toNat : Int) = 95 := fun z => by rw [bar_of z] at hx; exact absurd hx (by decide)
      have o2 : ¬ dv (s[k]'hlt).toNat < 36 := fun z => by rw [show okc (s[k]'hlt) = true from decide_eq_true (Or.inr z)] at hx; cases hx
      have o1' : (((s[k]'hlt).toNat : Int) == 95) = false := beq_eq_false_iff_ne.mpr o1
      have DC := rdig_any (s[k]'hlt).toNat (UInt8.toNat_lt _)
      have o3 : ¬ (dv (s[k]'hlt).toNat : Int) < 36 := by omega
      clear HI hx o2
      generalize dv (s[k]'hlt).toNat = d at *
      go_wp2_with fail
      refine (DC _).mono ?_
      rintro e w ⟨rfl, rfl⟩
      clear DC
      go_wp2
      go_loop [7] (fun nv => ∃ n : Nat, nv = .int .i64 (n : Int) ∧ n ≤ k ∧ Hid (∀ m, n < m → m ≤ k → inB b (s.data.toList.take m) = false)) (fun nv => (intOf nv).toNat)
      case atStart => exact ⟨k, rfl, Nat.le_refl _, fun m a c => by omega⟩
      case round =>
        obtain ⟨n, rfl, hnk, HM⟩ := hrel
        by_cases hz : n = 0
        · subst hz
          have hL : bgL b s.data.toList = 0 := (HBG.out.uniq (n := 0) (fun m a c => HM.out m a (by rw [← HLD.out]; exact c)) (by omega) (Or.inl rfl)).symm
          have HX : Hid (pxX b s.data.toList = 0 ∧ pxE b s.data.toList = 3) := ⟨by unfold pxX; rw [hL, if_neg (by omega)], by unfold pxE; rw [hL, if_neg (by omega)]⟩
          rw [← HT.out.1, ← HT.out.2.1] at HX
          have HL' : Hid (L = 0) := by show _ = _; rw [← hL, HT.out.2.2]
          clear HM hL
          go_wp2
          go_ret3
          exact ⟨by rw [HX.out.1, HX.out.2, HL'.out]; rfl, Below.refl _ _⟩
        · have hn0 : (0 : Int) < (n : Int) := by omega
          have hsl : (s.extract 0 n).data.toList = s.data.toList.take n := by rw [ls_slice s (Nat.zero_le _), List.drop_zero]
          have hsn : (s.extract 0 n).size ≤ 9223372036854775806 := by rw [ByteArray.size_extract]; omega
          have IN := fun W => in_any (s.extract 0 n) hsn b HRB.out W
          rw [hsl] at IN
          have hns : ¬ (s.size : Int) < (n : Int) := by omega
          cases A : inB b (s.data.toList.take n) with
          | false =>
            rw [A] at IN
            have HM2 : Hid (∀ m, n - 1 < m → m ≤ k → inB b (s.data.toList.take m) = false) := fun m a c => by
              by_cases y : m = n
              · rw [y]; exact A
              · exact HM.out m (by omega) c
            clear HM A hsl hsn
            go_wp2_with fail
            refine (IN _).mono ?_
            rintro e w ⟨rfl, rfl⟩
            go_wp2
            go_round
            case rel => exact ⟨n - 1, by go_num, by omega, HM2⟩
            case measure => simp [intOf] <;> omega
          | true =>
            rw [A] at IN
            have hL : bgL b s.data.toList = n := (HBG.out.uniq (n := n) (fun m a c => HM.out m a (by rw [← HLD.out]; exact c)) (by rw [HLD.out]; exact hnk) (Or.inr A)).symm
            have hok : ∀ c ∈ (s.extract 0 n).data.toList, okc c = true := by
              rw [hsl, ← hL]
              exact lead_ok s.data.toList _ HBG.out.ld
            have VL := fun W => rval_any (s.extract 0 n) hsn b HRB.out hok W
            rw [hsl] at VL
            have e := px_same HRB.out (l := s.data.toList) (by rw [hL]; omega)
            rw [hL] at e
            rw [e] at VL
            have HL' : Hid (L = n) := by show _ = _; rw [← hL, HT.out.2.2]
            have hp : 0 < bgL b s.data.toList := by rw [hL]; omega
            have hnz : ((n : Int) == 0) = false := beq_eq_false_iff_ne.mpr (by omega)
            by_cases z : pxN b s.data.toList < 18446744073709551616
            · have HX : Hid (X = pxN b s.data.toList ∧ E = 0) := ⟨by rw [HT.out.1]; unfold pxX; rw [if_pos hp, if_pos z], by rw [HT.out.2.1]; unfold pxE; rw [if_pos hp, if_pos z]⟩
              rw [rvV_in z] at VL
              clear HM A hsl hsn hok e hL hp z HT
              generalize pxN b s.data.toList = N at *
              go_wp2_with fail
              refine (IN _).mono ?_
              rintro e w ⟨rfl, rfl⟩
              go_wp2_with fail
              refine (VL _).mono ?_
              rintro e w1 ⟨rfl, b1⟩
              have B1 : Hid (Below w.heap.size w w1) := b1
              clear b1
              go_wp2
              go_ret3
              exact ⟨by rw [HX.out.1, HX.out.2, HL'.out]; rfl, B1.out⟩
            · have HX : Hid (X = 18446744073709551615 ∧ E = 4) := ⟨by rw [HT.out.1]; unfold pxX; rw [if_pos hp, if_neg z], by rw [HT.out.2.1]; unfold pxE; rw [if_pos hp, if_neg z]⟩
              rw [rvV_out z] at VL
              clear HM A hsl hsn hok e hL hp z HT
              go_wp2_with fail
              refine (IN _).mono ?_
              rintro e w ⟨rfl, rfl⟩
              go_wp2_with fail
              refine (VL _).mono ?_
              rintro e w1 ⟨rfl, b1⟩
              have B1 : Hid (Below w.heap.size w w1) := b1
              clear b1
              go_wp2
              go_ret3
              exact ⟨by rw [HX.out.1, HX.out.2, HL'.out]; rfl, B1.out⟩
    · have hlt' : (k : Int) < (s.size : Int) := by omega
      have HN : Hid (lead s.data.toList = (k + 1) + lead (s.data.toList.drop (k + 1))) := by
        show _ = _
        rw [HI.out, drop_at s hlt, lead_yes hx]; omega
      clear HI
      by_cases q : ((s[k]'hlt).toNat : Int) = 95
      · clear hx
        go_wp2
        go_round
        case rel => exact ⟨k + 1, by go_num, by omega, HN⟩
        case measure => simp [intOf] <;> omega
      · have q' : (((s[k]'hlt).toNat : Int) == 95) = false := beq_eq_false_iff_ne.mpr q
        have hd := okc_dig hx q
        have hd' : (dv (s[k]'hlt).toNat : Int) < 36 := by omega
        have DC := rdig_any (s[k]'hlt).toNat (UInt8.toNat_lt _)
        clear hx hd
        generalize dv (s[k]'hlt).toNat = d at *
        go_wp2_with fail
        refine (DC _).mono ?_
        rintro e w ⟨rfl, rfl⟩
        go_wp2
        go_round
        case rel => exact ⟨k + 1, by go_num, by omega, HN⟩
        case measure => simp [intOf] <;> omega
set_option maxRecDepth 100000 in
set_option maxHeartbeats 2000000 in
theorem rprefix_base (s : ByteArray) (hs : s.size ≤ 140737488355328) (b : Nat) (h : readB b) (hz0 : b ≠ 0) (w : World) :
    Calls Tryd.prog 49 #[.string s, .int .i64 (b : Int)] w fun x w' => x = .returned (.tuple #[.int .u64 (pxX b s.data.toList : Int), .int .i64 (bgL b s.data.toList : Int), .int .i64 (pxE b s.data.toList : Int)]) ∧ Below w.heap.size w w' := by
  have HBG : Hid (Begin b s.data.toList) := begin_any h s.data.toList
  have HRB : Hid (readB b) := h
  obtain ⟨X, hX⟩ : ∃ X, X = pxX b s.data.toList := ⟨_, rfl⟩
  obtain ⟨E, hE⟩ : ∃ E, E = pxE b s.data.toList := ⟨_, rfl⟩
  obtain ⟨L, hL⟩ : ∃ L, L = bgL b s.data.toList := ⟨_, rfl⟩
  rw [← hX, ← hE, ← hL]
  have HT : Hid (X = pxX b s.data.toList ∧ E = pxE b s.data.toList ∧ L = bgL b s.data.toList) := ⟨hX, hE, hL⟩
  clear hX hE hL
  have hb0 : ((b : Int) != 0) = true := by simp; omega
  have BY := fun W => rbase_yes (b : Int) (by rcases h with q | q; exact absurd q hz0; omega) (by rcases h with q | q; exact absurd q hz0; omega) W
  clear hz0 h
  go_enter Tryd.func49, Tryd.ntmps49
  go_wp2_with fail
  refine (BY _).mono ?_
  rintro e w ⟨rfl, rfl⟩
  clear BY
  go_wp2
  go_loop [7] (fun nv => ∃ k : Nat, nv = .int .i64 (k : Int) ∧ k ≤ s.size ∧ Hid (lead s.data.toList = k + lead (s.data.toList.drop k))) (fun nv => s.size - (intOf nv).toNat)
  case atStart => exact ⟨0, rfl, Nat.zero_le _, by (show _ = _; rw [List.drop_zero]; omega)⟩
  case round =>
    obtain ⟨k, rfl, hk, HI⟩ := hrel
    have hexit : ¬ k < s.size ∨ (∃ h : k < s.size, okc (s[k]'h) = false) ∨ (∃ h : k < s.size, okc (s[k]'h) = true) := by
      by_cases h : k < s.size
      · cases q : okc (s[k]'h) with
        | true => exact Or.inr (Or.inr ⟨h, q⟩)
        | false => exact Or.inr (Or.inl ⟨h, q⟩)
      · exact Or.inl h
    rcases hexit with hx | ⟨hlt, hx⟩ | ⟨hlt, hx⟩
    · have hlt' : ¬ (k : Int) < (s.size : Int) := by omega
      have HLD : Hid (lead s.data.toList = k) := by
        show _ = _
        rw [HI.out, drop_end s hx]; rfl
      clear HI hx
      go_wp2
      go_loop [7] (fun nv => ∃ n : Nat, nv = .int .i64 (n : Int) ∧ n ≤ k ∧ Hid (∀ m, n < m → m ≤ k → inB b (s.data.toList.take m) = false)) (fun nv => (intOf nv).toNat)
      case atStart => exact ⟨k, rfl, Nat.le_refl _, fun m a c => by omega⟩
      case round =>
        obtain ⟨n, rfl, hnk, HM⟩ := hrel
        by_cases hz : n = 0
        · subst hz
          have hL : bgL b s.data.toList = 0 := (HBG.out.uniq (n := 0) (fun m a c => HM.out m a (by rw [← HLD.out]; exact c)) (by omega) (Or.inl rfl)).symm
          have HX : Hid (pxX b s.data.toList = 0 ∧ pxE b s.data.toList = 3) := ⟨by unfold pxX; rw [hL, if_neg (by omega)], by unfold pxE; rw [hL, if_neg (by omega)]⟩
          rw [← HT.out.1, ← HT.out.2.1] at HX
          have HL' : Hid (L = 0) := by show _ = _; rw [← hL, HT.out.2.2]
          clear HM hL
          go_wp2
          go_ret3
          exact ⟨by rw [HX.out.1, HX.out.2, HL'.out]; rfl, Below.refl _ _⟩
        · have hn0 : (0 : Int) < (n : Int) := by omega
          have hsl : (s.extract 0 n).data.toList = s.data.toList.take n := by rw [ls_slice s (Nat.zero_le _), List.drop_zero]
          have hsn : (s.extract 0 n).size ≤ 9223372036854775806 := by rw [ByteArray.size_extract]; omega
          have IN := fun W => in_any (s.extract 0 n) hsn b HRB.out W
          rw [hsl] at IN
          have hns : ¬ (s.size : Int) < (n : Int) := by omega
          cases A : inB b (s.data.toList.take n) with
          | false =>
            rw [A] at IN
            have HM2 : Hid (∀ m, n - 1 < m → m ≤ k → inB b (s.data.toList.take m) = false) := fun m a c => by
              by_cases y : m = n
              · rw [y]; exact A
              · exact HM.out m (by omega) c
            clear HM A hsl hsn
            go_wp2_with fail
            refine (IN _).mono ?_
            rintro e w ⟨rfl, rfl⟩
            go_wp2
            go_round
            case rel => exact ⟨n - 1, by go_num, by omega, HM2⟩
            case measure => simp [intOf] <;> omega
          | true =>
            rw [A] at IN
            have hL : bgL b s.data.toList = n := (HBG.out.uniq (n := n) (fun m a c => HM.out m a (by rw [← HLD.out]; exact c)) (by rw [HLD.out]; exact hnk) (Or.inr A)).symm
            have hok : ∀ c ∈ (s.extract 0 n).data.toList, okc c = true := by
              rw [hsl, ← hL]
              exact lead_ok s.data.toList _ HBG.out.ld
            have VL := fun W => rval_any (s.extract 0 n) hsn b HRB.out hok W
            rw [hsl] at VL
            have e := px_same HRB.out (l := s.data.toList) (by rw [hL]; omega)
            rw [hL] at e
            rw [e] at VL
            have HL' : Hid (L = n) := by show _ = _; rw [← hL, HT.out.2.2]
            have hp : 0 < bgL b s.data.toList := by rw [hL]; omega
            have hnz : ((n : Int) == 0) = false := beq_eq_false_iff_ne.mpr (by omega)
            by_cases z : pxN b s.data.toList < 18446744073709551616
            · have HX : Hid (X = pxN b s.data.toList ∧ E = 0) := ⟨by rw [HT.out.1]; unfold pxX; rw [if_pos hp, if_pos z], by rw [HT.out.2.1]; unfold pxE; rw [if_pos hp, if_pos z]⟩
              rw [rvV_in z] at VL
              clear HM A hsl hsn hok e hL hp z HT
              generalize pxN b s.data.toList = N at *
              go_wp2_with fail
              refine (IN _).mono ?_
              rintro e w ⟨rfl, rfl⟩
              go_wp2_with fail
              refine (VL _).mono ?_
              rintro e w1 ⟨rfl, b1⟩
              have B1 : Hid (Below w.heap.size w w1) := b1
              clear b1
              go_wp2
              go_ret3
              exact ⟨by rw [HX.out.1, HX.out.2, HL'.out]; rfl, B1.out⟩
            · have HX : Hid (X = 18446744073709551615 ∧ E = 4) := ⟨by rw [HT.out.1]; unfold pxX; rw [if_pos hp, if_neg z], by rw [HT.out.2.1]; unfold pxE; rw [if_pos hp, if_neg z]⟩
              rw [rvV_out z] at VL
              clear HM A hsl hsn hok e hL hp z HT
              go_wp2_with fail
              refine (IN _).mono ?_
              rintro e w ⟨rfl, rfl⟩
              go_wp2_with fail
              refine (VL _).mono ?_
              rintro e w1 ⟨rfl, b1⟩
              have B1 : Hid (Below w.heap.size w w1) := b1
              clear b1
              go_wp2
              go_ret3
              exact ⟨by rw [HX.out.1, HX.out.2, HL'.out]; rfl, B1.out⟩
    · have hlt' : (k : Int) < (s.size : Int) := by omega
      have HLD : Hid (lead s.data.toList = k) := by
        show _ = _
        rw [HI.out, drop_at s hlt, lead_no hx]; rfl
      have o1 : ¬ ((s[k]'hlt).toNat : Int) = 95 := fun z => by rw [bar_of z] at hx; exact absurd hx (by decide)
      have o2 : ¬ dv (s[k]'hlt).toNat < 36 := fun z => by rw [show okc (s[k]'hlt) = true from decide_eq_true (Or.inr z)] at hx; cases hx
      have o1' : (((s[k]'hlt).toNat : Int) == 95) = false := beq_eq_false_iff_ne.mpr o1
      have DC := rdig_any (s[k]'hlt).toNat (UInt8.toNat_lt _)
      have o3 : ¬ (dv (s[k]'hlt).toNat : Int) < 36 := by omega
      clear HI hx o2
      generalize dv (s[k]'hlt).toNat = d at *
      go_wp2_with fail
      refine (DC _).mono ?_
      rintro e w ⟨rfl, rfl⟩
      clear DC
      go_wp2
      go_loop [7] (fun nv => ∃ n : Nat, nv = .int .i64 (n : Int) ∧ n ≤ k ∧ Hid (∀ m, n < m → m ≤ k → inB b (s.data.toList.take m) = false)) (fun nv => (intOf nv).toNat)
      case atStart => exact ⟨k, rfl, Nat.le_refl _, fun m a c => by omega⟩
      case round =>
        obtain ⟨n, rfl, hnk, HM⟩ := hrel
        by_cases hz : n = 0
        · subst hz
          have hL : bgL b s.data.toList = 0 := (HBG.out.uniq (n := 0) (fun m a c => HM.out m a (by rw [← HLD.out]; exact c)) (by omega) (Or.inl rfl)).symm
          have HX : Hid (pxX b s.data.toList = 0 ∧ pxE b s.data.toList = 3) := ⟨by unfold pxX; rw [hL, if_neg (by omega)], by unfold pxE; rw [hL, if_neg (by omega)]⟩
          rw [← HT.out.1, ← HT.out.2.1] at HX
          have HL' : Hid (L = 0) := by show _ = _; rw [← hL, HT.out.2.2]
          clear HM hL
          go_wp2
          go_ret3
          exact ⟨by rw [HX.out.1, HX.out.2, HL'.out]; rfl, Below.refl _ _⟩
        · have hn0 : (0 : Int) < (n : Int) := by omega
          have hsl : (s.extract 0 n).data.toList = s.data.toList.take n := by rw [ls_slice s (Nat.zero_le _), List.drop_zero]
          have hsn : (s.extract 0 n).size ≤ 9223372036854775806 := by rw [ByteArray.size_extract]; omega
          have IN := fun W => in_any (s.extract 0 n) hsn b HRB.out W
          rw [hsl] at IN
          have hns : ¬ (s.size : Int) < (n : Int) := by omega
          cases A : inB b (s.data.toList.take n) with
          | false =>
            rw [A] at IN
            have HM2 : Hid (∀ m, n - 1 < m → m ≤ k → inB b (s.data.toList.take m) = false) := fun m a c => by
              by_cases y : m = n
              · rw [y]; exact A
              · exact HM.out m (by omega) c
            clear HM A hsl hsn
            go_wp2_with fail
            refine (IN _).mono ?_
            rintro e w ⟨rfl, rfl⟩
            go_wp2
            go_round
            case rel => exact ⟨n - 1, by go_num, by omega, HM2⟩
            case measure => simp [intOf] <;> omega
          | true =>
            rw [A] at IN
            have hL : bgL b s.data.toList = n := (HBG.out.uniq (n := n) (fun m a c => HM.out m a (by rw [← HLD.out]; exact c)) (by rw [HLD.out]; exact hnk) (Or.inr A)).symm
            have hok : ∀ c ∈ (s.extract 0 n).data.toList, okc c = true := by
              rw [hsl, ← hL]
              exact lead_ok s.data.toList _ HBG.out.ld
            have VL := fun W => rval_any (s.extract 0 n) hsn b HRB.out hok W
            rw [hsl] at VL
            have e := px_same HRB.out (l := s.data.toList) (by rw [hL]; omega)
            rw [hL] at e
            rw [e] at VL
            have HL' : Hid (L = n) := by show _ = _; rw [← hL, HT.out.2.2]
            have hp : 0 < bgL b s.data.toList := by rw [hL]; omega
            have hnz : ((n : Int) == 0) = false := beq_eq_false_iff_ne.mpr (by omega)
            by_cases z : pxN b s.data.toList < 18446744073709551616
            · have HX : Hid (X = pxN b s.data.toList ∧ E = 0) := ⟨by rw [HT.out.1]; unfold pxX; rw [if_pos hp, if_pos z], by rw [HT.out.2.1]; unfold pxE; rw [if_pos hp, if_pos z]⟩
              rw [rvV_in z] at VL
              clear HM A hsl hsn hok e hL hp z HT
              generalize pxN b s.data.toList = N at *
              go_wp2_with fail
              refine (IN _).mono ?_
              rintro e w ⟨rfl, rfl⟩
              go_wp2_with fail
              refine (VL _).mono ?_
              rintro e w1 ⟨rfl, b1⟩
              have B1 : Hid (Below w.heap.size w w1) := b1
              clear b1
              go_wp2
              go_ret3
              exact ⟨by rw [HX.out.1, HX.out.2, HL'.out]; rfl, B1.out⟩
            · have HX : Hid (X = 18446744073709551615 ∧ E = 4) := ⟨by rw [HT.out.1]; unfold pxX; rw [if_pos hp, if_neg z], by rw [HT.out.2.1]; unfold pxE; rw [if_pos hp, if_neg z]⟩
              rw [rvV_out z] at VL
              clear HM A hsl hsn hok e hL hp z HT
              go_wp2_with fail
              refine (IN _).mono ?_
              rintro e w ⟨rfl, rfl⟩
              go_wp2_with fail
              refine (VL _).mono ?_
              rintro e w1 ⟨rfl, b1⟩
              have B1 : Hid (Below w.heap.size w w1) := b1
              clear b1
              go_wp2
              go_ret3
              exact ⟨by rw [HX.out.1, HX.out.2, HL'.out]; rfl, B1.out⟩
    · have hlt' : (k : Int) < (s.size : Int) := by omega
      have HN : Hid (lead s.data.toList = (k + 1) + lead (s.data.toList.drop (k + 1))) := by
        show _ = _
        rw [HI.out, drop_at s hlt, lead_yes hx]; omega
      clear HI
      by_cases q : ((s[k]'hlt).toNat : Int) = 95
      · clear hx
        go_wp2
        go_round
        case rel => exact ⟨k + 1, by go_num, by omega, HN⟩
        case measure => simp [intOf] <;> omega
      · have q' : (((s[k]'hlt).toNat : Int) == 95) = false := beq_eq_false_iff_ne.mpr q
        have hd := okc_dig hx q
        have hd' : (dv (s[k]'hlt).toNat : Int) < 36 := by omega
        have DC := rdig_any (s[k]'hlt).toNat (UInt8.toNat_lt _)
        clear hx hd
        generalize dv (s[k]'hlt).toNat = d at *
        go_wp2_with fail
        refine (DC _).mono ?_
        rintro e w ⟨rfl, rfl⟩
        go_wp2
        go_round
        case rel => exact ⟨k + 1, by go_num, by omega, HN⟩
        case measure => simp [intOf] <;> omega
theorem rprefix_yes (s : ByteArray) (hs : s.size ≤ 140737488355328) (b : Nat) (h : readB b) (w : World) :
    Calls Tryd.prog 49 #[.string s, .int .i64 (b : Int)] w fun x w' => x = .returned (.tuple #[.int .u64 (pxX b s.data.toList : Int), .int .i64 (bgL b s.data.toList : Int), .int .i64 (pxE b s.data.toList : Int)]) ∧ Below w.heap.size w w' := by
  by_cases z : b = 0
  · exact rprefix_zero s hs b h z w
  · exact rprefix_base s hs b h z w
end Go.Proofs.YthjflphfjemanaaDoor
