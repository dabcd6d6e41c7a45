/-
  The document's Make of at most 800 digits whose first one is not 0; its next, digit by digit.
-/
import Derived.Test.YtladeppjccfbhaaDoorDecR
namespace Go.Proofs.YtladeppjccfbhaaDoor
open Go.RowKit

theorem ba_ext {a b : ByteArray} (h : a.size = b.size) (hd : ∀ i, i < a.size → dgt a i = dgt b i) : a = b := by
  apply ByteArray.ext
  apply Array.ext
  · exact h
  · intro i h1 h2
    have q := hd i h1
    rw [dgt_lt (s := a) h1, dgt_lt (s := b) h2] at q
    exact UInt8.toNat_inj.mp q

theorem upS_size {s : ByteArray} {m : Nat} (h0 : 0 < m) (hm : m ≤ s.size) : (upS s m).size = m := by
  unfold upS
  rw [ByteArray.size_append, pre_size (by omega), strOfNums_size]
  simp
  omega
theorem upS_dgt {s : ByteArray} (hd : DG s) {m : Nat} (h0 : 0 < m) (hm : m ≤ s.size) : (∀ j, j < m - 1 → dgt (upS s m) j = dgt s j) ∧ dgt (upS s m) (m - 1) = dgt s (m - 1) + 1 := by
  have z := upS_size h0 hm
  have zr : (s.extract 0 (m - 1)).size = m - 1 := pre_size (by omega)
  have b := dgt_in hd (m - 1)
  refine ⟨fun j hj => ?_, ?_⟩
  · rw [dgt_lt (by omega), ← pre_dgt (s := s) (k := m - 1) (by omega) hj, dgt_lt (s := s.extract 0 (m - 1)) (by omega)]
    unfold upS
    rw [ByteArray.getElem_append_left]
  · rw [dgt_lt (by omega)]
    unfold upS
    rw [ByteArray.getElem_append_right (by omega)]
    have q := (nums_dgt (fun _ => dgt s (m - 1) + 1) 1 (fun _ _ => by omega)).2 0 (by omega)
    have e : ((List.range 1).map fun i => (((fun _ => dgt s (m - 1) + 1) i : Nat) : Int)) = [((dgt s (m - 1) + 1 : Nat) : Int)] := rfl
    rw [e, dgt_lt (by rw [strOfNums_size]; simp)] at q
    simp only [zr, Nat.sub_self]
    exact q

set_option maxRecDepth 100000 in
set_option maxHeartbeats 1000000 in
theorem rmake_ok {s : ByteArray} {p : Int} (h0 : 0 < s.size) (hl : s.size ≤ 800) (hd : DG s) (hf : dgt s 0 ≠ 48) {m : Nat} (hm : m ≤ s.size) (m0 : 0 < m) (h1 : ∀ i, m ≤ i → i < s.size → dgt s i = 48) (h2 : dgt s (m - 1) ≠ 48)
    (hp : -1099511627776 ≤ p) (hp' : p ≤ 1099511627776) (w : World) :
    Calls Tryd.prog 53 #[.string s, .int .i64 p, .bool false] w fun e w' => e = .returned (.tuple #[dcV (s.extract 0 m) p false, .int .i64 0]) ∧ Below w.heap.size w w' := by
  have D := fun W => rdig_yes s (by omega) hd W
  have x0 : ((((s[0]'h0).toNat : Nat) : Int) == 48) = false := beq_eq_false_iff_ne.mpr (by rw [dgt_lt h0] at hf; omega)
  have H1 : Hid (∀ i, m ≤ i → i < s.size → dgt s i = 48) := h1
  have H2 : Hid (dgt s (m - 1) ≠ 48) := h2
  have l8 : ¬ (800 : Int) < (s.size : Int) := by omega
  clear h1 h2 hd hf
  unfold dcV at *
  go_enter Tryd.func53, Tryd.ntmps53
  go_wp2_with fail
  refine (D _).mono ?_
  rintro e w0 ⟨rfl, rfl⟩
  go_wp2
  go_loop [8] (fun iv => iv = .int .i64 0) (fun _ => 0)
  case atStart => rfl
  case round =>
    subst hrel
    go_wp2
    go_loop [0] (fun v => ∃ k, v = .string (s.extract 0 k) ∧ m ≤ k ∧ k ≤ s.size) (fun v => textLen v)
    case atStart => exact ⟨s.size, by rw [ext_zero], hm, Nat.le_refl _⟩
    case round =>
      obtain ⟨k, rfl, hk1, hk2⟩ := hrel
      have sz := pre_size hk2
      by_cases c1 : m < k
      · obtain ⟨j, rfl⟩ : ∃ j, k = j + 1 := ⟨k - 1, by omega⟩
        have e0 := pre_get (s := s) hk2 (show j < j + 1 by omega)
        have e9 := H1.out j (by omega) (by omega)
        rw [dgt_lt (by omega)] at e9
        rw [e9] at e0
        clear e9
        have cut := pre_cut (s := s) (k := j)
        have HC : Hid ((s.extract 0 j).size = j) := pre_size (by omega)
        obtain ⟨T2, hT2⟩ : ∃ T, s.extract 0 j = T := ⟨_, rfl⟩
        obtain ⟨T, hT⟩ : ∃ T, s.extract 0 (j + 1) = T := ⟨_, rfl⟩
        rw [hT2] at cut
        rw [hT] at sz cut e0 ⊢
        have HT : Hid (s.extract 0 j = T2) := hT2
        have HSZ : Hid (T.size = j + 1) := sz
        have hpos : 0 < T.size := by omega
        have hbig : T.size ≤ 9223372036854775807 := by omega
        have ix : ((T.size : Int) - 1).toNat = j := by omega
        have ix2 : (T.size : Int) - 1 = (j : Int) := by omega
        have hj : j < T.size := by omega
        have e1 := e0 hj
        have hTj : (T.size : Int) = (j : Int) + 1 := by omega
        clear hT hT2 sz
        go_wp2
        go_round
        case rel => exact ⟨j, by rw [HT.out], by omega, by omega⟩
        case measure =>
          show T2.size < T.size
          have a := HC.out
          rw [HT.out] at a
          have b := HSZ.out
          omega
      · obtain rfl : k = m := by omega
        have e0 := pre_get (s := s) hk2 (show k - 1 < k by omega)
        have e9 := H2.out
        rw [dgt_lt (by omega)] at e9
        have cE : (((((s[k - 1]'(by omega)).toNat : Nat) : Int)) == 48) = false := beq_eq_false_iff_ne.mpr (by omega)
        obtain ⟨z, hz⟩ : ∃ z, z = (s[k - 1]'(by omega)).toNat := ⟨_, rfl⟩
        rw [← hz] at e0 cE
        clear e9 hz
        obtain ⟨T, hT⟩ : ∃ T, s.extract 0 k = T := ⟨_, rfl⟩
        rw [hT] at sz e0 ⊢
        have hj : k - 1 < T.size := by omega
        have e1 := e0 hj
        have ix : ((T.size : Int) - 1).toNat = k - 1 := by omega
        have ix3 : ((k : Int) - 1).toNat = k - 1 := by omega
        have hTj : (T.size : Int) = (k : Int) := by omega
        have hpos : 0 < T.size := by omega
        have tz : ((T.size : Int) == 0) = false := beq_eq_false_iff_ne.mpr (by omega)
        have HTT : Hid (s.extract 0 k = T) := hT
        clear hT
        have p1 : ¬ p < -1099511627776 := by omega
        have p2 : ¬ 1099511627776 < p := by omega
        go_wp2
        refine bodyPost_ret (v := .tuple #[.agg #[.string T, .int .i64 p, .bool false], .int .i64 0]) (by simp [results, Tryd.results53, go_sem]) rfl ⟨by rw [HTT.out], ?_⟩
        exact (Below.refl _ _).alloc (Nat.le_refl _) _

set_option maxRecDepth 100000 in
set_option maxHeartbeats 1000000 in
theorem rmake_big {s : ByteArray} (h0 : 0 < s.size) (hl : s.size ≤ 800) (hd : DG s) (hf : dgt s 0 ≠ 48) {m : Nat} (hm : m ≤ s.size) (m0 : 0 < m) (h1 : ∀ i, m ≤ i → i < s.size → dgt s i = 48) (h2 : dgt s (m - 1) ≠ 48)
    (w : World) :
    Calls Tryd.prog 53 #[.string s, .int .i64 1099511627777, .bool false] w fun e w' => e = .returned (.tuple #[dcV ⟨#[]⟩ 0 false, .int .i64 4]) ∧ Below w.heap.size w w' := by
  have D := fun W => rdig_yes s (by omega) hd W
  have x0 : ((((s[0]'h0).toNat : Nat) : Int) == 48) = false := beq_eq_false_iff_ne.mpr (by rw [dgt_lt h0] at hf; omega)
  have H1 : Hid (∀ i, m ≤ i → i < s.size → dgt s i = 48) := h1
  have H2 : Hid (dgt s (m - 1) ≠ 48) := h2
  have l8 : ¬ (800 : Int) < (s.size : Int) := by omega
  clear h1 h2 hd hf
  unfold dcV at *
  go_enter Tryd.func53, Tryd.ntmps53
  go_wp2_with fail
  refine (D _).mono ?_
  rintro e w0 ⟨rfl, rfl⟩
  go_wp2
  go_loop [8] (fun iv => iv = .int .i64 0) (fun _ => 0)
  case atStart => rfl
  case round =>
    subst hrel
    go_wp2
    go_loop [0] (fun v => ∃ k, v = .string (s.extract 0 k) ∧ m ≤ k ∧ k ≤ s.size) (fun v => textLen v)
    case atStart => exact ⟨s.size, by rw [ext_zero], hm, Nat.le_refl _⟩
    case round =>
      obtain ⟨k, rfl, hk1, hk2⟩ := hrel
      have sz := pre_size hk2
      by_cases c1 : m < k
      · obtain ⟨j, rfl⟩ : ∃ j, k = j + 1 := ⟨k - 1, by omega⟩
        have e0 := pre_get (s := s) hk2 (show j < j + 1 by omega)
        have e9 := H1.out j (by omega) (by omega)
        rw [dgt_lt (by omega)] at e9
        rw [e9] at e0
        clear e9
        have cut := pre_cut (s := s) (k := j)
        have HC : Hid ((s.extract 0 j).size = j) := pre_size (by omega)
        obtain ⟨T2, hT2⟩ : ∃ T, s.extract 0 j = T := ⟨_, rfl⟩
        obtain ⟨T, hT⟩ : ∃ T, s.extract 0 (j + 1) = T := ⟨_, rfl⟩
        rw [hT2] at cut
        rw [hT] at sz cut e0 ⊢
        have HT : Hid (s.extract 0 j = T2) := hT2
        have HSZ : Hid (T.size = j + 1) := sz
        have hpos : 0 < T.size := by omega
        have hbig : T.size ≤ 9223372036854775807 := by omega
        have ix : ((T.size : Int) - 1).toNat = j := by omega
        have ix2 : (T.size : Int) - 1 = (j : Int) := by omega
        have hj : j < T.size := by omega
        have e1 := e0 hj
        have hTj : (T.size : Int) = (j : Int) + 1 := by omega
        clear hT hT2 sz
        go_wp2
        go_round
        case rel => exact ⟨j, by rw [HT.out], by omega, by omega⟩
        case measure =>
          show T2.size < T.size
          have a := HC.out
          rw [HT.out] at a
          have b := HSZ.out
          omega
      · obtain rfl : k = m := by omega
        have e0 := pre_get (s := s) hk2 (show k - 1 < k by omega)
        have e9 := H2.out
        rw [dgt_lt (by omega)] at e9
        have cE : (((((s[k - 1]'(by omega)).toNat : Nat) : Int)) == 48) = false := beq_eq_false_iff_ne.mpr (by omega)
        obtain ⟨z, hz⟩ : ∃ z, z = (s[k - 1]'(by omega)).toNat := ⟨_, rfl⟩
        rw [← hz] at e0 cE
        clear e9 hz
        obtain ⟨T, hT⟩ : ∃ T, s.extract 0 k = T := ⟨_, rfl⟩
        rw [hT] at sz e0 ⊢
        have hj : k - 1 < T.size := by omega
        have e1 := e0 hj
        have ix : ((T.size : Int) - 1).toNat = k - 1 := by omega
        have ix3 : ((k : Int) - 1).toNat = k - 1 := by omega
        have hTj : (T.size : Int) = (k : Int) := by omega
        have hpos : 0 < T.size := by omega
        have tz : ((T.size : Int) == 0) = false := beq_eq_false_iff_ne.mpr (by omega)
        clear hT
        go_wp2
        refine bodyPost_ret (v := .tuple #[.agg #[.string ⟨#[]⟩, .int .i64 0, .bool false], .int .i64 4]) (by simp [results, Tryd.results53, go_sem]) rfl ⟨rfl, ?_⟩
        exact (Below.refl _ _).alloc (Nat.le_refl _) _

end Go.Proofs.YtladeppjccfbhaaDoor
