/-
  The document's Make for every text of at most 801 digits, noughts ahead or not.
-/
import Derived.Test.YtladeppjccfbhaaDoorDecP
namespace Go.Proofs.YtladeppjccfbhaaDoor
open Go.RowKit

theorem sub_dgt {t : ByteArray} {z : Nat} (hz : z ≤ t.size) {i : Nat} : dgt (t.extract z t.size) i = dgt t (z + i) := by
  have e := ext_size hz
  unfold dgt
  by_cases h : i < t.size - z
  · rw [dif_pos (by omega), dif_pos (by omega)]
    rw [ByteArray.getElem_extract]
  · rw [dif_neg (by omega), dif_neg (by omega)]

/-- A number's place lies within the bounds. -/
def inR (p : Int) (z : Nat) : Prop := (z : Int) - 1099511627776 ≤ p ∧ p ≤ 1099511627776 + (z : Int)

set_option maxRecDepth 100000 in
set_option maxHeartbeats 1000000 in
theorem rmake_zero {t : ByteArray} {p : Int} (hl : t.size ≤ 801) (hd : DG t) {z : Nat} (hz : z = t.size) (hz1 : ∀ i, i < z → dgt t i = 48) (w : World) :
    Calls Tryd.prog 53 #[.string t, .int .i64 p, .bool false] w fun e w' => e = .returned (.tuple #[dcV ⟨#[]⟩ 0 false, .int .i64 0]) ∧ Below w.heap.size w w' := by
  unfold dcV
  have D := fun W => rdig_yes t (by omega) hd W
  have HZ : Hid (∀ i, i < z → dgt t i = 48) := hz1
  go_enter Tryd.func53, Tryd.ntmps53
  go_wp2_with fail
  refine (D _).mono ?_
  rintro e w0 ⟨rfl, rfl⟩
  go_wp2
  go_loop [8] (fun iv => ∃ k : Nat, iv = .int .i64 (k : Int) ∧ k ≤ z) (fun iv => z - (intOf iv).toNat)
  case atStart => exact ⟨0, rfl, Nat.zero_le _⟩
  case round =>
    obtain ⟨k, rfl, hk⟩ := hrel
    by_cases c0 : k < z
    · have hks : k < t.size := by omega
      have x0 : ((((t[k]'hks).toNat : Nat) : Int) == 48) = true := beq_iff_eq.mpr (by have := HZ.out k c0; rw [dgt_lt hks] at this; omega)
      have i0 : (k : Int) < (t.size : Int) := by omega
      have i1 : (0 : Int) ≤ (k : Int) := by omega
      have wk : IntKind.i64.wrap ((k : Int) + 1) = (k : Int) + 1 := by
        unfold IntKind.wrap
        simp [IntKind.bits, IntKind.signed]
        omega
      go_wp2
      go_round
      case rel => exact ⟨k + 1, by go_num, by omega⟩
      case measure => simp [intOf] <;> omega
    · obtain rfl : z = k := by omega
      have i0 : ¬ (z : Int) < (t.size : Int) := by omega
      have u0 : t.extract z t.size = ⟨#[]⟩ := by
        have e := ext_size (s := t) (k := z) (by omega)
        apply size_zero
        omega
      have i2 : (z : Int) ≤ (t.size : Int) := by omega
      have i3 : (0 : Int) ≤ (z : Int) := by omega
      go_wp2
      go_loop [0] (fun v => v = .string ⟨#[]⟩) (fun _ => 0)
      case atStart => rfl
      case round =>
        subst hrel
        go_wp2
        refine bodyPost_ret (v := .tuple #[.agg #[.string ⟨#[]⟩, .int .i64 0, .bool false], .int .i64 0]) (by simp [results, Tryd.results53, go_sem]) rfl ⟨rfl, ?_⟩
        exact (Below.refl _ _).alloc (Nat.le_refl _) _

set_option maxRecDepth 100000 in
set_option maxHeartbeats 1000000 in
theorem rmake_in {t : ByteArray} {p : Int} (hl : t.size ≤ 801) (hd : DG t) {z : Nat} (hz : z < t.size) (hz1 : ∀ i, i < z → dgt t i = 48) (hz2 : dgt t z ≠ 48) {u : ByteArray} (hu : t.extract z t.size = u) (hl8 : u.size ≤ 800)
    {m : Nat} (hm : m ≤ u.size) (m0 : 0 < m) (h1 : ∀ i, m ≤ i → i < u.size → dgt u i = 48) (h2 : dgt u (m - 1) ≠ 48) (hp0 : -1099511627776 ≤ p) (hp9 : p ≤ 2199023255552) (hr : inR p z) (w : World) :
    Calls Tryd.prog 53 #[.string t, .int .i64 p, .bool false] w fun e w' => e = .returned (.tuple #[dcV (u.extract 0 m) (p - (z : Int)) false, .int .i64 0]) ∧ Below w.heap.size w w' := by
  have H1 : Hid (∀ i, m ≤ i → i < u.size → dgt u i = 48) := h1
  have H2 : Hid (dgt u (m - 1) ≠ 48) := h2
  have HZ2 : Hid (dgt t z ≠ 48) := hz2
  have HR : Hid (inR p z) := hr
  have uz : u.size = t.size - z := by rw [← hu]; exact ext_size (by omega)
  clear h1 h2 hz2 hr
  unfold dcV
  have D := fun W => rdig_yes t (by omega) hd W
  have HZ : Hid (∀ i, i < z → dgt t i = 48) := hz1
  go_enter Tryd.func53, Tryd.ntmps53
  go_wp2_with fail
  refine (D _).mono ?_
  rintro e w0 ⟨rfl, rfl⟩
  go_wp2
  go_loop [8] (fun iv => ∃ k : Nat, iv = .int .i64 (k : Int) ∧ k ≤ z) (fun iv => z - (intOf iv).toNat)
  case atStart => exact ⟨0, rfl, Nat.zero_le _⟩
  case round =>
    obtain ⟨k, rfl, hk⟩ := hrel
    by_cases c0 : k < z
    · have hks : k < t.size := by omega
      have x0 : ((((t[k]'hks).toNat : Nat) : Int) == 48) = true := beq_iff_eq.mpr (by have := HZ.out k c0; rw [dgt_lt hks] at this; omega)
      have i0 : (k : Int) < (t.size : Int) := by omega
      have i1 : (0 : Int) ≤ (k : Int) := by omega
      have wk : IntKind.i64.wrap ((k : Int) + 1) = (k : Int) + 1 := by
        unfold IntKind.wrap
        simp [IntKind.bits, IntKind.signed]
        omega
      go_wp2
      go_round
      case rel => exact ⟨k + 1, by go_num, by omega⟩
      case measure => simp [intOf] <;> omega
    · obtain rfl : z = k := by omega
      have x0 : ((((t[z]'hz).toNat : Nat) : Int) == 48) = false := beq_eq_false_iff_ne.mpr (by have := HZ2.out; rw [dgt_lt hz] at this; omega)
      have i0 : (z : Int) < (t.size : Int) := by omega
      have i1 : (0 : Int) ≤ (z : Int) := by omega
      have i2 : (z : Int) ≤ (t.size : Int) := by omega
      have l8 : ¬ (800 : Int) < (u.size : Int) := by omega
      have wz : IntKind.i64.wrap (1099511627776 + (z : Int)) = 1099511627776 + (z : Int) := by
        unfold IntKind.wrap
        simp [IntKind.bits, IntKind.signed]
        omega
      have wq : IntKind.i64.wrap (p - (z : Int)) = p - (z : Int) := by
        unfold IntKind.wrap
        simp [IntKind.bits, IntKind.signed]
        omega
      go_wp2
      go_loop [0] (fun v => ∃ k, v = .string (u.extract 0 k) ∧ m ≤ k ∧ k ≤ u.size) (fun v => textLen v)
      case atStart => exact ⟨u.size, by rw [ext_zero], hm, Nat.le_refl _⟩
      case round =>
        obtain ⟨k, rfl, hk1, hk2⟩ := hrel
        have sz := pre_size hk2
        by_cases c1 : m < k
        · obtain ⟨j, rfl⟩ : ∃ j, k = j + 1 := ⟨k - 1, by omega⟩
          have e0 := pre_get (s := u) hk2 (show j < j + 1 by omega)
          have e9 := H1.out j (by omega) (by omega)
          rw [dgt_lt (by omega)] at e9
          rw [e9] at e0
          clear e9
          have cut := pre_cut (s := u) (k := j)
          have HC : Hid ((u.extract 0 j).size = j) := pre_size (by omega)
          obtain ⟨T2, hT2⟩ : ∃ T, u.extract 0 j = T := ⟨_, rfl⟩
          obtain ⟨T, hT⟩ : ∃ T, u.extract 0 (j + 1) = T := ⟨_, rfl⟩
          rw [hT2] at cut
          rw [hT] at sz cut e0 ⊢
          have HT : Hid (u.extract 0 j = T2) := hT2
          have HSZ : Hid (T.size = j + 1) := sz
          have hpos : 0 < T.size := by omega
          have hbig : T.size ≤ 9223372036854775807 := by omega
          have ix : ((T.size : Int) - 1).toNat = j := by omega
          have ix2 : (T.size : Int) - 1 = (j : Int) := by omega
          have hj : j < T.size := by omega
          have e1 := e0 hj
          have hTj : (T.size : Int) = (j : Int) + 1 := by omega
          clear hT hT2 sz
          go_wp2
          go_round
          case rel => exact ⟨j, by rw [HT.out], by omega, by omega⟩
          case measure =>
            show T2.size < T.size
            have a := HC.out
            rw [HT.out] at a
            have b := HSZ.out
            omega
        · obtain rfl : k = m := by omega
          have e0 := pre_get (s := u) hk2 (show k - 1 < k by omega)
          have e9 := H2.out
          rw [dgt_lt (by omega)] at e9
          have cE : (((((u[k - 1]'(by omega)).toNat : Nat) : Int)) == 48) = false := beq_eq_false_iff_ne.mpr (by omega)
          obtain ⟨zc, hzc⟩ : ∃ zc, zc = (u[k - 1]'(by omega)).toNat := ⟨_, rfl⟩
          rw [← hzc] at e0 cE
          clear e9 hzc
          obtain ⟨T, hT⟩ : ∃ T, u.extract 0 k = T := ⟨_, rfl⟩
          rw [hT] at sz e0 ⊢
          have hj : k - 1 < T.size := by omega
          have e1 := e0 hj
          have ix : ((T.size : Int) - 1).toNat = k - 1 := by omega
          have ix3 : ((k : Int) - 1).toNat = k - 1 := by omega
          have hTj : (T.size : Int) = (k : Int) := by omega
          have hpos : 0 < T.size := by omega
          have tz : ((T.size : Int) == 0) = false := beq_eq_false_iff_ne.mpr (by omega)
          have HTT : Hid (u.extract 0 k = T) := hT
          clear hT
          have p1 : ¬ p < -1099511627776 := by omega
          have p2 : ¬ 1099511627776 + (z : Int) < p := by have := HR.out; unfold inR at this; omega
          have p3 : ¬ p - (z : Int) < -1099511627776 := by have := HR.out; unfold inR at this; omega
          go_wp2
          refine bodyPost_ret (v := .tuple #[.agg #[.string T, .int .i64 (p - (z : Int)), .bool false], .int .i64 0]) (by simp [results, Tryd.results53, go_sem]) rfl ⟨by rw [HTT.out], ?_⟩
          exact (Below.refl _ _).alloc (Nat.le_refl _) _

set_option maxRecDepth 100000 in
set_option maxHeartbeats 1000000 in
theorem rmake_out {t : ByteArray} {p : Int} (hl : t.size ≤ 801) (hd : DG t) {z : Nat} (hz : z < t.size) (hz1 : ∀ i, i < z → dgt t i = 48) (hz2 : dgt t z ≠ 48) {u : ByteArray} (hu : t.extract z t.size = u) (hl8 : u.size ≤ 800)
    {m : Nat} (hm : m ≤ u.size) (m0 : 0 < m) (h1 : ∀ i, m ≤ i → i < u.size → dgt u i = 48) (h2 : dgt u (m - 1) ≠ 48) (hp0 : -1099511627776 ≤ p) (hp9 : p ≤ 2199023255552) (hr : ¬ inR p z) (w : World) :
    Calls Tryd.prog 53 #[.string t, .int .i64 p, .bool false] w fun e w' => e = .returned (.tuple #[dcV ⟨#[]⟩ 0 false, .int .i64 4]) ∧ Below w.heap.size w w' := by
  have H1 : Hid (∀ i, m ≤ i → i < u.size → dgt u i = 48) := h1
  have H2 : Hid (dgt u (m - 1) ≠ 48) := h2
  have HZ2 : Hid (dgt t z ≠ 48) := hz2
  have HR : Hid (¬ inR p z) := hr
  have uz : u.size = t.size - z := by rw [← hu]; exact ext_size (by omega)
  clear h1 h2 hz2 hr
  unfold dcV
  have D := fun W => rdig_yes t (by omega) hd W
  have HZ : Hid (∀ i, i < z → dgt t i = 48) := hz1
  go_enter Tryd.func53, Tryd.ntmps53
  go_wp2_with fail
  refine (D _).mono ?_
  rintro e w0 ⟨rfl, rfl⟩
  go_wp2
  go_loop [8] (fun iv => ∃ k : Nat, iv = .int .i64 (k : Int) ∧ k ≤ z) (fun iv => z - (intOf iv).toNat)
  case atStart => exact ⟨0, rfl, Nat.zero_le _⟩
  case round =>
    obtain ⟨k, rfl, hk⟩ := hrel
    by_cases c0 : k < z
    · have hks : k < t.size := by omega
      have x0 : ((((t[k]'hks).toNat : Nat) : Int) == 48) = true := beq_iff_eq.mpr (by have := HZ.out k c0; rw [dgt_lt hks] at this; omega)
      have i0 : (k : Int) < (t.size : Int) := by omega
      have i1 : (0 : Int) ≤ (k : Int) := by omega
      have wk : IntKind.i64.wrap ((k : Int) + 1) = (k : Int) + 1 := by
        unfold IntKind.wrap
        simp [IntKind.bits, IntKind.signed]
        omega
      go_wp2
      go_round
      case rel => exact ⟨k + 1, by go_num, by omega⟩
      case measure => simp [intOf] <;> omega
    · obtain rfl : z = k := by omega
      have x0 : ((((t[z]'hz).toNat : Nat) : Int) == 48) = false := beq_eq_false_iff_ne.mpr (by have := HZ2.out; rw [dgt_lt hz] at this; omega)
      have i0 : (z : Int) < (t.size : Int) := by omega
      have i1 : (0 : Int) ≤ (z : Int) := by omega
      have i2 : (z : Int) ≤ (t.size : Int) := by omega
      have l8 : ¬ (800 : Int) < (u.size : Int) := by omega
      have wz : IntKind.i64.wrap (1099511627776 + (z : Int)) = 1099511627776 + (z : Int) := by
        unfold IntKind.wrap
        simp [IntKind.bits, IntKind.signed]
        omega
      have wq : IntKind.i64.wrap (p - (z : Int)) = p - (z : Int) := by
        unfold IntKind.wrap
        simp [IntKind.bits, IntKind.signed]
        omega
      go_wp2
      go_loop [0] (fun v => ∃ k, v = .string (u.extract 0 k) ∧ m ≤ k ∧ k ≤ u.size) (fun v => textLen v)
      case atStart => exact ⟨u.size, by rw [ext_zero], hm, Nat.le_refl _⟩
      case round =>
        obtain ⟨k, rfl, hk1, hk2⟩ := hrel
        have sz := pre_size hk2
        by_cases c1 : m < k
        · obtain ⟨j, rfl⟩ : ∃ j, k = j + 1 := ⟨k - 1, by omega⟩
          have e0 := pre_get (s := u) hk2 (show j < j + 1 by omega)
          have e9 := H1.out j (by omega) (by omega)
          rw [dgt_lt (by omega)] at e9
          rw [e9] at e0
          clear e9
          have cut := pre_cut (s := u) (k := j)
          have HC : Hid ((u.extract 0 j).size = j) := pre_size (by omega)
          obtain ⟨T2, hT2⟩ : ∃ T, u.extract 0 j = T := ⟨_, rfl⟩
          obtain ⟨T, hT⟩ : ∃ T, u.extract 0 (j + 1) = T := ⟨_, rfl⟩
          rw [hT2] at cut
          rw [hT] at sz cut e0 ⊢
          have HT : Hid (u.extract 0 j = T2) := hT2
          have HSZ : Hid (T.size = j + 1) := sz
          have hpos : 0 < T.size := by omega
          have hbig : T.size ≤ 9223372036854775807 := by omega
          have ix : ((T.size : Int) - 1).toNat = j := by omega
          have ix2 : (T.size : Int) - 1 = (j : Int) := by omega
          have hj : j < T.size := by omega
          have e1 := e0 hj
          have hTj : (T.size : Int) = (j : Int) + 1 := by omega
          clear hT hT2 sz
          go_wp2
          go_round
          case rel => exact ⟨j, by rw [HT.out], by omega, by omega⟩
          case measure =>
            show T2.size < T.size
            have a := HC.out
            rw [HT.out] at a
            have b := HSZ.out
            omega
        · obtain rfl : k = m := by omega
          have e0 := pre_get (s := u) hk2 (show k - 1 < k by omega)
          have e9 := H2.out
          rw [dgt_lt (by omega)] at e9
          have cE : (((((u[k - 1]'(by omega)).toNat : Nat) : Int)) == 48) = false := beq_eq_false_iff_ne.mpr (by omega)
          obtain ⟨zc, hzc⟩ : ∃ zc, zc = (u[k - 1]'(by omega)).toNat := ⟨_, rfl⟩
          rw [← hzc] at e0 cE
          clear e9 hzc
          obtain ⟨T, hT⟩ : ∃ T, u.extract 0 k = T := ⟨_, rfl⟩
          rw [hT] at sz e0 ⊢
          have hj : k - 1 < T.size := by omega
          have e1 := e0 hj
          have ix : ((T.size : Int) - 1).toNat = k - 1 := by omega
          have ix3 : ((k : Int) - 1).toNat = k - 1 := by omega
          have hTj : (T.size : Int) = (k : Int) := by omega
          have hpos : 0 < T.size := by omega
          have tz : ((T.size : Int) == 0) = false := beq_eq_false_iff_ne.mpr (by omega)
          have HTT : Hid (u.extract 0 k = T) := hT
          clear hT
          have p1 : ¬ p < -1099511627776 := by omega
          by_cases p2 : 1099511627776 + (z : Int) < p
          · go_wp2
            refine bodyPost_ret (v := .tuple #[.agg #[.string ⟨#[]⟩, .int .i64 0, .bool false], .int .i64 4]) (by simp [results, Tryd.results53, go_sem]) rfl ⟨rfl, ?_⟩
            exact (Below.refl _ _).alloc (Nat.le_refl _) _
          · have p3 : p - (z : Int) < -1099511627776 := by have := HR.out; unfold inR at this; omega
            go_wp2
            refine bodyPost_ret (v := .tuple #[.agg #[.string ⟨#[]⟩, .int .i64 0, .bool false], .int .i64 4]) (by simp [results, Tryd.results53, go_sem]) rfl ⟨rfl, ?_⟩
            exact (Below.refl _ _).alloc (Nat.le_refl _) _

set_option maxRecDepth 100000 in
set_option maxHeartbeats 1000000 in
theorem rmake_cut_in {t : ByteArray} {p : Int} (hl : t.size = 801) (hd : DG t) (hf : dgt t 0 ≠ 48) (hx : dgt t 800 ≠ 48) {vv : ByteArray} (hv : t.extract 0 800 = vv)
    (hp0 : -1099511627776 ≤ p) (hr : p ≤ 1099511627776) (w : World) :
    Calls Tryd.prog 53 #[.string t, .int .i64 p, .bool false] w fun e w' => e = .returned (.tuple #[dcV vv p true, .int .i64 0]) ∧ Below w.heap.size w w' := by
  have D := fun W => rdig_yes t (by omega) hd W
  have h0 : 0 < t.size := by omega
  have h8 : 800 < t.size := by omega
  have x0 : ((((t[0]'h0).toNat : Nat) : Int) == 48) = false := beq_eq_false_iff_ne.mpr (by rw [dgt_lt h0] at hf; omega)
  have x8 : ((((t[800]'h8).toNat : Nat) : Int) == 48) = false := beq_eq_false_iff_ne.mpr (by rw [dgt_lt h8] at hx; omega)
  have vz : vv.size = 800 := by rw [← hv]; exact pre_size (by omega)
  have tz : (t.size : Int) = 801 := by omega
  clear hd hf hx hl
  unfold dcV
  go_enter Tryd.func53, Tryd.ntmps53
  go_wp2_with fail
  refine (D _).mono ?_
  rintro e w0 ⟨rfl, rfl⟩
  go_wp2
  go_loop [8] (fun iv => iv = .int .i64 0) (fun _ => 0)
  case atStart => rfl
  case round =>
    subst hrel
    go_wp2
    go_loop [2, 9] (fun mv iv => (mv = .bool false ∧ iv = .int .i64 800) ∨ (mv = .bool (!false) ∧ iv = .int .i64 801)) (fun _ iv => 801 - (intOf iv).toNat)
    case atStart => exact Or.inl ⟨rfl, rfl⟩
    case round =>
      rcases hrel with ⟨rfl, rfl⟩ | ⟨rfl, rfl⟩
      · go_wp2
        go_round
        case rel => exact Or.inr ⟨by simp [bne, x8], rfl⟩
        case measure => simp [intOf]
      · go_wp2
        go_loop [0] (fun sv => sv = .string vv) (fun _ => 0)
        case atStart => rfl
        case round =>
          subst hrel
          have vn : ((vv.size : Int) == 0) = false := beq_eq_false_iff_ne.mpr (by omega)
          have p1 : ¬ p < -1099511627776 := by omega
          have p2 : ¬ 1099511627776 < p := by omega
          go_wp2
          refine bodyPost_ret (v := .tuple #[.agg #[.string vv, .int .i64 p, .bool true], .int .i64 0]) (by simp [results, Tryd.results53, go_sem]) rfl ⟨rfl, ?_⟩
          exact (Below.refl _ _).alloc (Nat.le_refl _) _

set_option maxRecDepth 100000 in
set_option maxHeartbeats 1000000 in
theorem rmake_cut_out {t : ByteArray} {p : Int} (hl : t.size = 801) (hd : DG t) (hf : dgt t 0 ≠ 48) (hx : dgt t 800 ≠ 48) {vv : ByteArray} (hv : t.extract 0 800 = vv)
    (_hp0 : -1099511627776 ≤ p) (hr : 1099511627776 < p) (w : World) :
    Calls Tryd.prog 53 #[.string t, .int .i64 p, .bool false] w fun e w' => e = .returned (.tuple #[dcV ⟨#[]⟩ 0 false, .int .i64 4]) ∧ Below w.heap.size w w' := by
  have D := fun W => rdig_yes t (by omega) hd W
  have h0 : 0 < t.size := by omega
  have h8 : 800 < t.size := by omega
  have x0 : ((((t[0]'h0).toNat : Nat) : Int) == 48) = false := beq_eq_false_iff_ne.mpr (by rw [dgt_lt h0] at hf; omega)
  have x8 : ((((t[800]'h8).toNat : Nat) : Int) == 48) = false := beq_eq_false_iff_ne.mpr (by rw [dgt_lt h8] at hx; omega)
  have vz : vv.size = 800 := by rw [← hv]; exact pre_size (by omega)
  have tz : (t.size : Int) = 801 := by omega
  clear hd hf hx hl
  unfold dcV
  go_enter Tryd.func53, Tryd.ntmps53
  go_wp2_with fail
  refine (D _).mono ?_
  rintro e w0 ⟨rfl, rfl⟩
  go_wp2
  go_loop [8] (fun iv => iv = .int .i64 0) (fun _ => 0)
  case atStart => rfl
  case round =>
    subst hrel
    go_wp2
    go_loop [2, 9] (fun mv iv => (mv = .bool false ∧ iv = .int .i64 800) ∨ (mv = .bool (!false) ∧ iv = .int .i64 801)) (fun _ iv => 801 - (intOf iv).toNat)
    case atStart => exact Or.inl ⟨rfl, rfl⟩
    case round =>
      rcases hrel with ⟨rfl, rfl⟩ | ⟨rfl, rfl⟩
      · go_wp2
        go_round
        case rel => exact Or.inr ⟨by simp [bne, x8], rfl⟩
        case measure => simp [intOf]
      · go_wp2
        go_loop [0] (fun sv => sv = .string vv) (fun _ => 0)
        case atStart => rfl
        case round =>
          subst hrel
          have vn : ((vv.size : Int) == 0) = false := beq_eq_false_iff_ne.mpr (by omega)
          have p1 : ¬ p < -1099511627776 := by omega
          have p2 : 1099511627776 < p := by omega
          go_wp2
          refine bodyPost_ret (v := .tuple #[.agg #[.string ⟨#[]⟩, .int .i64 0, .bool false], .int .i64 4]) (by simp [results, Tryd.results53, go_sem]) rfl ⟨rfl, ?_⟩
          exact (Below.refl _ _).alloc (Nat.le_refl _) _

set_option maxRecDepth 100000 in
set_option maxHeartbeats 1000000 in
theorem rmake_last_in {t : ByteArray} {p : Int} (hl : t.size = 801) (hd : DG t) (hf : dgt t 0 ≠ 48) (hx : dgt t 800 = 48) {vv : ByteArray} (hv : t.extract 0 800 = vv)
    {m : Nat} (hm : m ≤ vv.size) (m0 : 0 < m) (h1 : ∀ i, m ≤ i → i < vv.size → dgt vv i = 48) (h2 : dgt vv (m - 1) ≠ 48) (hp0 : -1099511627776 ≤ p) (hr : p ≤ 1099511627776) (w : World) :
    Calls Tryd.prog 53 #[.string t, .int .i64 p, .bool false] w fun e w' => e = .returned (.tuple #[dcV (vv.extract 0 m) p false, .int .i64 0]) ∧ Below w.heap.size w w' := by
  have D := fun W => rdig_yes t (by omega) hd W
  have h0 : 0 < t.size := by omega
  have h8 : 800 < t.size := by omega
  have x0 : ((((t[0]'h0).toNat : Nat) : Int) == 48) = false := beq_eq_false_iff_ne.mpr (by rw [dgt_lt h0] at hf; omega)
  have x8 : ((((t[800]'h8).toNat : Nat) : Int) == 48) = true := beq_iff_eq.mpr (by rw [dgt_lt h8] at hx; omega)
  have vz : vv.size = 800 := by rw [← hv]; exact pre_size (by omega)
  have tz : (t.size : Int) = 801 := by omega
  have H1 : Hid (∀ i, m ≤ i → i < vv.size → dgt vv i = 48) := h1
  have H2 : Hid (dgt vv (m - 1) ≠ 48) := h2
  clear h1 h2
  clear hd hf hx hl
  unfold dcV
  go_enter Tryd.func53, Tryd.ntmps53
  go_wp2_with fail
  refine (D _).mono ?_
  rintro e w0 ⟨rfl, rfl⟩
  go_wp2
  go_loop [8] (fun iv => iv = .int .i64 0) (fun _ => 0)
  case atStart => rfl
  case round =>
    subst hrel
    go_wp2
    go_loop [2, 9] (fun mv iv => (mv = .bool false ∧ iv = .int .i64 800) ∨ (mv = .bool (!true) ∧ iv = .int .i64 801)) (fun _ iv => 801 - (intOf iv).toNat)
    case atStart => exact Or.inl ⟨rfl, rfl⟩
    case round =>
      rcases hrel with ⟨rfl, rfl⟩ | ⟨rfl, rfl⟩
      · go_wp2
        go_round
        case rel => exact Or.inr ⟨by simp [bne, x8], rfl⟩
        case measure => simp [intOf]
      · go_wp2
        go_loop [0] (fun v => ∃ k, v = .string (vv.extract 0 k) ∧ m ≤ k ∧ k ≤ vv.size) (fun v => textLen v)
        case atStart => exact ⟨vv.size, by rw [ext_zero], hm, Nat.le_refl _⟩
        case round =>
          obtain ⟨k, rfl, hk1, hk2⟩ := hrel
          have sz := pre_size hk2
          by_cases c1 : m < k
          · obtain ⟨j, rfl⟩ : ∃ j, k = j + 1 := ⟨k - 1, by omega⟩
            have e0 := pre_get (s := vv) hk2 (show j < j + 1 by omega)
            have e9 := H1.out j (by omega) (by omega)
            rw [dgt_lt (by omega)] at e9
            rw [e9] at e0
            clear e9
            have cut := pre_cut (s := vv) (k := j)
            have HC : Hid ((vv.extract 0 j).size = j) := pre_size (by omega)
            obtain ⟨T2, hT2⟩ : ∃ T, vv.extract 0 j = T := ⟨_, rfl⟩
            obtain ⟨T, hT⟩ : ∃ T, vv.extract 0 (j + 1) = T := ⟨_, rfl⟩
            rw [hT2] at cut
            rw [hT] at sz cut e0 ⊢
            have HT : Hid (vv.extract 0 j = T2) := hT2
            have HSZ : Hid (T.size = j + 1) := sz
            have hpos : 0 < T.size := by omega
            have hbig : T.size ≤ 9223372036854775807 := by omega
            have ix : ((T.size : Int) - 1).toNat = j := by omega
            have ix2 : (T.size : Int) - 1 = (j : Int) := by omega
            have hj : j < T.size := by omega
            have e1 := e0 hj
            have hTj : (T.size : Int) = (j : Int) + 1 := by omega
            clear hT hT2 sz
            go_wp2
            go_round
            case rel => exact ⟨j, by rw [HT.out], by omega, by omega⟩
            case measure =>
              show T2.size < T.size
              have a := HC.out
              rw [HT.out] at a
              have b := HSZ.out
              omega
          · obtain rfl : k = m := by omega
            have e0 := pre_get (s := vv) hk2 (show k - 1 < k by omega)
            have e9 := H2.out
            rw [dgt_lt (by omega)] at e9
            have cE : (((((vv[k - 1]'(by omega)).toNat : Nat) : Int)) == 48) = false := beq_eq_false_iff_ne.mpr (by omega)
            obtain ⟨zc, hzc⟩ : ∃ zc, zc = (vv[k - 1]'(by omega)).toNat := ⟨_, rfl⟩
            rw [← hzc] at e0 cE
            clear e9 hzc
            obtain ⟨T, hT⟩ : ∃ T, vv.extract 0 k = T := ⟨_, rfl⟩
            rw [hT] at sz e0 ⊢
            have hj : k - 1 < T.size := by omega
            have e1 := e0 hj
            have ix : ((T.size : Int) - 1).toNat = k - 1 := by omega
            have ix3 : ((k : Int) - 1).toNat = k - 1 := by omega
            have hTj : (T.size : Int) = (k : Int) := by omega
            have hpos : 0 < T.size := by omega
            have tz : ((T.size : Int) == 0) = false := beq_eq_false_iff_ne.mpr (by omega)
            have HTT : Hid (vv.extract 0 k = T) := hT
            clear hT
            have p1 : ¬ p < -1099511627776 := by omega
            have p2 : ¬ 1099511627776 < p := by omega
            go_wp2
            refine bodyPost_ret (v := .tuple #[.agg #[.string T, .int .i64 p, .bool false], .int .i64 0]) (by simp [results, Tryd.results53, go_sem]) rfl ⟨by rw [HTT.out], ?_⟩
            exact (Below.refl _ _).alloc (Nat.le_refl _) _

set_option maxRecDepth 100000 in
set_option maxHeartbeats 1000000 in
theorem rmake_last_out {t : ByteArray} {p : Int} (hl : t.size = 801) (hd : DG t) (hf : dgt t 0 ≠ 48) (hx : dgt t 800 = 48) {vv : ByteArray} (hv : t.extract 0 800 = vv)
    {m : Nat} (hm : m ≤ vv.size) (m0 : 0 < m) (h1 : ∀ i, m ≤ i → i < vv.size → dgt vv i = 48) (h2 : dgt vv (m - 1) ≠ 48) (_hp0 : -1099511627776 ≤ p) (hr : 1099511627776 < p) (w : World) :
    Calls Tryd.prog 53 #[.string t, .int .i64 p, .bool false] w fun e w' => e = .returned (.tuple #[dcV ⟨#[]⟩ 0 false, .int .i64 4]) ∧ Below w.heap.size w w' := by
  have D := fun W => rdig_yes t (by omega) hd W
  have h0 : 0 < t.size := by omega
  have h8 : 800 < t.size := by omega
  have x0 : ((((t[0]'h0).toNat : Nat) : Int) == 48) = false := beq_eq_false_iff_ne.mpr (by rw [dgt_lt h0] at hf; omega)
  have x8 : ((((t[800]'h8).toNat : Nat) : Int) == 48) = true := beq_iff_eq.mpr (by rw [dgt_lt h8] at hx; omega)
  have vz : vv.size = 800 := by rw [← hv]; exact pre_size (by omega)
  have tz : (t.size : Int) = 801 := by omega
  have H1 : Hid (∀ i, m ≤ i → i < vv.size → dgt vv i = 48) := h1
  have H2 : Hid (dgt vv (m - 1) ≠ 48) := h2
  clear h1 h2
  clear hd hf hx hl
  unfold dcV
  go_enter Tryd.func53, Tryd.ntmps53
  go_wp2_with fail
  refine (D _).mono ?_
  rintro e w0 ⟨rfl, rfl⟩
  go_wp2
  go_loop [8] (fun iv => iv = .int .i64 0) (fun _ => 0)
  case atStart => rfl
  case round =>
    subst hrel
    go_wp2
    go_loop [2, 9] (fun mv iv => (mv = .bool false ∧ iv = .int .i64 800) ∨ (mv = .bool (!true) ∧ iv = .int .i64 801)) (fun _ iv => 801 - (intOf iv).toNat)
    case atStart => exact Or.inl ⟨rfl, rfl⟩
    case round =>
      rcases hrel with ⟨rfl, rfl⟩ | ⟨rfl, rfl⟩
      · go_wp2
        go_round
        case rel => exact Or.inr ⟨by simp [bne, x8], rfl⟩
        case measure => simp [intOf]
      · go_wp2
        go_loop [0] (fun v => ∃ k, v = .string (vv.extract 0 k) ∧ m ≤ k ∧ k ≤ vv.size) (fun v => textLen v)
        case atStart => exact ⟨vv.size, by rw [ext_zero], hm, Nat.le_refl _⟩
        case round =>
          obtain ⟨k, rfl, hk1, hk2⟩ := hrel
          have sz := pre_size hk2
          by_cases c1 : m < k
          · obtain ⟨j, rfl⟩ : ∃ j, k = j + 1 := ⟨k - 1, by omega⟩
            have e0 := pre_get (s := vv) hk2 (show j < j + 1 by omega)
            have e9 := H1.out j (by omega) (by omega)
            rw [dgt_lt (by omega)] at e9
            rw [e9] at e0
            clear e9
            have cut := pre_cut (s := vv) (k := j)
            have HC : Hid ((vv.extract 0 j).size = j) := pre_size (by omega)
            obtain ⟨T2, hT2⟩ : ∃ T, vv.extract 0 j = T := ⟨_, rfl⟩
            obtain ⟨T, hT⟩ : ∃ T, vv.extract 0 (j + 1) = T := ⟨_, rfl⟩
            rw [hT2] at cut
            rw [hT] at sz cut e0 ⊢
            have HT : Hid (vv.extract 0 j = T2) := hT2
            have HSZ : Hid (T.size = j + 1) := sz
            have hpos : 0 < T.size := by omega
            have hbig : T.size ≤ 9223372036854775807 := by omega
            have ix : ((T.size : Int) - 1).toNat = j := by omega
            have ix2 : (T.size : Int) - 1 = (j : Int) := by omega
            have hj : j < T.size := by omega
            have e1 := e0 hj
            have hTj : (T.size : Int) = (j : Int) + 1 := by omega
            clear hT hT2 sz
            go_wp2
            go_round
            case rel => exact ⟨j, by rw [HT.out], by omega, by omega⟩
            case measure =>
              show T2.size < T.size
              have a := HC.out
              rw [HT.out] at a
              have b := HSZ.out
              omega
          · obtain rfl : k = m := by omega
            have e0 := pre_get (s := vv) hk2 (show k - 1 < k by omega)
            have e9 := H2.out
            rw [dgt_lt (by omega)] at e9
            have cE : (((((vv[k - 1]'(by omega)).toNat : Nat) : Int)) == 48) = false := beq_eq_false_iff_ne.mpr (by omega)
            obtain ⟨zc, hzc⟩ : ∃ zc, zc = (vv[k - 1]'(by omega)).toNat := ⟨_, rfl⟩
            rw [← hzc] at e0 cE
            clear e9 hzc
            obtain ⟨T, hT⟩ : ∃ T, vv.extract 0 k = T := ⟨_, rfl⟩
            rw [hT] at sz e0 ⊢
            have hj : k - 1 < T.size := by omega
            have e1 := e0 hj
            have ix : ((T.size : Int) - 1).toNat = k - 1 := by omega
            have ix3 : ((k : Int) - 1).toNat = k - 1 := by omega
            have hTj : (T.size : Int) = (k : Int) := by omega
            have hpos : 0 < T.size := by omega
            have tz : ((T.size : Int) == 0) = false := beq_eq_false_iff_ne.mpr (by omega)
            have HTT : Hid (vv.extract 0 k = T) := hT
            clear hT
            have p1 : ¬ p < -1099511627776 := by omega
            have p2 : 1099511627776 < p := by omega
            go_wp2
            refine bodyPost_ret (v := .tuple #[.agg #[.string ⟨#[]⟩, .int .i64 0, .bool false], .int .i64 4]) (by simp [results, Tryd.results53, go_sem]) rfl ⟨rfl, ?_⟩
            exact (Below.refl _ _).alloc (Nat.le_refl _) _

end Go.Proofs.YtladeppjccfbhaaDoor
