/-
  The document's Uint.
-/
import Derived.Test.YtladeppjccfbhaaDoorDecUa
import Derived.Test.YtladeppjccfbhaaDoorDecRd
import Derived.Test.YtladeppjccfbhaaDoorDecQ
namespace Go.Proofs.YtladeppjccfbhaaDoor
open Go.RowKit

theorem byteAt_dgt {s : ByteArray} {i : Nat} (h : i < s.size) : byteAt s i = dgt s i := by rw [byteAt_eq s i h, dgt_lt h]
theorem num_pv {r s : ByteArray} : ∀ n, n ≤ r.size → (∀ i, i < n → dgt r i = dgt s i) → num r n = pv s n
  | 0, _, _ => rfl
  | n + 1, h, e => by
    show num r n * 10 + (byteAt r n - 48) = 10 * pv s n + (dgt s n - 48)
    rw [num_pv n (by omega) (fun i hi => e i (by omega)), byteAt_dgt (by omega), e n (by omega)]
    omega
theorem pv_small {s : ByteArray} (hs : DG s) {n : Nat} (h : n ≤ 20) : pv s n < 340282366920938463463374607431768211456 := by
  have a := pv_bound hs n
  have b : 10 ^ n ≤ 10 ^ 20 := Nat.pow_le_pow_right (by decide) h
  have c : (10 : Nat) ^ 20 = 100000000000000000000 := by decide
  omega

theorem read_of {T : ByteArray} (hT : isNum T) (hs : T.size ≤ maxLen) {N : Nat} (hN : num T T.size = N) (hb : N < 340282366920938463463374607431768211456) (W : World) :
    Calls Tryd.prog 56 #[.string T] W fun e w' => e = .returned (.tuple #[.agg #[.int .u64 (hiW N), .int .u64 (loW N)], .int .i64 0]) ∧ Below W.heap.size W w' := by
  refine (rread_num T hs (isNumB_true hT).symm W).mono ?_
  rintro e w' ⟨h | h, b⟩
  · rw [hN] at h; exact ⟨h.2, b⟩
  · rw [hN] at h; exact absurd h.1 (by omega)
theorem isNum_zero : isNum ⟨#[48]⟩ := ⟨by decide, fun j hj => by
    have hj' : j < 1 := hj
    obtain rfl : j = 0 := by omega
    exact ⟨by decide, by decide⟩, fun _ => rfl⟩
theorem isNum_of_dgt {r s : ByteArray} (hd : DG s) (h0 : 0 < r.size) (he : ∀ i, i < r.size → dgt r i = dgt s i) (hf : dgt s 0 ≠ 48) : isNum r :=
  ⟨h0, fun j hj => by rw [byteAt_dgt hj, he j hj]; exact dgt_in hd j, fun h => absurd (by rw [byteAt_dgt h0, he 0 h0] at h; exact h) hf⟩

set_option maxRecDepth 100000 in
set_option maxHeartbeats 2000000 in
theorem ruint_bad {s : ByteArray} {p : Int} {c : Bool} (hs : s.size ≤ 9223372036854775807) (h : ¬ VD s p c) (w : World) :
    Calls Tryd.prog 23 #[dcV s p c] w fun e w' => e = .returned (.tuple #[.int .u64 0, .bool false, .int .i64 1]) ∧ Below w.heap.size w w' := by
  have VV := fun W => rvald_no hs h W
  unfold dcV at *
  go_enter Tryd.func23, Tryd.ntmps23
  go_wp2_with fail
  refine (VV _).mono ?_
  rintro e w1 ⟨rfl, hb1⟩
  have O1 : Hid (OneB w w1 s p c) := (OneB.start w s p c).step hb1
  clear hb1
  obtain ⟨_, _, a0, a1, a2⟩ := O1.out
  go_wp2
  refine bodyPost_ret (v := .tuple #[.int .u64 0, .bool false, .int .i64 1]) (by simp [results, Tryd.results23, go_sem]) rfl ⟨rfl, ?_⟩
  exact O1.out.bel

set_option maxRecDepth 100000 in
set_option maxHeartbeats 2000000 in
theorem ruint_cut {s : ByteArray} {p : Int} (h : VD s p true) (hp : (s.size : Int) < p) (w : World) :
    Calls Tryd.prog 23 #[dcV s p true] w fun e w' => e = .returned (.tuple #[.int .u64 0, .bool false, .int .i64 1]) ∧ Below w.heap.size w w' := by
  have VV := fun W => rvald_yes h W
  clear h
  unfold dcV at *
  go_enter Tryd.func23, Tryd.ntmps23
  go_wp2_with fail
  refine (VV _).mono ?_
  rintro e w1 ⟨rfl, hb1⟩
  have O1 : Hid (OneB w w1 s p true) := (OneB.start w s p true).step hb1
  clear hb1
  obtain ⟨_, _, a0, a1, a2⟩ := O1.out
  go_wp2
  refine bodyPost_ret (v := .tuple #[.int .u64 0, .bool false, .int .i64 1]) (by simp [results, Tryd.results23, go_sem]) rfl ⟨rfl, ?_⟩
  exact O1.out.bel

set_option maxRecDepth 100000 in
set_option maxHeartbeats 2000000 in
theorem ruint_far {s : ByteArray} {p : Int} {c : Bool} (h : VD s p c) (hc : c = true → p ≤ (s.size : Int)) (hp : 20 < p) (w : World) :
    Calls Tryd.prog 23 #[dcV s p c] w fun e w' => e = .returned (.tuple #[.int .u64 0, .bool false, .int .i64 4]) ∧ Below w.heap.size w w' := by
  have VV := fun W => rvald_yes h W
  clear h
  cases c with
  | true =>
    have g0 : decide ((s.size : Int) < p) = false := decide_eq_false (by have := hc rfl; omega)
    clear hc
    unfold dcV at *
    go_enter Tryd.func23, Tryd.ntmps23
    go_wp2_with fail
    refine (VV _).mono ?_
    rintro e w1 ⟨rfl, hb1⟩
    have O1 : Hid (OneB w w1 s p true) := (OneB.start w s p true).step hb1
    clear hb1
    obtain ⟨_, _, a0, a1, a2⟩ := O1.out
    go_wp2
    refine bodyPost_ret (v := .tuple #[.int .u64 0, .bool false, .int .i64 4]) (by simp [results, Tryd.results23, go_sem]) rfl ⟨rfl, ?_⟩
    exact O1.out.bel
  | false =>
    clear hc
    unfold dcV at *
    go_enter Tryd.func23, Tryd.ntmps23
    go_wp2_with fail
    refine (VV _).mono ?_
    rintro e w1 ⟨rfl, hb1⟩
    have O1 : Hid (OneB w w1 s p false) := (OneB.start w s p false).step hb1
    clear hb1
    obtain ⟨_, _, a0, a1, a2⟩ := O1.out
    go_wp2
    refine bodyPost_ret (v := .tuple #[.int .u64 0, .bool false, .int .i64 4]) (by simp [results, Tryd.results23, go_sem]) rfl ⟨rfl, ?_⟩
    exact O1.out.bel

set_option maxRecDepth 100000 in
set_option maxHeartbeats 2000000 in
theorem ruint_ok {s : ByteArray} {p : Int} {c : Bool} (h : VD s p c) (hc : c = true → p ≤ (s.size : Int)) (hp : p ≤ 20) {P : Nat} (hP : P = p.toNat) (hv : pv s P < 18446744073709551616) (w : World) :
    Calls Tryd.prog 23 #[dcV s p c] w fun e w' => e = .returned (.tuple #[.int .u64 ((pv s P : Nat) : Int), .bool (!(onB s c p)), .int .i64 0]) ∧ Below w.heap.size w w' := by
  have VV := fun W => rvald_yes h W
  have hd : DG s := by
    rcases h with g | g
    · intro i hi; have := g.1; omega
    · exact g.dg
  have HF : Hid (0 < P → dgt s 0 ≠ 48) := fun q => by
    rcases h with g | g
    · have := g.2.1; omega
    · rw [dgt_lt g.pos]; exact g.first
  have HZ : Hid (p < 0 → 0 < s.size) := fun q => by
    rcases h with g | g
    · have := g.2.1; omega
    · exact g.pos
  have DD := fun k W => at_any s p c k W
  have HD : Hid (DG s) := hd
  have HV : Hid (pv s P < 18446744073709551616) := hv
  have HP : Hid (P = p.toNat ∧ P ≤ 20) := ⟨hP, by omega⟩
  have q0 : ¬ 20 < p := by omega
  clear h hd hv hP hp
  cases c with
  | true =>
    have g0 : decide ((s.size : Int) < p) = false := decide_eq_false (by have := hc rfl; omega)
    clear hc
    unfold dcV at *
    go_enter Tryd.func23, Tryd.ntmps23
    go_wp2_with fail
    refine (VV _).mono ?_
    rintro e w1 ⟨rfl, hb1⟩
    have O1 : Hid (OneB w w1 s p true) := (OneB.start w s p true).step hb1
    clear hb1
    obtain ⟨_, _, a0, a1, a2⟩ := O1.out
    go_wp2
    clear a0 a1 a2
    go_loopw [5, 6] (fun v5 v6 wr => ∃ (k : Nat) (r : ByteArray), v5 = .string r ∧ v6 = .int .i64 (k : Int) ∧ k ≤ P ∧ Hid (r.size = k ∧ ∀ i, i < k → dgt r i = dgt s i) ∧ Hid (OneB w wr s p true)) (fun _ i _ => P - (intOf i).toNat)
    case atStart => exact ⟨0, ⟨#[]⟩, rfl, rfl, Nat.zero_le _, ⟨rfl, fun i hi => absurd hi (by omega)⟩, O1⟩
    case round =>
      obtain ⟨k, r, rfl, rfl, hk, HR, O2⟩ := hrel
      have HK : Hid (k ≤ P) := hk
      clear hk O1
      obtain ⟨_, _, a0, a1, a2⟩ := O2.out
      by_cases c1 : k < P
      · have i0 : (k : Int) < p := by have := HP.out; omega
        have C1 : Hid (k < P) := c1
        have yd := dgt_in HD.out k
        obtain ⟨y, hy⟩ : ∃ y, y = dgt s k := ⟨_, rfl⟩
        have D1 := DD k
        rw [← hy] at D1
        obtain ⟨y1, hy1⟩ : ∃ y1, y1 = strOfNums ((List.range 1).map fun _ => (y : Int)) := ⟨_, rfl⟩
        have ys := nums_dgt (fun _ => y) 1 (fun i _ => by omega)
        rw [← hy1] at ys
        obtain ⟨r2, hr2⟩ : ∃ r2, r2 = r ++ y1 := ⟨_, rfl⟩
        have H2 : Hid (r2.size = k + 1 ∧ ∀ i, i < k + 1 → dgt r2 i = dgt s i) := by
          have z := HR.out
          refine ⟨by rw [hr2, ByteArray.size_append]; omega, fun i hi => ?_⟩
          rw [hr2, app_dgt]
          by_cases zz : i < r.size
          · rw [if_pos zz]; exact z.2 i (by omega)
          · rw [if_neg zz, show i - r.size = 0 by omega, ys.2 0 (by omega), hy, show i = k by omega]
        have qa : ∀ W, (Op.stringOp .add r y1).run Tryd.prog W = .ok (.string r2) W := fun W => by rw [hr2]; exact run_string_add_sum W _ _ (by have := HR.out.1; have := C1.out; have := HP.out; omega)
        have cv : ∀ W, (Go.convert 48 9 (.slice (some ⟨World.heap W |>.size, 0, none⟩) 1 1)).run Tryd.prog (W.alloc (.cells #[.int .u8 (y : Int)] 5)) = .ok (.string y1) (W.alloc (.cells #[.int .u8 (y : Int)] 5)) := fun W => by
          rw [hy1]
          refine run_convert_bytes_arg _ 48 5 und_bytes48 und_u8b W.heap.size 0 1 1 _ (by simp) ?_ 9 und_str9b
          intro i hi
          have z0 : i = 0 := by omega
          subst z0
          simp
        have ek : IntKind.i64.wrap ((k : Int) + 1) = (k : Int) + 1 := by
          have := HP.out
          unfold IntKind.wrap
          simp [IntKind.bits, IntKind.signed]
          omega
        clear yd hy hy1 ys hr2 c1
        go_wp2_with fail
        refine (D1 _).mono ?_
        rintro e w3 ⟨rfl, hb3⟩
        have O3 : Hid (OneB w w3 s p true) := O2.out.step hb3
        clear hb3
        go_wp2
        go_roundw
        case rel => exact ⟨k + 1, r2, rfl, by go_num, by have := C1.out; omega, H2, O3.out.step ((Below.refl _ _).alloc (Nat.le_refl _) _)⟩
        case measure => have := C1.out; (simp [intOf] <;> omega)
      · obtain rfl : k = P := by have := HK.out; omega
        have i0 : ¬ (k : Int) < p := by have := HP.out; omega
        have PB : Hid (pv s k < 340282366920938463463374607431768211456) := pv_small HD.out HP.out.2
        by_cases cz : k = 0
        · have rz : r = ⟨#[]⟩ := size_zero (by rw [HR.out.1, cz])
          subst rz
          have RD := fun W => read_of isNum_zero (by decide) (N := pv s k) (by rw [cz]; rfl) PB.out W
          have eh : hiW (pv s k) = 0 := by unfold hiW; have := HV.out; omega
          have el : loW (pv s k) = ((pv s k : Nat) : Int) := by unfold loW; have := HV.out; omega
          rw [eh, el] at RD
          clear eh el
          go_wp2_with fail
          refine (RD _).mono ?_
          rintro e w3 ⟨rfl, hb3⟩
          have O3 : Hid (OneB w w3 s p true) := O2.out.step hb3
          clear hb3
          have O4 : ∀ ob, OneB w (w3.alloc ob) s p true := fun ob => O3.out.step ((Below.refl _ _).alloc (Nat.le_refl _) _)
          have z0 : ∀ ob, (w3.alloc ob).cell? ⟨w.heap.size, 0, none⟩ = some (.string s) := fun ob => (O4 ob).a0
          have z1 : ∀ ob, (w3.alloc ob).cell? ⟨w.heap.size, 1, none⟩ = some (.int .i64 p) := fun ob => (O4 ob).a1
          have z2 : ∀ ob, (w3.alloc ob).cell? ⟨w.heap.size, 2, none⟩ = some (.bool true) := fun ob => (O4 ob).a2
          have HO : Hid (onB s true p = true) := rfl
          go_wp2
          go_region
          all_goals
            go_wp2
            refine bodyPost_ret (v := .tuple #[.int .u64 ((pv s 0 : Nat) : Int), .bool false, .int .i64 0]) (by simp [results, Tryd.results23, go_sem]) rfl ⟨by first | (rw [HO.out]; rfl) | (rw [cz, HO.out]; rfl), ?_⟩
            exact (O4 _).bel.drew
        · have hE := empty_false (s := r) (by have := HR.out.1; omega)
          have RD := fun W => read_of (isNum_of_dgt HD.out (by have := HR.out.1; omega) (fun i hi => HR.out.2 i (by have := HR.out.1; omega)) (HF.out (by omega))) (by have := HR.out.1; have := HP.out.2; unfold maxLen; omega) (N := pv s k) (by rw [HR.out.1]; exact num_pv k (by have := HR.out.1; omega) HR.out.2) PB.out W
          have eh : hiW (pv s k) = 0 := by unfold hiW; have := HV.out; omega
          have el : loW (pv s k) = ((pv s k : Nat) : Int) := by unfold loW; have := HV.out; omega
          rw [eh, el] at RD
          clear eh el
          go_wp2_with fail
          refine (RD _).mono ?_
          rintro e w3 ⟨rfl, hb3⟩
          have O3 : Hid (OneB w w3 s p true) := O2.out.step hb3
          clear hb3
          have O4 : ∀ ob, OneB w (w3.alloc ob) s p true := fun ob => O3.out.step ((Below.refl _ _).alloc (Nat.le_refl _) _)
          have z0 : ∀ ob, (w3.alloc ob).cell? ⟨w.heap.size, 0, none⟩ = some (.string s) := fun ob => (O4 ob).a0
          have z1 : ∀ ob, (w3.alloc ob).cell? ⟨w.heap.size, 1, none⟩ = some (.int .i64 p) := fun ob => (O4 ob).a1
          have z2 : ∀ ob, (w3.alloc ob).cell? ⟨w.heap.size, 2, none⟩ = some (.bool true) := fun ob => (O4 ob).a2
          have HO : Hid (onB s true p = true) := rfl
          go_wp2
          go_region
          all_goals
            go_wp2
            refine bodyPost_ret (v := .tuple #[.int .u64 ((pv s k : Nat) : Int), .bool false, .int .i64 0]) (by simp [results, Tryd.results23, go_sem]) rfl ⟨by first | (rw [HO.out]; rfl) | (rw [cz, HO.out]; rfl), ?_⟩
            exact (O4 _).bel.drew
  | false =>
    clear hc
    unfold dcV at *
    go_enter Tryd.func23, Tryd.ntmps23
    go_wp2_with fail
    refine (VV _).mono ?_
    rintro e w1 ⟨rfl, hb1⟩
    have O1 : Hid (OneB w w1 s p false) := (OneB.start w s p false).step hb1
    clear hb1
    obtain ⟨_, _, a0, a1, a2⟩ := O1.out
    go_wp2
    clear a0 a1 a2
    go_loopw [5, 6] (fun v5 v6 wr => ∃ (k : Nat) (r : ByteArray), v5 = .string r ∧ v6 = .int .i64 (k : Int) ∧ k ≤ P ∧ Hid (r.size = k ∧ ∀ i, i < k → dgt r i = dgt s i) ∧ Hid (OneB w wr s p false)) (fun _ i _ => P - (intOf i).toNat)
    case atStart => exact ⟨0, ⟨#[]⟩, rfl, rfl, Nat.zero_le _, ⟨rfl, fun i hi => absurd hi (by omega)⟩, O1⟩
    case round =>
      obtain ⟨k, r, rfl, rfl, hk, HR, O2⟩ := hrel
      have HK : Hid (k ≤ P) := hk
      clear hk O1
      obtain ⟨_, _, a0, a1, a2⟩ := O2.out
      by_cases c1 : k < P
      · have i0 : (k : Int) < p := by have := HP.out; omega
        have C1 : Hid (k < P) := c1
        have yd := dgt_in HD.out k
        obtain ⟨y, hy⟩ : ∃ y, y = dgt s k := ⟨_, rfl⟩
        have D1 := DD k
        rw [← hy] at D1
        obtain ⟨y1, hy1⟩ : ∃ y1, y1 = strOfNums ((List.range 1).map fun _ => (y : Int)) := ⟨_, rfl⟩
        have ys := nums_dgt (fun _ => y) 1 (fun i _ => by omega)
        rw [← hy1] at ys
        obtain ⟨r2, hr2⟩ : ∃ r2, r2 = r ++ y1 := ⟨_, rfl⟩
        have H2 : Hid (r2.size = k + 1 ∧ ∀ i, i < k + 1 → dgt r2 i = dgt s i) := by
          have z := HR.out
          refine ⟨by rw [hr2, ByteArray.size_append]; omega, fun i hi => ?_⟩
          rw [hr2, app_dgt]
          by_cases zz : i < r.size
          · rw [if_pos zz]; exact z.2 i (by omega)
          · rw [if_neg zz, show i - r.size = 0 by omega, ys.2 0 (by omega), hy, show i = k by omega]
        have qa : ∀ W, (Op.stringOp .add r y1).run Tryd.prog W = .ok (.string r2) W := fun W => by rw [hr2]; exact run_string_add_sum W _ _ (by have := HR.out.1; have := C1.out; have := HP.out; omega)
        have cv : ∀ W, (Go.convert 48 9 (.slice (some ⟨World.heap W |>.size, 0, none⟩) 1 1)).run Tryd.prog (W.alloc (.cells #[.int .u8 (y : Int)] 5)) = .ok (.string y1) (W.alloc (.cells #[.int .u8 (y : Int)] 5)) := fun W => by
          rw [hy1]
          refine run_convert_bytes_arg _ 48 5 und_bytes48 und_u8b W.heap.size 0 1 1 _ (by simp) ?_ 9 und_str9b
          intro i hi
          have z0 : i = 0 := by omega
          subst z0
          simp
        have ek : IntKind.i64.wrap ((k : Int) + 1) = (k : Int) + 1 := by
          have := HP.out
          unfold IntKind.wrap
          simp [IntKind.bits, IntKind.signed]
          omega
        clear yd hy hy1 ys hr2 c1
        go_wp2_with fail
        refine (D1 _).mono ?_
        rintro e w3 ⟨rfl, hb3⟩
        have O3 : Hid (OneB w w3 s p false) := O2.out.step hb3
        clear hb3
        go_wp2
        go_roundw
        case rel => exact ⟨k + 1, r2, rfl, by go_num, by have := C1.out; omega, H2, O3.out.step ((Below.refl _ _).alloc (Nat.le_refl _) _)⟩
        case measure => have := C1.out; (simp [intOf] <;> omega)
      · obtain rfl : k = P := by have := HK.out; omega
        have i0 : ¬ (k : Int) < p := by have := HP.out; omega
        have PB : Hid (pv s k < 340282366920938463463374607431768211456) := pv_small HD.out HP.out.2
        by_cases cz : k = 0
        · have rz : r = ⟨#[]⟩ := size_zero (by rw [HR.out.1, cz])
          subst rz
          have RD := fun W => read_of isNum_zero (by decide) (N := pv s k) (by rw [cz]; rfl) PB.out W
          have eh : hiW (pv s k) = 0 := by unfold hiW; have := HV.out; omega
          have el : loW (pv s k) = ((pv s k : Nat) : Int) := by unfold loW; have := HV.out; omega
          rw [eh, el] at RD
          clear eh el
          go_wp2_with fail
          refine (RD _).mono ?_
          rintro e w3 ⟨rfl, hb3⟩
          have O3 : Hid (OneB w w3 s p false) := O2.out.step hb3
          clear hb3
          have O4 : ∀ ob, OneB w (w3.alloc ob) s p false := fun ob => O3.out.step ((Below.refl _ _).alloc (Nat.le_refl _) _)
          have z0 : ∀ ob, (w3.alloc ob).cell? ⟨w.heap.size, 0, none⟩ = some (.string s) := fun ob => (O4 ob).a0
          have z1 : ∀ ob, (w3.alloc ob).cell? ⟨w.heap.size, 1, none⟩ = some (.int .i64 p) := fun ob => (O4 ob).a1
          have z2 : ∀ ob, (w3.alloc ob).cell? ⟨w.heap.size, 2, none⟩ = some (.bool false) := fun ob => (O4 ob).a2
          by_cases pn : p < 0
          · have g0 : ¬ (s.size : Int) ≤ 0 := by have := HZ.out pn; omega
            have ge : ¬ s = ByteArray.empty := fun h => by have q := HZ.out pn; rw [h] at q; exact absurd q (by decide)
            have HO : Hid (onB s false p = true) := by
              show onB s false p = true
              unfold onB
              rw [Bool.false_or]
              apply decide_eq_true
              have := HZ.out
              omega
            go_wp2
            go_region
            all_goals
              go_wp2
              refine bodyPost_ret (v := .tuple #[.int .u64 ((pv s 0 : Nat) : Int), .bool false, .int .i64 0]) (by simp [results, Tryd.results23, go_sem] <;> assumption) rfl ⟨by first | (rw [HO.out]; rfl) | (rw [cz, HO.out]; rfl), ?_⟩
              exact (O4 _).bel.drew
          · by_cases pq : (s.size : Int) ≤ p
            · have HO : Hid (onB s false p = false) := by
                show onB s false p = false
                unfold onB
                rw [Bool.false_or]
                apply decide_eq_false
                have := HZ.out
                omega
              go_wp2
              go_region
              all_goals
                go_wp2
                refine bodyPost_ret (v := .tuple #[.int .u64 ((pv s 0 : Nat) : Int), .bool true, .int .i64 0]) (by simp [results, Tryd.results23, go_sem]) rfl ⟨by first | (rw [HO.out]; rfl) | (rw [cz, HO.out]; rfl), ?_⟩
                exact (O4 _).bel.drew
            · have pl : p < (s.size : Int) := by omega
              have HO : Hid (onB s false p = true) := by
                show onB s false p = true
                unfold onB
                rw [Bool.false_or]
                apply decide_eq_true
                have := HZ.out
                omega
              go_wp2
              go_region
              all_goals
                go_wp2
                refine bodyPost_ret (v := .tuple #[.int .u64 ((pv s 0 : Nat) : Int), .bool false, .int .i64 0]) (by simp [results, Tryd.results23, go_sem] <;> assumption) rfl ⟨by first | (rw [HO.out]; rfl) | (rw [cz, HO.out]; rfl), ?_⟩
                exact (O4 _).bel.drew
        · have hE := empty_false (s := r) (by have := HR.out.1; omega)
          have RD := fun W => read_of (isNum_of_dgt HD.out (by have := HR.out.1; omega) (fun i hi => HR.out.2 i (by have := HR.out.1; omega)) (HF.out (by omega))) (by have := HR.out.1; have := HP.out.2; unfold maxLen; omega) (N := pv s k) (by rw [HR.out.1]; exact num_pv k (by have := HR.out.1; omega) HR.out.2) PB.out W
          have eh : hiW (pv s k) = 0 := by unfold hiW; have := HV.out; omega
          have el : loW (pv s k) = ((pv s k : Nat) : Int) := by unfold loW; have := HV.out; omega
          rw [eh, el] at RD
          clear eh el
          go_wp2_with fail
          refine (RD _).mono ?_
          rintro e w3 ⟨rfl, hb3⟩
          have O3 : Hid (OneB w w3 s p false) := O2.out.step hb3
          clear hb3
          have O4 : ∀ ob, OneB w (w3.alloc ob) s p false := fun ob => O3.out.step ((Below.refl _ _).alloc (Nat.le_refl _) _)
          have z0 : ∀ ob, (w3.alloc ob).cell? ⟨w.heap.size, 0, none⟩ = some (.string s) := fun ob => (O4 ob).a0
          have z1 : ∀ ob, (w3.alloc ob).cell? ⟨w.heap.size, 1, none⟩ = some (.int .i64 p) := fun ob => (O4 ob).a1
          have z2 : ∀ ob, (w3.alloc ob).cell? ⟨w.heap.size, 2, none⟩ = some (.bool false) := fun ob => (O4 ob).a2
          by_cases pn : p < 0
          · have g0 : ¬ (s.size : Int) ≤ 0 := by have := HZ.out pn; omega
            have ge : ¬ s = ByteArray.empty := fun h => by have q := HZ.out pn; rw [h] at q; exact absurd q (by decide)
            have HO : Hid (onB s false p = true) := by
              show onB s false p = true
              unfold onB
              rw [Bool.false_or]
              apply decide_eq_true
              have := HZ.out
              omega
            go_wp2
            go_region
            all_goals
              go_wp2
              refine bodyPost_ret (v := .tuple #[.int .u64 ((pv s k : Nat) : Int), .bool false, .int .i64 0]) (by simp [results, Tryd.results23, go_sem] <;> assumption) rfl ⟨by first | (rw [HO.out]; rfl) | (rw [cz, HO.out]; rfl), ?_⟩
              exact (O4 _).bel.drew
          · by_cases pq : (s.size : Int) ≤ p
            · have HO : Hid (onB s false p = false) := by
                show onB s false p = false
                unfold onB
                rw [Bool.false_or]
                apply decide_eq_false
                have := HZ.out
                omega
              go_wp2
              go_region
              all_goals
                go_wp2
                refine bodyPost_ret (v := .tuple #[.int .u64 ((pv s k : Nat) : Int), .bool true, .int .i64 0]) (by simp [results, Tryd.results23, go_sem]) rfl ⟨by first | (rw [HO.out]; rfl) | (rw [cz, HO.out]; rfl), ?_⟩
                exact (O4 _).bel.drew
            · have pl : p < (s.size : Int) := by omega
              have HO : Hid (onB s false p = true) := by
                show onB s false p = true
                unfold onB
                rw [Bool.false_or]
                apply decide_eq_true
                have := HZ.out
                omega
              go_wp2
              go_region
              all_goals
                go_wp2
                refine bodyPost_ret (v := .tuple #[.int .u64 ((pv s k : Nat) : Int), .bool false, .int .i64 0]) (by simp [results, Tryd.results23, go_sem] <;> assumption) rfl ⟨by first | (rw [HO.out]; rfl) | (rw [cz, HO.out]; rfl), ?_⟩
                exact (O4 _).bel.drew

set_option maxRecDepth 100000 in
set_option maxHeartbeats 2000000 in
theorem ruint_over {s : ByteArray} {p : Int} {c : Bool} (h : VD s p c) (hc : c = true → p ≤ (s.size : Int)) (hp : p ≤ 20) {P : Nat} (hP : P = p.toNat) (hv : 18446744073709551616 ≤ pv s P) (w : World) :
    Calls Tryd.prog 23 #[dcV s p c] w fun e w' => e = .returned (.tuple #[.int .u64 0, .bool false, .int .i64 4]) ∧ Below w.heap.size w w' := by
  have VV := fun W => rvald_yes h W
  have hd : DG s := by
    rcases h with g | g
    · intro i hi; have := g.1; omega
    · exact g.dg
  have HF : Hid (0 < P → dgt s 0 ≠ 48) := fun q => by
    rcases h with g | g
    · have := g.2.1; omega
    · rw [dgt_lt g.pos]; exact g.first
  have HZ : Hid (p < 0 → 0 < s.size) := fun q => by
    rcases h with g | g
    · have := g.2.1; omega
    · exact g.pos
  have DD := fun k W => at_any s p c k W
  have HD : Hid (DG s) := hd
  have HV : Hid (18446744073709551616 ≤ pv s P) := hv
  have HP : Hid (P = p.toNat ∧ P ≤ 20) := ⟨hP, by omega⟩
  have q0 : ¬ 20 < p := by omega
  clear h hd hv hP hp
  cases c with
  | true =>
    have g0 : decide ((s.size : Int) < p) = false := decide_eq_false (by have := hc rfl; omega)
    clear hc
    unfold dcV at *
    go_enter Tryd.func23, Tryd.ntmps23
    go_wp2_with fail
    refine (VV _).mono ?_
    rintro e w1 ⟨rfl, hb1⟩
    have O1 : Hid (OneB w w1 s p true) := (OneB.start w s p true).step hb1
    clear hb1
    obtain ⟨_, _, a0, a1, a2⟩ := O1.out
    go_wp2
    clear a0 a1 a2
    go_loopw [5, 6] (fun v5 v6 wr => ∃ (k : Nat) (r : ByteArray), v5 = .string r ∧ v6 = .int .i64 (k : Int) ∧ k ≤ P ∧ Hid (r.size = k ∧ ∀ i, i < k → dgt r i = dgt s i) ∧ Hid (OneB w wr s p true)) (fun _ i _ => P - (intOf i).toNat)
    case atStart => exact ⟨0, ⟨#[]⟩, rfl, rfl, Nat.zero_le _, ⟨rfl, fun i hi => absurd hi (by omega)⟩, O1⟩
    case round =>
      obtain ⟨k, r, rfl, rfl, hk, HR, O2⟩ := hrel
      have HK : Hid (k ≤ P) := hk
      clear hk O1
      obtain ⟨_, _, a0, a1, a2⟩ := O2.out
      by_cases c1 : k < P
      · have i0 : (k : Int) < p := by have := HP.out; omega
        have C1 : Hid (k < P) := c1
        have yd := dgt_in HD.out k
        obtain ⟨y, hy⟩ : ∃ y, y = dgt s k := ⟨_, rfl⟩
        have D1 := DD k
        rw [← hy] at D1
        obtain ⟨y1, hy1⟩ : ∃ y1, y1 = strOfNums ((List.range 1).map fun _ => (y : Int)) := ⟨_, rfl⟩
        have ys := nums_dgt (fun _ => y) 1 (fun i _ => by omega)
        rw [← hy1] at ys
        obtain ⟨r2, hr2⟩ : ∃ r2, r2 = r ++ y1 := ⟨_, rfl⟩
        have H2 : Hid (r2.size = k + 1 ∧ ∀ i, i < k + 1 → dgt r2 i = dgt s i) := by
          have z := HR.out
          refine ⟨by rw [hr2, ByteArray.size_append]; omega, fun i hi => ?_⟩
          rw [hr2, app_dgt]
          by_cases zz : i < r.size
          · rw [if_pos zz]; exact z.2 i (by omega)
          · rw [if_neg zz, show i - r.size = 0 by omega, ys.2 0 (by omega), hy, show i = k by omega]
        have qa : ∀ W, (Op.stringOp .add r y1).run Tryd.prog W = .ok (.string r2) W := fun W => by rw [hr2]; exact run_string_add_sum W _ _ (by have := HR.out.1; have := C1.out; have := HP.out; omega)
        have cv : ∀ W, (Go.convert 48 9 (.slice (some ⟨World.heap W |>.size, 0, none⟩) 1 1)).run Tryd.prog (W.alloc (.cells #[.int .u8 (y : Int)] 5)) = .ok (.string y1) (W.alloc (.cells #[.int .u8 (y : Int)] 5)) := fun W => by
          rw [hy1]
          refine run_convert_bytes_arg _ 48 5 und_bytes48 und_u8b W.heap.size 0 1 1 _ (by simp) ?_ 9 und_str9b
          intro i hi
          have z0 : i = 0 := by omega
          subst z0
          simp
        have ek : IntKind.i64.wrap ((k : Int) + 1) = (k : Int) + 1 := by
          have := HP.out
          unfold IntKind.wrap
          simp [IntKind.bits, IntKind.signed]
          omega
        clear yd hy hy1 ys hr2 c1
        go_wp2_with fail
        refine (D1 _).mono ?_
        rintro e w3 ⟨rfl, hb3⟩
        have O3 : Hid (OneB w w3 s p true) := O2.out.step hb3
        clear hb3
        go_wp2
        go_roundw
        case rel => exact ⟨k + 1, r2, rfl, by go_num, by have := C1.out; omega, H2, O3.out.step ((Below.refl _ _).alloc (Nat.le_refl _) _)⟩
        case measure => have := C1.out; (simp [intOf] <;> omega)
      · obtain rfl : k = P := by have := HK.out; omega
        have i0 : ¬ (k : Int) < p := by have := HP.out; omega
        have PB : Hid (pv s k < 340282366920938463463374607431768211456) := pv_small HD.out HP.out.2
        by_cases cz : k = 0
        · have rz : r = ⟨#[]⟩ := size_zero (by rw [HR.out.1, cz])
          subst rz
          have RD := fun W => read_of isNum_zero (by decide) (N := pv s k) (by rw [cz]; rfl) PB.out W
          obtain ⟨hh, ehh⟩ : ∃ hh, hh = hiW (pv s k) := ⟨_, rfl⟩
          have nz : (hh == 0) = false := beq_eq_false_iff_ne.mpr (by rw [ehh]; unfold hiW; have := HV.out; omega)
          rw [← ehh] at RD
          clear ehh
          generalize loW (pv s k) = ll at *
          go_wp2_with fail
          refine (RD _).mono ?_
          rintro e w3 ⟨rfl, hb3⟩
          have O3 : Hid (OneB w w3 s p true) := O2.out.step hb3
          clear hb3
          go_wp2
          refine bodyPost_ret (v := .tuple #[.int .u64 0, .bool false, .int .i64 4]) (by simp [results, Tryd.results23, go_sem]) rfl ⟨rfl, ?_⟩
          exact O3.out.bel.alloc (Nat.le_trans (Nat.le_succ _) O3.out.sz) _
        · have hE := empty_false (s := r) (by have := HR.out.1; omega)
          have RD := fun W => read_of (isNum_of_dgt HD.out (by have := HR.out.1; omega) (fun i hi => HR.out.2 i (by have := HR.out.1; omega)) (HF.out (by omega))) (by have := HR.out.1; have := HP.out.2; unfold maxLen; omega) (N := pv s k) (by rw [HR.out.1]; exact num_pv k (by have := HR.out.1; omega) HR.out.2) PB.out W
          obtain ⟨hh, ehh⟩ : ∃ hh, hh = hiW (pv s k) := ⟨_, rfl⟩
          have nz : (hh == 0) = false := beq_eq_false_iff_ne.mpr (by rw [ehh]; unfold hiW; have := HV.out; omega)
          rw [← ehh] at RD
          clear ehh
          generalize loW (pv s k) = ll at *
          go_wp2_with fail
          refine (RD _).mono ?_
          rintro e w3 ⟨rfl, hb3⟩
          have O3 : Hid (OneB w w3 s p true) := O2.out.step hb3
          clear hb3
          go_wp2
          refine bodyPost_ret (v := .tuple #[.int .u64 0, .bool false, .int .i64 4]) (by simp [results, Tryd.results23, go_sem]) rfl ⟨rfl, ?_⟩
          exact O3.out.bel.alloc (Nat.le_trans (Nat.le_succ _) O3.out.sz) _
  | false =>
    clear hc
    unfold dcV at *
    go_enter Tryd.func23, Tryd.ntmps23
    go_wp2_with fail
    refine (VV _).mono ?_
    rintro e w1 ⟨rfl, hb1⟩
    have O1 : Hid (OneB w w1 s p false) := (OneB.start w s p false).step hb1
    clear hb1
    obtain ⟨_, _, a0, a1, a2⟩ := O1.out
    go_wp2
    clear a0 a1 a2
    go_loopw [5, 6] (fun v5 v6 wr => ∃ (k : Nat) (r : ByteArray), v5 = .string r ∧ v6 = .int .i64 (k : Int) ∧ k ≤ P ∧ Hid (r.size = k ∧ ∀ i, i < k → dgt r i = dgt s i) ∧ Hid (OneB w wr s p false)) (fun _ i _ => P - (intOf i).toNat)
    case atStart => exact ⟨0, ⟨#[]⟩, rfl, rfl, Nat.zero_le _, ⟨rfl, fun i hi => absurd hi (by omega)⟩, O1⟩
    case round =>
      obtain ⟨k, r, rfl, rfl, hk, HR, O2⟩ := hrel
      have HK : Hid (k ≤ P) := hk
      clear hk O1
      obtain ⟨_, _, a0, a1, a2⟩ := O2.out
      by_cases c1 : k < P
      · have i0 : (k : Int) < p := by have := HP.out; omega
        have C1 : Hid (k < P) := c1
        have yd := dgt_in HD.out k
        obtain ⟨y, hy⟩ : ∃ y, y = dgt s k := ⟨_, rfl⟩
        have D1 := DD k
        rw [← hy] at D1
        obtain ⟨y1, hy1⟩ : ∃ y1, y1 = strOfNums ((List.range 1).map fun _ => (y : Int)) := ⟨_, rfl⟩
        have ys := nums_dgt (fun _ => y) 1 (fun i _ => by omega)
        rw [← hy1] at ys
        obtain ⟨r2, hr2⟩ : ∃ r2, r2 = r ++ y1 := ⟨_, rfl⟩
        have H2 : Hid (r2.size = k + 1 ∧ ∀ i, i < k + 1 → dgt r2 i = dgt s i) := by
          have z := HR.out
          refine ⟨by rw [hr2, ByteArray.size_append]; omega, fun i hi => ?_⟩
          rw [hr2, app_dgt]
          by_cases zz : i < r.size
          · rw [if_pos zz]; exact z.2 i (by omega)
          · rw [if_neg zz, show i - r.size = 0 by omega, ys.2 0 (by omega), hy, show i = k by omega]
        have qa : ∀ W, (Op.stringOp .add r y1).run Tryd.prog W = .ok (.string r2) W := fun W => by rw [hr2]; exact run_string_add_sum W _ _ (by have := HR.out.1; have := C1.out; have := HP.out; omega)
        have cv : ∀ W, (Go.convert 48 9 (.slice (some ⟨World.heap W |>.size, 0, none⟩) 1 1)).run Tryd.prog (W.alloc (.cells #[.int .u8 (y : Int)] 5)) = .ok (.string y1) (W.alloc (.cells #[.int .u8 (y : Int)] 5)) := fun W => by
          rw [hy1]
          refine run_convert_bytes_arg _ 48 5 und_bytes48 und_u8b W.heap.size 0 1 1 _ (by simp) ?_ 9 und_str9b
          intro i hi
          have z0 : i = 0 := by omega
          subst z0
          simp
        have ek : IntKind.i64.wrap ((k : Int) + 1) = (k : Int) + 1 := by
          have := HP.out
          unfold IntKind.wrap
          simp [IntKind.bits, IntKind.signed]
          omega
        clear yd hy hy1 ys hr2 c1
        go_wp2_with fail
        refine (D1 _).mono ?_
        rintro e w3 ⟨rfl, hb3⟩
        have O3 : Hid (OneB w w3 s p false) := O2.out.step hb3
        clear hb3
        go_wp2
        go_roundw
        case rel => exact ⟨k + 1, r2, rfl, by go_num, by have := C1.out; omega, H2, O3.out.step ((Below.refl _ _).alloc (Nat.le_refl _) _)⟩
        case measure => have := C1.out; (simp [intOf] <;> omega)
      · obtain rfl : k = P := by have := HK.out; omega
        have i0 : ¬ (k : Int) < p := by have := HP.out; omega
        have PB : Hid (pv s k < 340282366920938463463374607431768211456) := pv_small HD.out HP.out.2
        by_cases cz : k = 0
        · have rz : r = ⟨#[]⟩ := size_zero (by rw [HR.out.1, cz])
          subst rz
          have RD := fun W => read_of isNum_zero (by decide) (N := pv s k) (by rw [cz]; rfl) PB.out W
          obtain ⟨hh, ehh⟩ : ∃ hh, hh = hiW (pv s k) := ⟨_, rfl⟩
          have nz : (hh == 0) = false := beq_eq_false_iff_ne.mpr (by rw [ehh]; unfold hiW; have := HV.out; omega)
          rw [← ehh] at RD
          clear ehh
          generalize loW (pv s k) = ll at *
          go_wp2_with fail
          refine (RD _).mono ?_
          rintro e w3 ⟨rfl, hb3⟩
          have O3 : Hid (OneB w w3 s p false) := O2.out.step hb3
          clear hb3
          go_wp2
          refine bodyPost_ret (v := .tuple #[.int .u64 0, .bool false, .int .i64 4]) (by simp [results, Tryd.results23, go_sem]) rfl ⟨rfl, ?_⟩
          exact O3.out.bel.alloc (Nat.le_trans (Nat.le_succ _) O3.out.sz) _
        · have hE := empty_false (s := r) (by have := HR.out.1; omega)
          have RD := fun W => read_of (isNum_of_dgt HD.out (by have := HR.out.1; omega) (fun i hi => HR.out.2 i (by have := HR.out.1; omega)) (HF.out (by omega))) (by have := HR.out.1; have := HP.out.2; unfold maxLen; omega) (N := pv s k) (by rw [HR.out.1]; exact num_pv k (by have := HR.out.1; omega) HR.out.2) PB.out W
          obtain ⟨hh, ehh⟩ : ∃ hh, hh = hiW (pv s k) := ⟨_, rfl⟩
          have nz : (hh == 0) = false := beq_eq_false_iff_ne.mpr (by rw [ehh]; unfold hiW; have := HV.out; omega)
          rw [← ehh] at RD
          clear ehh
          generalize loW (pv s k) = ll at *
          go_wp2_with fail
          refine (RD _).mono ?_
          rintro e w3 ⟨rfl, hb3⟩
          have O3 : Hid (OneB w w3 s p false) := O2.out.step hb3
          clear hb3
          go_wp2
          refine bodyPost_ret (v := .tuple #[.int .u64 0, .bool false, .int .i64 4]) (by simp [results, Tryd.results23, go_sem]) rfl ⟨rfl, ?_⟩
          exact O3.out.bel.alloc (Nat.le_trans (Nat.le_succ _) O3.out.sz) _

end Go.Proofs.YtladeppjccfbhaaDoor
