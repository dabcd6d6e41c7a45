/-
  dec.digitAt and dec.Uint.
-/
import Derived.Test.YtladeppjccfbhaaDoorDecR
namespace Go.Proofs.YtladeppjccfbhaaDoor
open Go.RowKit

theorem pv_mono (s : ByteArray) : ∀ n k, pv s n ≤ pv s (n + k)
  | _, 0 => Nat.le_refl _
  | n, k + 1 => by
    have := pv_mono s n k
    rw [← Nat.add_assoc]
    show pv s n ≤ 10 * pv s (n + k) + _
    omega

set_option maxRecDepth 100000 in
theorem digitAt_any {s : ByteArray} {p : Int} {c : Bool} (hd : DG s) (i : Nat) (w : World) :
    Calls Tryd.prog 54 #[dcV s p c, .int .i64 (i : Int)] w fun e w' => e = .returned (.int .u64 ((dgt s i - 48 : Nat) : Int)) ∧ Below w.heap.size w w' := by
  unfold dcV
  by_cases h : i < s.size
  · obtain ⟨x, hx⟩ : ∃ x, x = (s[i]'h).toNat := ⟨_, rfl⟩
    have ex : dgt s i = x := by rw [dgt_lt h, hx]
    have xd := dgt_in hd i
    rw [ex] at xd ⊢
    obtain ⟨y, hy⟩ : ∃ y, y = x - 48 := ⟨_, rfl⟩
    rw [← hy]
    have e1 : IntKind.u8.wrap ((((s[i]'h).toNat : Nat) : Int) - 48) = (y : Int) := by
      rw [← hx]
      unfold IntKind.wrap
      simp [IntKind.bits, IntKind.signed]
      omega
    have e2 : IntKind.u64.wrap (y : Int) = (y : Int) := by
      unfold IntKind.wrap
      simp [IntKind.bits, IntKind.signed]
      omega
    have i0 : ¬ (s.size : Int) ≤ (i : Int) := by omega
    have i1 : (i : Int) < (s.size : Int) := by omega
    clear hx ex xd hy
    go_enter Tryd.func54, Tryd.ntmps54
    go_wp2
    go_ret
    exact ⟨rfl, (Below.refl _ _).alloc (Nat.le_refl _) _⟩
  · rw [dgt_ge (by omega)]
    have i0 : (s.size : Int) ≤ (i : Int) := by omega
    go_enter Tryd.func54, Tryd.ntmps54
    go_wp2
    go_ret
    exact ⟨rfl, (Below.refl _ _).alloc (Nat.le_refl _) _⟩

set_option maxRecDepth 100000 in
set_option maxHeartbeats 2000000 in
theorem duint_bad {s : ByteArray} {p : Int} {c : Bool} (hs : s.size ≤ 9223372036854775807) (h : ¬ VD s p c) (w : World) :
    Calls Tryd.prog 22 #[dcV s p c] w fun e w' => e = .returned (.tuple #[.int .u64 0, .bool false, .iface 68 (.int .i64 1)]) ∧ Below w.heap.size w w' := by
  have VV := fun W => dvalid_no hs h W
  unfold dcV at *
  go_enter Tryd.func22, Tryd.ntmps22
  go_wp2_with fail
  refine (VV _).mono ?_
  rintro e w1 ⟨rfl, hb1⟩
  have O1 : Hid (OneB w w1 s p c) := (OneB.start w s p c).step hb1
  clear hb1
  obtain ⟨_, _, a0, a1, a2⟩ := O1.out
  go_wp2
  refine bodyPost_ret (v := .tuple #[.int .u64 0, .bool false, .iface 68 (.int .i64 1)]) (by simp [results, Tryd.results22, go_sem]) rfl ⟨rfl, ?_⟩
  exact O1.out.bel

set_option maxRecDepth 100000 in
set_option maxHeartbeats 2000000 in
theorem duint_cut {s : ByteArray} {p : Int} (h : VD s p true) (hp : (s.size : Int) < p) (w : World) :
    Calls Tryd.prog 22 #[dcV s p true] w fun e w' => e = .returned (.tuple #[.int .u64 0, .bool false, .iface 68 (.int .i64 1)]) ∧ Below w.heap.size w w' := by
  have VV := fun W => dvalid_yes h W
  clear h
  unfold dcV at *
  go_enter Tryd.func22, Tryd.ntmps22
  go_wp2_with fail
  refine (VV _).mono ?_
  rintro e w1 ⟨rfl, hb1⟩
  have O1 : Hid (OneB w w1 s p true) := (OneB.start w s p true).step hb1
  clear hb1
  obtain ⟨_, _, a0, a1, a2⟩ := O1.out
  go_wp2
  refine bodyPost_ret (v := .tuple #[.int .u64 0, .bool false, .iface 68 (.int .i64 1)]) (by simp [results, Tryd.results22, go_sem]) rfl ⟨rfl, ?_⟩
  exact O1.out.bel

set_option maxRecDepth 100000 in
set_option maxHeartbeats 2000000 in
theorem duint_far {s : ByteArray} {p : Int} {c : Bool} (h : VD s p c) (hc : c = true → p ≤ (s.size : Int)) (hp : 20 < p) (w : World) :
    Calls Tryd.prog 22 #[dcV s p c] w fun e w' => e = .returned (.tuple #[.int .u64 0, .bool false, .iface 68 (.int .i64 4)]) ∧ Below w.heap.size w w' := by
  have VV := fun W => dvalid_yes h W
  clear h
  cases c with
  | true =>
    have g0 : decide ((s.size : Int) < p) = false := decide_eq_false (by have := hc rfl; omega)
    clear hc
    unfold dcV at *
    go_enter Tryd.func22, Tryd.ntmps22
    go_wp2_with fail
    refine (VV _).mono ?_
    rintro e w1 ⟨rfl, hb1⟩
    have O1 : Hid (OneB w w1 s p true) := (OneB.start w s p true).step hb1
    clear hb1
    obtain ⟨_, _, a0, a1, a2⟩ := O1.out
    go_wp2
    refine bodyPost_ret (v := .tuple #[.int .u64 0, .bool false, .iface 68 (.int .i64 4)]) (by simp [results, Tryd.results22, go_sem]) rfl ⟨rfl, ?_⟩
    exact O1.out.bel
  | false =>
    clear hc
    unfold dcV at *
    go_enter Tryd.func22, Tryd.ntmps22
    go_wp2_with fail
    refine (VV _).mono ?_
    rintro e w1 ⟨rfl, hb1⟩
    have O1 : Hid (OneB w w1 s p false) := (OneB.start w s p false).step hb1
    clear hb1
    obtain ⟨_, _, a0, a1, a2⟩ := O1.out
    go_wp2
    refine bodyPost_ret (v := .tuple #[.int .u64 0, .bool false, .iface 68 (.int .i64 4)]) (by simp [results, Tryd.results22, go_sem]) rfl ⟨rfl, ?_⟩
    exact O1.out.bel

set_option maxRecDepth 100000 in
set_option maxHeartbeats 2000000 in
theorem duint_ok {s : ByteArray} {p : Int} {c : Bool} (h : VD s p c) (hc : c = true → p ≤ (s.size : Int)) (hp : p ≤ 20) {P : Nat} (hP : P = p.toNat) (hv : pv s P < 18446744073709551616) (w : World) :
    Calls Tryd.prog 22 #[dcV s p c] w fun e w' => e = .returned (.tuple #[.int .u64 ((pv s P : Nat) : Int), .bool (!(onB s c p)), .nilIface]) ∧ Below w.heap.size w w' := by
  have VV := fun W => dvalid_yes h W
  have hd : DG s := by
    rcases h with g | g
    · intro i hi; have := g.1; omega
    · exact g.dg
  have DD := fun k W => digitAt_any (p := p) (c := c) hd k W
  have GO := fun W => goesOn_any s p c p W
  have HD : Hid (DG s) := hd
  have HV : Hid (pv s P < 18446744073709551616) := hv
  have HP : Hid (P = p.toNat) := hP
  have q0 : ¬ 20 < p := by omega
  clear h hd hv hP hp
  obtain ⟨ob, hob⟩ : ∃ ob, ob = onB s c p := ⟨_, rfl⟩
  rw [← hob] at GO ⊢
  clear hob
  cases c with
  | true =>
    have g0 : decide ((s.size : Int) < p) = false := decide_eq_false (by have := hc rfl; omega)
    clear hc
    unfold dcV at *
    go_enter Tryd.func22, Tryd.ntmps22
    go_wp2_with fail
    refine (VV _).mono ?_
    rintro e w1 ⟨rfl, hb1⟩
    have O1 : Hid (OneB w w1 s p true) := (OneB.start w s p true).step hb1
    clear hb1
    obtain ⟨_, _, a0, a1, a2⟩ := O1.out
    go_wp2
    clear a0 a1 a2
    go_loopw [5, 30] (fun v5 v30 wr => ∃ k : Nat, v5 = .int .u64 ((pv s k : Nat) : Int) ∧ v30 = .int .i64 (k : Int) ∧ k ≤ P ∧ Hid (pv s k < 18446744073709551616) ∧ Hid (OneB w wr s p true)) (fun _ i _ => P - (intOf i).toNat)
    case atStart => exact ⟨0, rfl, rfl, Nat.zero_le _, (show 0 < 18446744073709551616 by decide), O1⟩
    case round =>
      obtain ⟨k, rfl, rfl, hk, HL, O2⟩ := hrel
      have HK : Hid (k ≤ P) := hk
      clear hk O1
      obtain ⟨_, _, a0, a1, a2⟩ := O2.out
      by_cases c1 : k < P
      · have i0 : (k : Int) < p := by have := HP.out; omega
        have C1 : Hid (k < P) := c1
        have yd := dgt_in HD.out k
        obtain ⟨y, hy⟩ : ∃ y, y = dgt s k - 48 := ⟨_, rfl⟩
        have D1 := DD k
        rw [← hy] at D1
        obtain ⟨v, hvv⟩ : ∃ v, v = pv s k := ⟨_, rfl⟩
        have HN : Hid (pv s (k + 1) = 10 * v + y) := by show pv s (k + 1) = 10 * v + y; rw [hvv, hy]; rfl
        have vl : v < 18446744073709551616 := by rw [hvv]; exact HL.out
        rw [← hvv]
        obtain ⟨m, hm⟩ : ∃ m, m = 18446744073709551615 - y := ⟨_, rfl⟩
        obtain ⟨q, hq⟩ : ∃ q, q = m / 10 := ⟨_, rfl⟩
        have e1 : IntKind.u64.wrap (18446744073709551615 - (y : Int)) = (m : Int) := by
          unfold IntKind.wrap
          simp [IntKind.bits, IntKind.signed]
          omega
        have e2 : (m : Int) / 10 = (q : Int) := by omega
        have e2' : IntKind.u64.wrap (q : Int) = (q : Int) := by
          unfold IntKind.wrap
          simp [IntKind.bits, IntKind.signed]
          omega
        have ek : IntKind.i64.wrap ((k : Int) + 1) = (k : Int) + 1 := by
          have := HP.out
          unfold IntKind.wrap
          simp [IntKind.bits, IntKind.signed]
          omega
        by_cases c2 : 10 * v + y < 18446744073709551616
        · obtain ⟨z, hz⟩ : ∃ z, z = 10 * v := ⟨_, rfl⟩
          obtain ⟨x, hx⟩ : ∃ x, x = 10 * v + y := ⟨_, rfl⟩
          have g1 : ¬ (q : Int) < (v : Int) := by omega
          have e3 : IntKind.u64.wrap ((v : Int) * 10) = (z : Int) := by
            unfold IntKind.wrap
            simp [IntKind.bits, IntKind.signed]
            omega
          have e4 : IntKind.u64.wrap ((z : Int) + (y : Int)) = (x : Int) := by
            unfold IntKind.wrap
            simp [IntKind.bits, IntKind.signed]
            omega
          have HX : Hid (x = pv s (k + 1) ∧ x < 18446744073709551616) := ⟨by rw [HN.out]; exact hx, by omega⟩
          clear yd hy hvv vl hm hq c1 c2 hz hx
          go_wp2_with fail
          refine (D1 _).mono ?_
          rintro e w3 ⟨rfl, hb3⟩
          have O3 : Hid (OneB w w3 s p true) := O2.out.step hb3
          clear hb3
          go_wp2
          go_roundw
          case rel => exact ⟨k + 1, by rw [← HX.out.1], by go_num, by have := C1.out; omega, (by have := HX.out; rw [← this.1]; exact this.2), O3⟩
          case measure => have := C1.out; (simp [intOf] <;> omega)
        · have g1 : (q : Int) < (v : Int) := by omega
          have BIG : Hid (18446744073709551616 ≤ pv s P) := by
            have a := pv_mono s (k + 1) (P - (k + 1))
            rw [show k + 1 + (P - (k + 1)) = P by omega, HN.out] at a
            show 18446744073709551616 ≤ pv s P
            omega
          clear yd hy hvv vl hm hq c1 c2
          exact absurd BIG.out (by have := HV.out; omega)
      · obtain rfl : k = P := by have := HK.out; omega
        have i0 : ¬ (k : Int) < p := by have := HP.out; omega
        go_wp2_with fail
        refine (GO _).mono ?_
        rintro e w3 ⟨rfl, hb3⟩
        have O3 : Hid (OneB w w3 s p true) := O2.out.step hb3
        clear hb3
        go_wp2
        refine bodyPost_ret (v := .tuple #[.int .u64 ((pv s k : Nat) : Int), .bool (!ob), .nilIface]) (by simp [results, Tryd.results22, go_sem]) rfl ⟨rfl, ?_⟩
        exact O3.out.bel
  | false =>
    clear hc
    unfold dcV at *
    go_enter Tryd.func22, Tryd.ntmps22
    go_wp2_with fail
    refine (VV _).mono ?_
    rintro e w1 ⟨rfl, hb1⟩
    have O1 : Hid (OneB w w1 s p false) := (OneB.start w s p false).step hb1
    clear hb1
    obtain ⟨_, _, a0, a1, a2⟩ := O1.out
    go_wp2
    clear a0 a1 a2
    go_loopw [5, 30] (fun v5 v30 wr => ∃ k : Nat, v5 = .int .u64 ((pv s k : Nat) : Int) ∧ v30 = .int .i64 (k : Int) ∧ k ≤ P ∧ Hid (pv s k < 18446744073709551616) ∧ Hid (OneB w wr s p false)) (fun _ i _ => P - (intOf i).toNat)
    case atStart => exact ⟨0, rfl, rfl, Nat.zero_le _, (show 0 < 18446744073709551616 by decide), O1⟩
    case round =>
      obtain ⟨k, rfl, rfl, hk, HL, O2⟩ := hrel
      have HK : Hid (k ≤ P) := hk
      clear hk O1
      obtain ⟨_, _, a0, a1, a2⟩ := O2.out
      by_cases c1 : k < P
      · have i0 : (k : Int) < p := by have := HP.out; omega
        have C1 : Hid (k < P) := c1
        have yd := dgt_in HD.out k
        obtain ⟨y, hy⟩ : ∃ y, y = dgt s k - 48 := ⟨_, rfl⟩
        have D1 := DD k
        rw [← hy] at D1
        obtain ⟨v, hvv⟩ : ∃ v, v = pv s k := ⟨_, rfl⟩
        have HN : Hid (pv s (k + 1) = 10 * v + y) := by show pv s (k + 1) = 10 * v + y; rw [hvv, hy]; rfl
        have vl : v < 18446744073709551616 := by rw [hvv]; exact HL.out
        rw [← hvv]
        obtain ⟨m, hm⟩ : ∃ m, m = 18446744073709551615 - y := ⟨_, rfl⟩
        obtain ⟨q, hq⟩ : ∃ q, q = m / 10 := ⟨_, rfl⟩
        have e1 : IntKind.u64.wrap (18446744073709551615 - (y : Int)) = (m : Int) := by
          unfold IntKind.wrap
          simp [IntKind.bits, IntKind.signed]
          omega
        have e2 : (m : Int) / 10 = (q : Int) := by omega
        have e2' : IntKind.u64.wrap (q : Int) = (q : Int) := by
          unfold IntKind.wrap
          simp [IntKind.bits, IntKind.signed]
          omega
        have ek : IntKind.i64.wrap ((k : Int) + 1) = (k : Int) + 1 := by
          have := HP.out
          unfold IntKind.wrap
          simp [IntKind.bits, IntKind.signed]
          omega
        by_cases c2 : 10 * v + y < 18446744073709551616
        · obtain ⟨z, hz⟩ : ∃ z, z = 10 * v := ⟨_, rfl⟩
          obtain ⟨x, hx⟩ : ∃ x, x = 10 * v + y := ⟨_, rfl⟩
          have g1 : ¬ (q : Int) < (v : Int) := by omega
          have e3 : IntKind.u64.wrap ((v : Int) * 10) = (z : Int) := by
            unfold IntKind.wrap
            simp [IntKind.bits, IntKind.signed]
            omega
          have e4 : IntKind.u64.wrap ((z : Int) + (y : Int)) = (x : Int) := by
            unfold IntKind.wrap
            simp [IntKind.bits, IntKind.signed]
            omega
          have HX : Hid (x = pv s (k + 1) ∧ x < 18446744073709551616) := ⟨by rw [HN.out]; exact hx, by omega⟩
          clear yd hy hvv vl hm hq c1 c2 hz hx
          go_wp2_with fail
          refine (D1 _).mono ?_
          rintro e w3 ⟨rfl, hb3⟩
          have O3 : Hid (OneB w w3 s p false) := O2.out.step hb3
          clear hb3
          go_wp2
          go_roundw
          case rel => exact ⟨k + 1, by rw [← HX.out.1], by go_num, by have := C1.out; omega, (by have := HX.out; rw [← this.1]; exact this.2), O3⟩
          case measure => have := C1.out; (simp [intOf] <;> omega)
        · have g1 : (q : Int) < (v : Int) := by omega
          have BIG : Hid (18446744073709551616 ≤ pv s P) := by
            have a := pv_mono s (k + 1) (P - (k + 1))
            rw [show k + 1 + (P - (k + 1)) = P by omega, HN.out] at a
            show 18446744073709551616 ≤ pv s P
            omega
          clear yd hy hvv vl hm hq c1 c2
          exact absurd BIG.out (by have := HV.out; omega)
      · obtain rfl : k = P := by have := HK.out; omega
        have i0 : ¬ (k : Int) < p := by have := HP.out; omega
        go_wp2_with fail
        refine (GO _).mono ?_
        rintro e w3 ⟨rfl, hb3⟩
        have O3 : Hid (OneB w w3 s p false) := O2.out.step hb3
        clear hb3
        go_wp2
        refine bodyPost_ret (v := .tuple #[.int .u64 ((pv s k : Nat) : Int), .bool (!ob), .nilIface]) (by simp [results, Tryd.results22, go_sem]) rfl ⟨rfl, ?_⟩
        exact O3.out.bel

set_option maxRecDepth 100000 in
set_option maxHeartbeats 2000000 in
theorem duint_over {s : ByteArray} {p : Int} {c : Bool} (h : VD s p c) (hc : c = true → p ≤ (s.size : Int)) (hp : p ≤ 20) {P : Nat} (hP : P = p.toNat) (hv : 18446744073709551616 ≤ pv s P) (w : World) :
    Calls Tryd.prog 22 #[dcV s p c] w fun e w' => e = .returned (.tuple #[.int .u64 0, .bool false, .iface 68 (.int .i64 4)]) ∧ Below w.heap.size w w' := by
  have VV := fun W => dvalid_yes h W
  have hd : DG s := by
    rcases h with g | g
    · intro i hi; have := g.1; omega
    · exact g.dg
  have DD := fun k W => digitAt_any (p := p) (c := c) hd k W
  have GO := fun W => goesOn_any s p c p W
  have HD : Hid (DG s) := hd
  have HV : Hid (18446744073709551616 ≤ pv s P) := hv
  have HP : Hid (P = p.toNat) := hP
  have q0 : ¬ 20 < p := by omega
  clear h hd hv hP hp
  cases c with
  | true =>
    have g0 : decide ((s.size : Int) < p) = false := decide_eq_false (by have := hc rfl; omega)
    clear hc
    unfold dcV at *
    go_enter Tryd.func22, Tryd.ntmps22
    go_wp2_with fail
    refine (VV _).mono ?_
    rintro e w1 ⟨rfl, hb1⟩
    have O1 : Hid (OneB w w1 s p true) := (OneB.start w s p true).step hb1
    clear hb1
    obtain ⟨_, _, a0, a1, a2⟩ := O1.out
    go_wp2
    clear a0 a1 a2
    go_loopw [5, 30] (fun v5 v30 wr => ∃ k : Nat, v5 = .int .u64 ((pv s k : Nat) : Int) ∧ v30 = .int .i64 (k : Int) ∧ k ≤ P ∧ Hid (pv s k < 18446744073709551616) ∧ Hid (OneB w wr s p true)) (fun _ i _ => P - (intOf i).toNat)
    case atStart => exact ⟨0, rfl, rfl, Nat.zero_le _, (show 0 < 18446744073709551616 by decide), O1⟩
    case round =>
      obtain ⟨k, rfl, rfl, hk, HL, O2⟩ := hrel
      have HK : Hid (k ≤ P) := hk
      clear hk O1
      obtain ⟨_, _, a0, a1, a2⟩ := O2.out
      by_cases c1 : k < P
      · have i0 : (k : Int) < p := by have := HP.out; omega
        have C1 : Hid (k < P) := c1
        have yd := dgt_in HD.out k
        obtain ⟨y, hy⟩ : ∃ y, y = dgt s k - 48 := ⟨_, rfl⟩
        have D1 := DD k
        rw [← hy] at D1
        obtain ⟨v, hvv⟩ : ∃ v, v = pv s k := ⟨_, rfl⟩
        have HN : Hid (pv s (k + 1) = 10 * v + y) := by show pv s (k + 1) = 10 * v + y; rw [hvv, hy]; rfl
        have vl : v < 18446744073709551616 := by rw [hvv]; exact HL.out
        rw [← hvv]
        obtain ⟨m, hm⟩ : ∃ m, m = 18446744073709551615 - y := ⟨_, rfl⟩
        obtain ⟨q, hq⟩ : ∃ q, q = m / 10 := ⟨_, rfl⟩
        have e1 : IntKind.u64.wrap (18446744073709551615 - (y : Int)) = (m : Int) := by
          unfold IntKind.wrap
          simp [IntKind.bits, IntKind.signed]
          omega
        have e2 : (m : Int) / 10 = (q : Int) := by omega
        have e2' : IntKind.u64.wrap (q : Int) = (q : Int) := by
          unfold IntKind.wrap
          simp [IntKind.bits, IntKind.signed]
          omega
        have ek : IntKind.i64.wrap ((k : Int) + 1) = (k : Int) + 1 := by
          have := HP.out
          unfold IntKind.wrap
          simp [IntKind.bits, IntKind.signed]
          omega
        by_cases c2 : 10 * v + y < 18446744073709551616
        · obtain ⟨z, hz⟩ : ∃ z, z = 10 * v := ⟨_, rfl⟩
          obtain ⟨x, hx⟩ : ∃ x, x = 10 * v + y := ⟨_, rfl⟩
          have g1 : ¬ (q : Int) < (v : Int) := by omega
          have e3 : IntKind.u64.wrap ((v : Int) * 10) = (z : Int) := by
            unfold IntKind.wrap
            simp [IntKind.bits, IntKind.signed]
            omega
          have e4 : IntKind.u64.wrap ((z : Int) + (y : Int)) = (x : Int) := by
            unfold IntKind.wrap
            simp [IntKind.bits, IntKind.signed]
            omega
          have HX : Hid (x = pv s (k + 1) ∧ x < 18446744073709551616) := ⟨by rw [HN.out]; exact hx, by omega⟩
          clear yd hy hvv vl hm hq c1 c2 hz hx
          go_wp2_with fail
          refine (D1 _).mono ?_
          rintro e w3 ⟨rfl, hb3⟩
          have O3 : Hid (OneB w w3 s p true) := O2.out.step hb3
          clear hb3
          go_wp2
          go_roundw
          case rel => exact ⟨k + 1, by rw [← HX.out.1], by go_num, by have := C1.out; omega, (by have := HX.out; rw [← this.1]; exact this.2), O3⟩
          case measure => have := C1.out; (simp [intOf] <;> omega)
        · have g1 : (q : Int) < (v : Int) := by omega
          have BIG : Hid (18446744073709551616 ≤ pv s P) := by
            have a := pv_mono s (k + 1) (P - (k + 1))
            rw [show k + 1 + (P - (k + 1)) = P by omega, HN.out] at a
            show 18446744073709551616 ≤ pv s P
            omega
          clear yd hy hvv vl hm hq c1 c2
          go_wp2_with fail
          refine (D1 _).mono ?_
          rintro e w3 ⟨rfl, hb3⟩
          have O3 : Hid (OneB w w3 s p true) := O2.out.step hb3
          clear hb3
          go_wp2
          refine bodyPost_ret (v := .tuple #[.int .u64 0, .bool false, .iface 68 (.int .i64 4)]) (by simp [results, Tryd.results22, go_sem]) rfl ⟨rfl, ?_⟩
          exact O3.out.bel
      · obtain rfl : k = P := by have := HK.out; omega
        exact absurd HL.out (by have := HV.out; omega)
  | false =>
    clear hc
    unfold dcV at *
    go_enter Tryd.func22, Tryd.ntmps22
    go_wp2_with fail
    refine (VV _).mono ?_
    rintro e w1 ⟨rfl, hb1⟩
    have O1 : Hid (OneB w w1 s p false) := (OneB.start w s p false).step hb1
    clear hb1
    obtain ⟨_, _, a0, a1, a2⟩ := O1.out
    go_wp2
    clear a0 a1 a2
    go_loopw [5, 30] (fun v5 v30 wr => ∃ k : Nat, v5 = .int .u64 ((pv s k : Nat) : Int) ∧ v30 = .int .i64 (k : Int) ∧ k ≤ P ∧ Hid (pv s k < 18446744073709551616) ∧ Hid (OneB w wr s p false)) (fun _ i _ => P - (intOf i).toNat)
    case atStart => exact ⟨0, rfl, rfl, Nat.zero_le _, (show 0 < 18446744073709551616 by decide), O1⟩
    case round =>
      obtain ⟨k, rfl, rfl, hk, HL, O2⟩ := hrel
      have HK : Hid (k ≤ P) := hk
      clear hk O1
      obtain ⟨_, _, a0, a1, a2⟩ := O2.out
      by_cases c1 : k < P
      · have i0 : (k : Int) < p := by have := HP.out; omega
        have C1 : Hid (k < P) := c1
        have yd := dgt_in HD.out k
        obtain ⟨y, hy⟩ : ∃ y, y = dgt s k - 48 := ⟨_, rfl⟩
        have D1 := DD k
        rw [← hy] at D1
        obtain ⟨v, hvv⟩ : ∃ v, v = pv s k := ⟨_, rfl⟩
        have HN : Hid (pv s (k + 1) = 10 * v + y) := by show pv s (k + 1) = 10 * v + y; rw [hvv, hy]; rfl
        have vl : v < 18446744073709551616 := by rw [hvv]; exact HL.out
        rw [← hvv]
        obtain ⟨m, hm⟩ : ∃ m, m = 18446744073709551615 - y := ⟨_, rfl⟩
        obtain ⟨q, hq⟩ : ∃ q, q = m / 10 := ⟨_, rfl⟩
        have e1 : IntKind.u64.wrap (18446744073709551615 - (y : Int)) = (m : Int) := by
          unfold IntKind.wrap
          simp [IntKind.bits, IntKind.signed]
          omega
        have e2 : (m : Int) / 10 = (q : Int) := by omega
        have e2' : IntKind.u64.wrap (q : Int) = (q : Int) := by
          unfold IntKind.wrap
          simp [IntKind.bits, IntKind.signed]
          omega
        have ek : IntKind.i64.wrap ((k : Int) + 1) = (k : Int) + 1 := by
          have := HP.out
          unfold IntKind.wrap
          simp [IntKind.bits, IntKind.signed]
          omega
        by_cases c2 : 10 * v + y < 18446744073709551616
        · obtain ⟨z, hz⟩ : ∃ z, z = 10 * v := ⟨_, rfl⟩
          obtain ⟨x, hx⟩ : ∃ x, x = 10 * v + y := ⟨_, rfl⟩
          have g1 : ¬ (q : Int) < (v : Int) := by omega
          have e3 : IntKind.u64.wrap ((v : Int) * 10) = (z : Int) := by
            unfold IntKind.wrap
            simp [IntKind.bits, IntKind.signed]
            omega
          have e4 : IntKind.u64.wrap ((z : Int) + (y : Int)) = (x : Int) := by
            unfold IntKind.wrap
            simp [IntKind.bits, IntKind.signed]
            omega
          have HX : Hid (x = pv s (k + 1) ∧ x < 18446744073709551616) := ⟨by rw [HN.out]; exact hx, by omega⟩
          clear yd hy hvv vl hm hq c1 c2 hz hx
          go_wp2_with fail
          refine (D1 _).mono ?_
          rintro e w3 ⟨rfl, hb3⟩
          have O3 : Hid (OneB w w3 s p false) := O2.out.step hb3
          clear hb3
          go_wp2
          go_roundw
          case rel => exact ⟨k + 1, by rw [← HX.out.1], by go_num, by have := C1.out; omega, (by have := HX.out; rw [← this.1]; exact this.2), O3⟩
          case measure => have := C1.out; (simp [intOf] <;> omega)
        · have g1 : (q : Int) < (v : Int) := by omega
          have BIG : Hid (18446744073709551616 ≤ pv s P) := by
            have a := pv_mono s (k + 1) (P - (k + 1))
            rw [show k + 1 + (P - (k + 1)) = P by omega, HN.out] at a
            show 18446744073709551616 ≤ pv s P
            omega
          clear yd hy hvv vl hm hq c1 c2
          go_wp2_with fail
          refine (D1 _).mono ?_
          rintro e w3 ⟨rfl, hb3⟩
          have O3 : Hid (OneB w w3 s p false) := O2.out.step hb3
          clear hb3
          go_wp2
          refine bodyPost_ret (v := .tuple #[.int .u64 0, .bool false, .iface 68 (.int .i64 4)]) (by simp [results, Tryd.results22, go_sem]) rfl ⟨rfl, ?_⟩
          exact O3.out.bel
      · obtain rfl : k = P := by have := HK.out; omega
        exact absurd HL.out (by have := HV.out; omega)

end Go.Proofs.YtladeppjccfbhaaDoor
