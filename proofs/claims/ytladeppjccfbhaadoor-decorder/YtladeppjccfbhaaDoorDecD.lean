/-
  The document's next, digit by digit; made.
-/
import Derived.Test.YtladeppjccfbhaaDoorDecP
namespace Go.Proofs.YtladeppjccfbhaaDoor
open Go.RowKit

/-- What next answers, m digits being ahead of the nines behind. -/
def nxV (s : ByteArray) (p : Int) : Nat → Value
  | 0 => dcV ⟨#[49]⟩ (p + 1) false
  | m + 1 => dcV (upS s (m + 1)) p false
theorem nxV_pos {s : ByteArray} {p : Int} {m : Nat} (h : 0 < m) : nxV s p m = dcV (upS s m) p false := by
  obtain ⟨k, rfl⟩ : ∃ k, m = k + 1 := ⟨m - 1, by omega⟩
  rfl

set_option maxRecDepth 100000 in
set_option maxHeartbeats 1000000 in
theorem next_dig {s : ByteArray} {p : Int} {c : Bool} (h0 : 0 < s.size) (hs : s.size ≤ 800) (ds : DG s) (hp : -1099511627776 ≤ p) (hp' : p ≤ 1099511627776) {m : Nat} (hm : m ≤ s.size) (h9 : ∀ j, m ≤ j → j < s.size → dgt s j = 57) (hm1 : 0 < m → dgt s (m - 1) ≠ 57) (w : World) :
    Calls Tryd.prog 45 #[dcV s p c] w fun e w' => e = .returned (nxV s p m) ∧ Below w.heap.size w w' := by
  obtain ⟨W1, C, hcv, hC, hC', N1, R1⟩ := next_bytes w s p c hs
  have HN1 : Hid (NxW w W1 p) := N1
  have HR1 : Hid (BRow W1 (w.heap.size + 1 + 1) s.size (dgt s)) := R1
  have H9 : Hid (∀ j, m ≤ j → j < s.size → dgt s j = 57) := h9
  have HM : Hid (0 < m → dgt s (m - 1) ≠ 57) := hm1
  have HD : Hid (DG s) := ds
  obtain ⟨n, hn⟩ : ∃ n, n = s.size := ⟨_, rfl⟩
  have Hn : Hid (n = s.size) := hn
  rw [← hn] at hcv hs h0 hm hC HR1 H9
  have wp : IntKind.i64.wrap (p + 1) = p + 1 := by
    unfold IntKind.wrap
    simp [IntKind.bits, IntKind.signed]
    omega
  clear hn N1 R1 h9 hm1 ds
  unfold dcV
  go_enter Tryd.func45, Tryd.ntmps45
  go_wp2
  go_loopw [4] (fun iv wr => ∃ (k : Nat) (F : Nat → Nat), iv = .int .i64 ((k : Int) - 1) ∧ m ≤ k ∧ k ≤ n ∧ Hid (NxW w wr p) ∧ Hid (BRow wr (w.heap.size + 1 + 1) n F) ∧ Hid ((∀ j, j < k → F j = dgt s j) ∧ (∀ j, k ≤ j → j < n → F j = 48))) (fun iv _ => (intOf iv + 1).toNat)
  case atStart => exact ⟨n, dgt s, rfl, hm, Nat.le_refl _, HN1, HR1, fun _ _ => rfl, fun j a b => absurd a (by omega)⟩
  case round =>
    obtain ⟨k, F, rfl, hmk, hkn, HN, HR, HF⟩ := hrel
    clear HN1 HR1 hcv
    by_cases c1 : m < k
    · have ix : ((k : Int) - 1).toNat = k - 1 := by omega
      have hc := HR.out.cell (k - 1) (by omega)
      have hf := HR.out.fr (k - 1) (by omega)
      have e9 : F (k - 1) = 57 := (HF.out.1 (k - 1) (by omega)).trans (H9.out (k - 1) (by omega) (by omega))
      rw [e9] at hc
      clear e9
      go_wp2
      go_roundw
      case rel =>
        refine ⟨k - 1, putF F (k - 1) 48, by go_num, by omega, by omega, HN.out.set _ _, HR.out.set (by omega) 48, fun j hj => ?_, fun j a b => ?_⟩
        · unfold putF; rw [if_neg (by omega)]; exact HF.out.1 j (by omega)
        · unfold putF
          by_cases z : j = k - 1
          · rw [if_pos z]
          · rw [if_neg z]; exact HF.out.2 j (by omega) b
      case measure => simp [intOf]; omega
    · obtain rfl : k = m := by omega
      obtain ⟨_, _, a1, r0, r1, r2, fr⟩ := HN.out
      by_cases c2 : k = 0
      · subst c2
        go_wp2
        refine bodyPost_ret (v := .agg #[.string ⟨#[49]⟩, .int .i64 (p + 1), .bool false]) (by simp [results, Tryd.results45, go_sem, *]) rfl ⟨rfl, ?_⟩
        exact (((HN.out.bel.setCell (by simp) _).setCell (by simp) _).setCell (by simp) _)
      · have ix : ((k : Int) - 1).toNat = k - 1 := by omega
        have hc := HR.out.cell (k - 1) (by omega)
        have hf := HR.out.fr (k - 1) (by omega)
        obtain ⟨x, hx⟩ : ∃ x, x = dgt s (k - 1) := ⟨_, rfl⟩
        have x1 := dgt_in HD.out (k - 1)
        have x2 := HM.out (by omega)
        rw [HF.out.1 (k - 1) (by omega), ← hx] at hc
        rw [← hx] at x1 x2
        have HX : Hid (x = dgt s (k - 1)) := hx
        have e9 : ((x : Int) == 57) = false := beq_eq_false_iff_ne.mpr (by omega)
        have wx : IntKind.u8.wrap ((x : Int) + 1) = ((x + 1 : Nat) : Int) := by
          unfold IntKind.wrap
          simp [IntKind.bits, IntKind.signed]
          omega
        have n0 : ¬ (k : Int) - 1 < 0 := by omega
        have n1 : (0 : Int) ≤ (k : Int) - 1 := by omega
        clear hx a1 r0 r1 r2 fr
        go_wp2
        go_loopw [5] (fun nv w2 => ∃ z : Nat, nv = .int .i64 (z : Int) ∧ k ≤ z ∧ z ≤ n ∧ Hid (NxW w w2 p) ∧ Hid (BRow w2 (w.heap.size + 1 + 1) n (putF F (k - 1) (x + 1)))) (fun nv _ => (intOf nv).toNat)
        case atStart => exact ⟨n, rfl, hkn, Nat.le_refl _, HN.out.set _ _, HR.out.set (by omega) (x + 1)⟩
        case round =>
          obtain ⟨z, rfl, hkz, hzn, HN2, HR2⟩ := hrel
          clear hc hf
          have iz : ((z : Int) - 1).toNat = z - 1 := by omega
          have hc := HR2.out.cell (z - 1) (by omega)
          by_cases c3 : k < z
          · have e0 : putF F (k - 1) (x + 1) (z - 1) = 48 := by unfold putF; rw [if_neg (by omega)]; exact HF.out.2 (z - 1) (by omega) (by omega)
            rw [e0] at hc
            clear e0
            go_wp2
            go_roundw
            case rel => exact ⟨z - 1, by go_num, by omega, by omega, HN2, HR2⟩
            case measure => simp [intOf]; omega
          · obtain rfl : z = k := by omega
            have e0 : putF F (z - 1) (x + 1) (z - 1) = x + 1 := by unfold putF; rw [if_pos rfl]
            rw [e0] at hc
            have e1 : (((x + 1 : Nat) : Int) == 48) = false := beq_eq_false_iff_ne.mpr (by omega)
            have hz : z ≤ C := by omega
            obtain ⟨u, hu⟩ : ∃ u, u = strOfNums ((List.range z).map fun i => (putF F (z - 1) (x + 1) i : Int)) := ⟨_, rfl⟩
            have hG : ∀ i, i < z → putF F (z - 1) (x + 1) i < 256 := fun i hi => by
              unfold putF
              split
              · omega
              · rw [HF.out.1 i hi]; have := dgt_in HD.out i; omega
            have hU := nums_dgt (putF F (z - 1) (x + 1)) z hG
            rw [← hu] at hU
            have hcv : (Go.convert 48 9 (.slice (some ⟨w.heap.size + 1 + 1, 0, none⟩) z C)).run Tryd.prog wr.drew = .ok (.string u) wr.drew := by
              rw [hu]
              refine run_convert_bytes_arg wr.drew 48 5 und_bytes48 und_u8b (w.heap.size + 1 + 1) 0 z C _ (by simp) ?_ 9 und_str9b
              intro i hi
              have q := HR2.out.drew.cell i (by omega)
              rw [Nat.zero_add, q]
              simp [List.getD_eq_getElem?_getD, hi]
            have HU : Hid (u.size = z ∧ ∀ i, i < z → dgt u i = putF F (z - 1) (x + 1) i) := hU
            clear hU hG hu e0
            obtain ⟨_, _, a1, r0, r1, r2, fr⟩ := HN2.out
            go_wp2
            go_region
            all_goals
              go_wp2
              refine bodyPost_ret (v := .agg #[.string u, .int .i64 p, .bool false]) (by simp [results, Tryd.results45, go_sem, *]) rfl ⟨?_, ?_⟩
              · obtain ⟨us, ud⟩ := HU.out
                have hx := HX.out
                have hn := Hn.out
                have us' := upS_size (s := s) (m := z) (by omega) (by omega)
                obtain ⟨u1, u2⟩ := upS_dgt HD.out (m := z) (by omega) (by omega)
                have e : u = upS s z := by
                  refine ba_ext (by omega) (fun i hi => ?_)
                  rw [ud i (by omega)]
                  unfold putF
                  by_cases y : i = z - 1
                  · rw [if_pos y, y, u2, hx]
                  · rw [if_neg y, HF.out.1 i (by omega), u1 i (by omega)]
                rw [e, nxV_pos (by omega)]
                rfl
              · exact (((HN2.out.drew.bel.setCell (by simp) _).setCell (by simp) _).setCell (by simp) _)

set_option maxRecDepth 100000 in
set_option maxHeartbeats 1000000 in
theorem made_z {s : ByteArray} {p : Int} {c : Bool} (w : World) :
    Calls Tryd.prog 51 #[dcV s p c, .int .i64 0, .bool false] w fun e w' => e = .returned (.tuple #[dcV ⟨#[]⟩ 0 false, .int .i64 0]) ∧ Below w.heap.size w w' := by
  unfold dcV
  go_enter Tryd.func51, Tryd.ntmps51
  go_wp2
  refine bodyPost_ret (v := .tuple #[.agg #[.string ⟨#[]⟩, .int .i64 0, .bool false], .int .i64 0]) (by simp [results, Tryd.results51, go_sem]) rfl ⟨rfl, ?_⟩
  exact ((Below.refl _ _).alloc (Nat.le_refl _) _).alloc (by simp) _

theorem dg_one : DG ⟨#[49]⟩ := by
  intro k h
  have hk : k < 1 := h
  obtain rfl : k = 0 := by omega
  exact ⟨by decide +revert, by decide +revert⟩

set_option maxRecDepth 100000 in
set_option maxHeartbeats 1000000 in
theorem made_zu {s : ByteArray} {p : Int} {c : Bool} (hp : -1099511627776 ≤ p) (hp' : p < 1099511627776) (w : World) :
    Calls Tryd.prog 51 #[dcV s p c, .int .i64 0, .bool true] w fun e w' => e = .returned (.tuple #[dcV ⟨#[49]⟩ (p + 1) false, .int .i64 0]) ∧ Below w.heap.size w w' := by
  have R := fun W => rmake_ok (s := ⟨#[49]⟩) (p := p + 1) (m := 1) (by decide) (by decide) dg_one (by decide) (by decide) (by decide) (fun i a b => absurd a (by have : i < 1 := b; omega)) (by decide) (by omega) (by omega) W
  have e1 : (⟨#[49]⟩ : ByteArray).extract 0 1 = ⟨#[49]⟩ := by decide
  rw [e1] at R
  have wp : IntKind.i64.wrap (p + 1) = p + 1 := by
    unfold IntKind.wrap
    simp [IntKind.bits, IntKind.signed]
    omega
  have R0 := OneR.start w s p c
  clear e1
  unfold dcV at *
  go_enter Tryd.func51, Tryd.ntmps51
  go_wp2_with fail
  refine (R _).mono ?_
  rintro e w1 ⟨rfl, hb⟩
  have HT : Hid (OneR w w1 s p c) := R0.step hb
  clear hb R0
  obtain ⟨_, _, a0, a1, a2, r0, r1, r2, fr⟩ := HT.out
  go_wp2
  refine bodyPost_ret (v := .tuple #[.agg #[.string ⟨#[49]⟩, .int .i64 (p + 1), .bool false], .int .i64 0]) (by simp [results, Tryd.results51, go_sem, *]) rfl ⟨rfl, ?_⟩
  exact (((HT.out.bel.setCell (by simp) _).setCell (by simp) _).setCell (by simp) _)

set_option maxRecDepth 100000 in
set_option maxHeartbeats 1000000 in
theorem made_zb {s : ByteArray} {c : Bool} (w : World) :
    Calls Tryd.prog 51 #[dcV s 1099511627776 c, .int .i64 0, .bool true] w fun e w' => e = .returned (.tuple #[dcV ⟨#[]⟩ 0 false, .int .i64 4]) ∧ Below w.heap.size w w' := by
  have R := fun W => rmake_big (s := ⟨#[49]⟩) (m := 1) (by decide) (by decide) dg_one (by decide) (by decide) (by decide) (fun i a b => absurd a (by have : i < 1 := b; omega)) (by decide) W
  have wp : IntKind.i64.wrap 1099511627777 = 1099511627777 := by decide
  have R0 := OneR.start w s 1099511627776 c
  unfold dcV at *
  go_enter Tryd.func51, Tryd.ntmps51
  go_wp2_with fail
  refine (R _).mono ?_
  rintro e w1 ⟨rfl, hb⟩
  have HT : Hid (OneR w w1 s 1099511627776 c) := R0.step hb
  clear hb R0
  obtain ⟨_, _, a0, a1, a2, r0, r1, r2, fr⟩ := HT.out
  go_wp2
  refine bodyPost_ret (v := .tuple #[.agg #[.string ⟨#[]⟩, .int .i64 0, .bool false], .int .i64 4]) (by simp [results, Tryd.results51, go_sem, *]) rfl ⟨rfl, ?_⟩
  exact (((HT.out.bel.setCell (by simp) _).setCell (by simp) _).setCell (by simp) _)

end Go.Proofs.YtladeppjccfbhaaDoor
