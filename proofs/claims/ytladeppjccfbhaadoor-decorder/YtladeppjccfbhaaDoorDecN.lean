/-
  The document's next.
-/
import Derived.Test.YtladeppjccfbhaaDoorDecM
import Derived.Lib.ConvBytes
import Derived.Laws.AppendOwn
namespace Go.Proofs.YtladeppjccfbhaaDoor
open Go.RowKit

/-- A row of bytes in a block. -/
structure BRow (W : World) (g n : Nat) (F : Nat → Nat) : Prop where
  cell : ∀ i, i < n → W.cell? ⟨g, i, none⟩ = some (.int .u8 (F i : Int))
  fr : ∀ i, i < n → W.frozen? ⟨g, i, none⟩ = false
def putF (F : Nat → Nat) (i r : Nat) : Nat → Nat := fun j => if j = i then r else F j
theorem BRow.set {W : World} {g n : Nat} {F : Nat → Nat} (R : BRow W g n F) {i : Nat} (hi : i < n) (r : Nat) : BRow (W.setCell ⟨g, i, none⟩ (.int .u8 (r : Int))) g n (putF F i r) := by
  refine ⟨fun j hj => ?_, fun j hj => ?_⟩
  · unfold putF
    by_cases z : j = i
    · rw [if_pos z, z]; exact World.cell?_setCell_same W ⟨g, i, none⟩ _ (R.cell i hi)
    · rw [if_neg z, World.cell?_setCell_other W ⟨g, i, none⟩ ⟨g, j, none⟩ _ (by intro h; injection h with _ h _; exact z h.symm)]; exact R.cell j hj
  · rw [World.frozen?_setCell]; exact R.fr j hj
theorem BRow.drew {W : World} {g n : Nat} {F : Nat → Nat} (R : BRow W g n F) : BRow W.drew g n F := ⟨R.cell, R.fr⟩

/-- What next's world keeps beside the row. -/
structure NxW (w W : World) (p : Int) : Prop where
  sz : w.heap.size + 3 ≤ W.heap.size
  bel : Below w.heap.size w W
  a1 : W.cell? ⟨w.heap.size, 1, none⟩ = some (.int .i64 p)
  r0 : W.cell? ⟨w.heap.size + 1, 0, none⟩ = some (.string ⟨#[]⟩)
  r1 : W.cell? ⟨w.heap.size + 1, 1, none⟩ = some (.int .i64 0)
  r2 : W.cell? ⟨w.heap.size + 1, 2, none⟩ = some (.bool false)
  fr : ∀ o, W.frozen? ⟨w.heap.size + 1, o, none⟩ = false
theorem NxW.set {w W : World} {p : Int} (h : NxW w W p) (i : Nat) (v : Value) : NxW w (W.setCell ⟨w.heap.size + 1 + 1, i, none⟩ v) p := by
  have k : ∀ b o, b < w.heap.size + 1 + 1 → (W.setCell ⟨w.heap.size + 1 + 1, i, none⟩ v).cell? ⟨b, o, none⟩ = W.cell? ⟨b, o, none⟩ := fun b o hb => World.cell?_setCell_other W ⟨w.heap.size + 1 + 1, i, none⟩ ⟨b, o, none⟩ v (by intro q; injection q with q _ _; omega)
  exact ⟨by rw [World.size_setCell]; exact h.sz, h.bel.setCell (by show w.heap.size ≤ w.heap.size + 1 + 1; omega) v, (k _ _ (by omega)).trans h.a1, (k _ _ (by omega)).trans h.r0, (k _ _ (by omega)).trans h.r1, (k _ _ (by omega)).trans h.r2, fun o => by rw [World.frozen?_setCell]; exact h.fr o⟩
theorem NxW.drew {w W : World} {p : Int} (h : NxW w W p) : NxW w W.drew p := ⟨h.sz, h.bel.drew, h.a1, h.r0, h.r1, h.r2, h.fr⟩

theorem getD_dgt {s : ByteArray} {j : Nat} (h : j < s.size) : (s.data.toList.getD j 0).toNat = dgt s j := by
  rw [dgt_lt h]
  have h' : j < s.data.toList.length := by rw [Array.length_toList]; exact h
  rw [List.getD_eq_getElem?_getD, List.getElem?_eq_getElem h', Option.getD_some, Array.getElem_toList]
  rfl

theorem next_bytes (w : World) (s : ByteArray) (p : Int) (c : Bool) (hs : s.size ≤ 800) : ∃ W1 C, (Go.convert 9 48 (.string s)).run Tryd.prog ((w.alloc (.cells #[.string s, .int .i64 p, .bool c] 23)).alloc (.cells #[.string ⟨#[]⟩, .int .i64 0, .bool false] 23)) = .ok (.slice (some ⟨w.heap.size + 1 + 1, 0, none⟩) s.size C) W1 ∧ s.size ≤ C ∧ C ≤ maxLen ∧ NxW w W1 p ∧ BRow W1 (w.heap.size + 1 + 1) s.size (dgt s) := by
  obtain ⟨U, hU⟩ : ∃ U, U = ((w.alloc (.cells #[.string s, .int .i64 p, .bool c] 23)).alloc (.cells #[.string ⟨#[]⟩, .int .i64 0, .bool false] 23)) := ⟨_, rfl⟩
  have hz : U.heap.size = w.heap.size + 1 + 1 := by rw [hU]; simp
  have hB : Below w.heap.size w U := by rw [hU]; exact ((Below.refl _ _).alloc (Nat.le_refl _) _).alloc (by simp) _
  have hL := Lib.run_convert_string_bytes (P := Tryd.prog) U 9 48 5 s und_str9b und_bytes48 und_u8b
  have bU : Below U.heap.size U (Lib.bytesWorld U 5 s) := ⟨rfl, rfl, rfl, by rw [Lib.bytesWorld_size]; omega, fun k hk => Lib.bytesWorld_at_old U 5 s k hk⟩
  rw [hz] at hL
  have kc : ∀ b o, b < w.heap.size + 1 + 1 → (Lib.bytesWorld U 5 s).cell? ⟨b, o, none⟩ = U.cell? ⟨b, o, none⟩ := fun b o hb => bU.cell (p := ⟨b, o, none⟩) (by show b < U.heap.size; omega)
  rw [← hU]
  refine ⟨Lib.bytesWorld U 5 s, grownCap U s.size 0 5, hL, grownCap_ge _ _ _ _, grownCap_le_maxLen _ _ _ _ (Nat.le_trans hs (by decide)), ?_, ?_⟩
  · refine ⟨by rw [Lib.bytesWorld_size]; omega, hB.trans (bU.mono (by omega)), (kc _ _ (by omega)).trans (by rw [hU]; simp), (kc _ _ (by omega)).trans (by rw [hU]; simp), (kc _ _ (by omega)).trans (by rw [hU]; simp), (kc _ _ (by omega)).trans (by rw [hU]; simp), fun o => ?_⟩
    rw [bU.frozen (p := ⟨w.heap.size + 1, o, none⟩) (by show w.heap.size + 1 < U.heap.size; omega), hU]
    simp
  · refine ⟨fun i hi => ?_, fun i hi => ?_⟩
    · have q := Lib.bytesWorld_cell U 5 s i hi
      rw [hz, getD_dgt hi] at q
      exact q
    · have q := Lib.bytesWorld_at_new U 5 s
      rw [hz] at q
      unfold World.frozen?
      rw [q]
      have z : ¬ (Lib.bytesCells U 5 s).size ≤ i := by
        unfold Lib.bytesCells
        simp
        omega
      simp [z]

theorem nums_dgt (G : Nat → Nat) (m : Nat) (hG : ∀ i, i < m → G i < 256) : (strOfNums ((List.range m).map fun i => (G i : Int))).size = m ∧ ∀ i, i < m → dgt (strOfNums ((List.range m).map fun i => (G i : Int))) i = G i := by
  have hs : (strOfNums ((List.range m).map fun i => (G i : Int))).size = m := by rw [strOfNums_size]; simp
  refine ⟨hs, fun i hi => ?_⟩
  have g := hG i hi
  rw [← getD_dgt (by omega), strOfNums_data, List.map_map, List.getD_eq_getElem?_getD]
  simp [hi]
  omega

set_option maxRecDepth 100000 in
set_option maxHeartbeats 1000000 in
theorem next_any {s : ByteArray} {p : Int} {c : Bool} (h0 : 0 < s.size) (hs : s.size ≤ 800) (ds : DG s) (hp : -1099511627776 ≤ p) (hp' : p ≤ 1099511627776) (w : World) :
    Calls Tryd.prog 45 #[dcV s p c] w fun e w' => ∃ u p', e = .returned (dcV u p' false) ∧ NX s p u p' ∧ Below w.heap.size w w' := by
  obtain ⟨m, hm, h9, hm1⟩ := nines_at s s.size
  obtain ⟨W1, C, hcv, hC, hC', N1, R1⟩ := next_bytes w s p c hs
  have HN1 : Hid (NxW w W1 p) := N1
  have HR1 : Hid (BRow W1 (w.heap.size + 1 + 1) s.size (dgt s)) := R1
  have H9 : Hid (∀ j, m ≤ j → j < s.size → dgt s j = 57) := h9
  have HM : Hid (0 < m → dgt s (m - 1) ≠ 57) := hm1
  have HD : Hid (DG s) := ds
  obtain ⟨n, hn⟩ : ∃ n, n = s.size := ⟨_, rfl⟩
  have Hn : Hid (n = s.size) := hn
  rw [← hn] at hcv hs h0 hm hC HR1 H9
  have wp : IntKind.i64.wrap (p + 1) = p + 1 := by
    unfold IntKind.wrap
    simp [IntKind.bits, IntKind.signed]
    omega
  clear hn N1 R1 h9 hm1 ds
  unfold dcV
  go_enter Tryd.func45, Tryd.ntmps45
  go_wp2
  go_loopw [4] (fun iv wr => ∃ (k : Nat) (F : Nat → Nat), iv = .int .i64 ((k : Int) - 1) ∧ m ≤ k ∧ k ≤ n ∧ Hid (NxW w wr p) ∧ Hid (BRow wr (w.heap.size + 1 + 1) n F) ∧ Hid ((∀ j, j < k → F j = dgt s j) ∧ (∀ j, k ≤ j → j < n → F j = 48))) (fun iv _ => (intOf iv + 1).toNat)
  case atStart => exact ⟨n, dgt s, rfl, hm, Nat.le_refl _, HN1, HR1, fun _ _ => rfl, fun j a b => absurd a (by omega)⟩
  case round =>
    obtain ⟨k, F, rfl, hmk, hkn, HN, HR, HF⟩ := hrel
    clear HN1 HR1 hcv
    by_cases c1 : m < k
    · have ix : ((k : Int) - 1).toNat = k - 1 := by omega
      have hc := HR.out.cell (k - 1) (by omega)
      have hf := HR.out.fr (k - 1) (by omega)
      have e9 : F (k - 1) = 57 := (HF.out.1 (k - 1) (by omega)).trans (H9.out (k - 1) (by omega) (by omega))
      rw [e9] at hc
      clear e9
      go_wp2
      go_roundw
      case rel =>
        refine ⟨k - 1, putF F (k - 1) 48, by go_num, by omega, by omega, HN.out.set _ _, HR.out.set (by omega) 48, fun j hj => ?_, fun j a b => ?_⟩
        · unfold putF; rw [if_neg (by omega)]; exact HF.out.1 j (by omega)
        · unfold putF
          by_cases z : j = k - 1
          · rw [if_pos z]
          · rw [if_neg z]; exact HF.out.2 j (by omega) b
      case measure => simp [intOf]; omega
    · obtain rfl : k = m := by omega
      obtain ⟨_, _, a1, r0, r1, r2, fr⟩ := HN.out
      by_cases c2 : k = 0
      · subst c2
        go_wp2
        refine bodyPost_ret (v := .agg #[.string ⟨#[49]⟩, .int .i64 (p + 1), .bool false]) (by simp [results, Tryd.results45, go_sem, *]) rfl ⟨⟨#[49]⟩, p + 1, rfl, ?_, ?_⟩
        · refine ⟨?_, by decide, by decide, Or.inr ⟨rfl, rfl, rfl, ?_⟩⟩
          · intro i hi
            have z : i = 0 := by have : i < 1 := hi; omega
            subst z
            exact ⟨by decide +revert, by decide +revert⟩
          · rw [← Hn.out]
            exact pv_nines n (fun j hj => H9.out j (Nat.zero_le _) hj)
        · exact (((HN.out.bel.setCell (by simp) _).setCell (by simp) _).setCell (by simp) _)
      · have ix : ((k : Int) - 1).toNat = k - 1 := by omega
        have hc := HR.out.cell (k - 1) (by omega)
        have hf := HR.out.fr (k - 1) (by omega)
        obtain ⟨x, hx⟩ : ∃ x, x = dgt s (k - 1) := ⟨_, rfl⟩
        have x1 := dgt_in HD.out (k - 1)
        have x2 := HM.out (by omega)
        rw [HF.out.1 (k - 1) (by omega), ← hx] at hc
        rw [← hx] at x1 x2
        have HX : Hid (x = dgt s (k - 1)) := hx
        have e9 : ((x : Int) == 57) = false := beq_eq_false_iff_ne.mpr (by omega)
        have wx : IntKind.u8.wrap ((x : Int) + 1) = ((x + 1 : Nat) : Int) := by
          unfold IntKind.wrap
          simp [IntKind.bits, IntKind.signed]
          omega
        have n0 : ¬ (k : Int) - 1 < 0 := by omega
        have n1 : (0 : Int) ≤ (k : Int) - 1 := by omega
        clear hx a1 r0 r1 r2 fr
        go_wp2
        go_loopw [5] (fun nv w2 => ∃ z : Nat, nv = .int .i64 (z : Int) ∧ k ≤ z ∧ z ≤ n ∧ Hid (NxW w w2 p) ∧ Hid (BRow w2 (w.heap.size + 1 + 1) n (putF F (k - 1) (x + 1)))) (fun nv _ => (intOf nv).toNat)
        case atStart => exact ⟨n, rfl, hkn, Nat.le_refl _, HN.out.set _ _, HR.out.set (by omega) (x + 1)⟩
        case round =>
          obtain ⟨z, rfl, hkz, hzn, HN2, HR2⟩ := hrel
          clear hc hf
          have iz : ((z : Int) - 1).toNat = z - 1 := by omega
          have hc := HR2.out.cell (z - 1) (by omega)
          by_cases c3 : k < z
          · have e0 : putF F (k - 1) (x + 1) (z - 1) = 48 := by unfold putF; rw [if_neg (by omega)]; exact HF.out.2 (z - 1) (by omega) (by omega)
            rw [e0] at hc
            clear e0
            go_wp2
            go_roundw
            case rel => exact ⟨z - 1, by go_num, by omega, by omega, HN2, HR2⟩
            case measure => simp [intOf]; omega
          · obtain rfl : z = k := by omega
            have e0 : putF F (z - 1) (x + 1) (z - 1) = x + 1 := by unfold putF; rw [if_pos rfl]
            rw [e0] at hc
            have e1 : (((x + 1 : Nat) : Int) == 48) = false := beq_eq_false_iff_ne.mpr (by omega)
            have hz : z ≤ C := by omega
            obtain ⟨u, hu⟩ : ∃ u, u = strOfNums ((List.range z).map fun i => (putF F (z - 1) (x + 1) i : Int)) := ⟨_, rfl⟩
            have hG : ∀ i, i < z → putF F (z - 1) (x + 1) i < 256 := fun i hi => by
              unfold putF
              split
              · omega
              · rw [HF.out.1 i hi]; have := dgt_in HD.out i; omega
            have hU := nums_dgt (putF F (z - 1) (x + 1)) z hG
            rw [← hu] at hU
            have hcv : (Go.convert 48 9 (.slice (some ⟨w.heap.size + 1 + 1, 0, none⟩) z C)).run Tryd.prog wr.drew = .ok (.string u) wr.drew := by
              rw [hu]
              refine run_convert_bytes_arg wr.drew 48 5 und_bytes48 und_u8b (w.heap.size + 1 + 1) 0 z C _ (by simp) ?_ 9 und_str9b
              intro i hi
              have q := HR2.out.drew.cell i (by omega)
              rw [Nat.zero_add, q]
              simp [List.getD_eq_getElem?_getD, hi]
            have HU : Hid (u.size = z ∧ ∀ i, i < z → dgt u i = putF F (z - 1) (x + 1) i) := hU
            clear hU hG hu e0
            obtain ⟨_, _, a1, r0, r1, r2, fr⟩ := HN2.out
            go_wp2
            go_region
            all_goals
              go_wp2
              refine bodyPost_ret (v := .agg #[.string u, .int .i64 p, .bool false]) (by simp [results, Tryd.results45, go_sem, *]) rfl ⟨u, p, rfl, ?_, ?_⟩
              · obtain ⟨us, ud⟩ := HU.out
                have hx := HX.out
                refine ⟨?_, by omega, by omega, Or.inl ⟨rfl, by have := Hn.out; omega, ?_⟩⟩
                · intro i hi
                  rw [← dgt_lt hi, ud i (by omega)]
                  unfold putF
                  split
                  · omega
                  · rw [HF.out.1 i (by omega)]; exact dgt_in HD.out i
                · rw [← Hn.out]
                  refine pv_next (m := z) (by omega) (by omega) (fun j hj => ?_) (by omega) ?_ hkn H9.out
                  · rw [ud j (by omega)]; unfold putF; rw [if_neg (by omega)]; exact HF.out.1 j (by omega)
                  · rw [ud _ (by omega), ← hx]; unfold putF; rw [if_pos rfl]
              · exact (((HN2.out.drew.bel.setCell (by simp) _).setCell (by simp) _).setCell (by simp) _)

end Go.Proofs.YtladeppjccfbhaaDoor
