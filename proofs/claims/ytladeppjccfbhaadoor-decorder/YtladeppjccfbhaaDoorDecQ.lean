/-
  The document's Double and Halve, by what its Make answers at the product's text.
-/
import Derived.Test.YtladeppjccfbhaaDoorDecO
import Derived.Test.YtladeppjccfbhaaDoorDecF
namespace Go.Proofs.YtladeppjccfbhaaDoor
open Go.RowKit

theorem OneR.put {w W : World} {s : ByteArray} {p : Int} {c : Bool} (h : OneR w W s p c) {g : Nat} (hg : w.heap.size + 2 ≤ g) (i : Nat) (v : Value) : OneR w (W.setCell ⟨g, i, none⟩ v) s p c := by
  have k : ∀ b o, b < w.heap.size + 2 → (W.setCell ⟨g, i, none⟩ v).cell? ⟨b, o, none⟩ = W.cell? ⟨b, o, none⟩ := fun b o hb => World.cell?_setCell_other W ⟨g, i, none⟩ ⟨b, o, none⟩ v (by intro q; injection q with q _ _; omega)
  exact ⟨by rw [World.size_setCell]; exact h.sz, h.bel.setCell (by show w.heap.size ≤ g; omega) v, (k _ _ (by omega)).trans h.a0, (k _ _ (by omega)).trans h.a1, (k _ _ (by omega)).trans h.a2, (k _ _ (by omega)).trans h.r0, (k _ _ (by omega)).trans h.r1, (k _ _ (by omega)).trans h.r2, fun o => by rw [World.frozen?_setCell]; exact h.fr o⟩

theorem bytes_of {w U : World} {s : ByteArray} {p : Int} {c : Bool} (hO : OneR w U s p c) (t : ByteArray) (ht : t.size ≤ 801) : ∃ W1 C, (Go.convert 9 48 (.string t)).run Tryd.prog U = .ok (.slice (some ⟨U.heap.size, 0, none⟩) t.size C) W1 ∧ t.size ≤ C ∧ C ≤ maxLen ∧ OneR w W1 s p c ∧ BRow W1 U.heap.size t.size (dgt t) := by
  have hL := Lib.run_convert_string_bytes (P := Tryd.prog) U 9 48 5 t und_str9b und_bytes48 und_u8b
  have bU : Below U.heap.size U (Lib.bytesWorld U 5 t) := ⟨rfl, rfl, rfl, by rw [Lib.bytesWorld_size]; omega, fun k hk => Lib.bytesWorld_at_old U 5 t k hk⟩
  refine ⟨Lib.bytesWorld U 5 t, grownCap U t.size 0 5, hL, grownCap_ge _ _ _ _, grownCap_le_maxLen _ _ _ _ (Nat.le_trans ht (by decide)), hO.step bU, ?_⟩
  refine ⟨fun i hi => ?_, fun i hi => ?_⟩
  · have q := Lib.bytesWorld_cell U 5 t i hi
    rw [getD_dgt hi] at q
    exact q
  · have q := Lib.bytesWorld_at_new U 5 t
    unfold World.frozen?
    rw [q]
    have z : ¬ (Lib.bytesCells U 5 t).size ≤ i := by
      unfold Lib.bytesCells
      simp
      omega
    simp [z]

theorem app_dgt (a b : ByteArray) (i : Nat) : dgt (a ++ b) i = if i < a.size then dgt a i else dgt b (i - a.size) := by
  unfold dgt
  by_cases h : i < a.size
  · rw [if_pos h, dif_pos h, dif_pos (by rw [ByteArray.size_append]; omega), ByteArray.getElem_append_left h]
  · rw [if_neg h]
    by_cases h' : i - a.size < b.size
    · rw [dif_pos h', dif_pos (by rw [ByteArray.size_append]; omega), ByteArray.getElem_append_right (by omega)]
    · rw [dif_neg h', dif_neg (by rw [ByteArray.size_append]; omega)]

theorem ct_five {s : ByteArray} (hd : DG s) : ∀ j, j ≤ s.size → ct s 5 j = (dgt s (s.size - j) - 48) / 2
  | 0, _ => by rw [dgt_ge (by omega)]; rfl
  | j + 1, h => by
    have ih := ct_five hd j (by omega)
    have h1 := dgt_in hd (s.size - j)
    have h2 := dgt_in hd (s.size - 1 - j)
    unfold ct
    rw [ih, show s.size - (j + 1) = s.size - 1 - j by omega]
    omega
theorem tm_five {s : ByteArray} (hd : DG s) {k : Nat} (hk : k ≤ s.size) : tm s 5 k = 48 + (10 * (if k = 0 then 0 else (dgt s (k - 1) - 48) % 2) + (dgt s k - 48)) / 2 := by
  unfold tm
  have h1 := dgt_in hd k
  by_cases z : k = 0
  · rw [if_pos z, if_pos z, ct_five hd _ (Nat.le_refl _), Nat.sub_self, z]; omega
  · rw [if_neg z, if_neg z, ct_five hd _ (by omega), show s.size - (s.size - k) = k by omega]
    have h2 := dgt_in hd (k - 1)
    omega

set_option maxRecDepth 100000 in
set_option maxHeartbeats 2000000 in
theorem rdouble_ok {s : ByteArray} {p : Int} (h : VD s p false) {s2 : ByteArray} {p2 kk : Int} {c2 : Bool} (Mk : ∀ W, Calls Tryd.prog 53 #[.string (tmS s 2), .int .i64 (p + 1), .bool false] W fun e w' => e = .returned (.tuple #[dcV s2 p2 c2, .int .i64 kk]) ∧ Below W.heap.size W w') (w : World) :
    Calls Tryd.prog 21 #[dcV s p false] w fun e w' => e = .returned (.tuple #[dcV s2 p2 c2, .int .i64 kk]) ∧ Below w.heap.size w w' := by
  have VV := fun W => rvald_yes h W
  have hl : s.size ≤ 800 := by
    rcases h with g | g
    · have := g.1; omega
    · exact g.len
  have hd : DG s := by
    rcases h with g | g
    · intro i hi; have := g.1; omega
    · exact g.dg
  have HD : Hid (DG s) := hd
  obtain ⟨n, hn⟩ : ∃ n, n = s.size := ⟨_, rfl⟩
  obtain ⟨t, ht⟩ : ∃ t, t = (⟨#[48]⟩ : ByteArray) ++ s := ⟨_, rfl⟩
  have tz : t.size = n + 1 := by rw [ht, ByteArray.size_append, show (⟨#[48]⟩ : ByteArray).size = 1 from rfl]; omega
  have qq : ∀ W, (Op.stringOp .add ⟨#[48]⟩ s).run Tryd.prog W = .ok (.string t) W := fun W => by rw [ht]; exact run_string_add_sum W _ _ (by rw [show (⟨#[48]⟩ : ByteArray).size = 1 from rfl]; omega)
  have TD : Hid (∀ i, dgt t i = if i = 0 then 48 else dgt s (i - 1)) := fun i => by
    rw [ht, app_dgt, show (⟨#[48]⟩ : ByteArray).size = 1 from rfl]
    by_cases z : i = 0
    · rw [if_pos z, if_pos (by omega), z]; rfl
    · rw [if_neg z, if_neg (by omega)]
  have Hn : Hid (n = s.size ∧ n ≤ 800) := ⟨hn, by omega⟩
  obtain ⟨u, hu⟩ : ∃ u, u = tmS s 2 := ⟨_, rfl⟩
  rw [← hu] at Mk
  have HU : Hid (u = tmS s 2) := hu
  have wn : IntKind.i64.wrap (n : Int) = (n : Int) := by
    unfold IntKind.wrap
    simp [IntKind.bits, IntKind.signed]
    omega
  have wp : IntKind.i64.wrap (p + 1) = p + 1 := by
    have hp : -1099511627776 ≤ p ∧ p ≤ 1099511627776 := by
      rcases h with g | g
      · have := g.2.1; omega
      · exact ⟨g.lo, g.hi⟩
    unfold IntKind.wrap
    simp [IntKind.bits, IntKind.signed]
    omega
  clear h hl hd ht hu
  unfold dcV at *
  go_enter Tryd.func21, Tryd.ntmps21
  go_wp2_with fail
  refine (VV _).mono ?_
  rintro e w1 ⟨rfl, hb1⟩
  have O1 : Hid (OneR w w1 s p false) := (OneR.start w s p false).step hb1
  clear hb1 VV
  obtain ⟨W1, C, hcv, hC, hC', O2, R2⟩ := bytes_of O1.out t (by have := Hn.out; omega)
  obtain ⟨g, hg⟩ : ∃ g, g = w1.heap.size := ⟨_, rfl⟩
  rw [tz] at hcv hC R2
  rw [← hg] at hcv R2
  have GL : Hid (w.heap.size + 2 ≤ g) := by show w.heap.size + 2 ≤ g; rw [hg]; exact O1.out.sz
  have HO2 : Hid (OneR w W1 s p false) := O2
  have HR2 : Hid (BRow W1 g (n + 1) (dgt t)) := R2
  clear O2 R2 hn tz hg
  obtain ⟨_, _, a0, a1, a2, _, _, _, _⟩ := O1.out
  go_wp2
  clear hcv a0 a1 a2
  go_loopw [5, 6] (fun cy iv wr => ∃ (m cv : Nat) (F : Nat → Nat), cy = .int .u8 (cv : Int) ∧ iv = .int .i64 ((m : Int) - 1) ∧ m ≤ n + 1 ∧ Hid (OneR w wr s p false) ∧ Hid (BRow wr g (n + 1) F) ∧ Hid ((∀ i, m ≤ i → i ≤ n → F i = tm s 2 i) ∧ (∀ i, i < m → F i = dgt t i) ∧ cv ≤ 8 ∧ (1 ≤ m → cv = ct s 2 (n + 1 - m)))) (fun _ iv _ => (intOf iv + 1).toNat)
  case atStart => exact ⟨n + 1, 0, dgt t, rfl, by go_num, Nat.le_refl _, HO2, HR2, fun i a b => absurd a (by omega), fun _ _ => rfl, by omega, fun _ => by rw [Nat.sub_self]; rfl⟩
  case round =>
    obtain ⟨m, cv, F, rfl, rfl, hm, HO, HR, HF⟩ := hrel
    by_cases c1 : 0 < m
    · obtain ⟨b, hb⟩ : ∃ b, b = m - 1 := ⟨_, rfl⟩
      have hn := Hn.out
      obtain ⟨hF1, hF2, hF3, hF4⟩ := HF.out
      have ib : (m : Int) - 1 = (b : Int) := by omega
      obtain ⟨x, hx⟩ : ∃ x, x = F b := ⟨_, rfl⟩
      have ex : x = if b = 0 then 48 else dgt s (b - 1) := by rw [hx, hF2 b (by omega), TD.out b]
      have xd : 48 ≤ x ∧ x ≤ 57 := by
        rw [ex]; split
        · omega
        · exact dgt_in HD.out _
      obtain ⟨y, hy⟩ : ∃ y, y = x - 48 := ⟨_, rfl⟩
      obtain ⟨v, hv⟩ : ∃ v, v = 2 * y + cv := ⟨_, rfl⟩
      obtain ⟨r, hr⟩ : ∃ r, r = v % 10 := ⟨_, rfl⟩
      obtain ⟨q, hq⟩ : ∃ q, q = v / 10 := ⟨_, rfl⟩
      obtain ⟨d, hdd⟩ : ∃ d, d = 48 + r := ⟨_, rfl⟩
      have HT : Hid (d = tm s 2 b ∧ q ≤ 8 ∧ (1 ≤ b → q = ct s 2 (n + 1 - b))) := by
        have e4 := hF4 c1
        refine ⟨?_, by omega, fun hb1 => ?_⟩
        · unfold tm
          by_cases z : b = 0
          · rw [if_pos z] at ex ⊢
            rw [← hn.1, show n = n + 1 - m by omega, ← e4]
            omega
          · rw [if_neg z] at ex ⊢
            rw [← hn.1, show n - b = n + 1 - m by omega, ← e4, ← ex]
            omega
        · rw [if_neg (by omega)] at ex
          rw [show n + 1 - b = (n + 1 - m) + 1 by omega]
          unfold ct
          rw [← e4, ← hn.1, show n - 1 - (n + 1 - m) = b - 1 by omega, ← ex]
          omega
      have cc := HR.out.cell b (by omega)
      have cf := HR.out.fr b (by omega)
      rw [← hx] at cc
      rw [ib]
      have e1 : IntKind.u8.wrap ((x : Int) - 48) = (y : Int) := by
        unfold IntKind.wrap
        simp [IntKind.bits, IntKind.signed]
        omega
      have e2 : IntKind.u8.wrap (2 * (y : Int)) = ((2 * y : Nat) : Int) := by
        unfold IntKind.wrap
        simp [IntKind.bits, IntKind.signed]
        omega
      have e3 : IntKind.u8.wrap (((2 * y : Nat) : Int) + (cv : Int)) = (v : Int) := by
        unfold IntKind.wrap
        simp [IntKind.bits, IntKind.signed]
        omega
      have e3' : IntKind.u8.wrap (2 * (y : Int) + (cv : Int)) = (v : Int) := by
        unfold IntKind.wrap
        simp [IntKind.bits, IntKind.signed]
        omega
      have e5 : (v : Int).tmod 10 = (r : Int) := by rw [Int.tmod_eq_emod_of_nonneg (by omega)]; omega
      have e5' : (v : Int) % 10 = (r : Int) := by omega
      have e7 : IntKind.u8.wrap (48 + (r : Int)) = (d : Int) := by
        unfold IntKind.wrap
        simp [IntKind.bits, IntKind.signed]
        omega
      have e8 : (v : Int) / 10 = (q : Int) := by omega
      have e9 : IntKind.u8.wrap (q : Int) = (q : Int) := by
        unfold IntKind.wrap
        simp [IntKind.bits, IntKind.signed]
        omega
      have e10 : IntKind.i64.wrap ((b : Int) - 1) = (b : Int) - 1 := by
        unfold IntKind.wrap
        simp [IntKind.bits, IntKind.signed]
        omega
      have i0 : (0 : Int) ≤ (b : Int) := by omega
      have i1 : (b : Int) < (n : Int) + 1 := by omega
      have HA : Hid (b = m - 1 ∧ 0 < m ∧ m ≤ n + 1) := ⟨hb, c1, hm⟩
      clear hb hn hF1 hF2 hF3 hF4 ib hx ex xd hy hv hr hq hdd c1 hm
      go_wp2
      go_roundw
      case rel =>
        refine ⟨b, q, putF F b d, rfl, by go_num, by have := HA.out; omega, HO.out.put GL.out _ _, HR.out.set (by have := HA.out; omega) d, fun i h1 h2 => ?_, fun i hi => ?_, HT.out.2.1, HT.out.2.2⟩
        · unfold putF
          by_cases z : i = b
          · rw [if_pos z, z]; exact HT.out.1
          · rw [if_neg z]; exact HF.out.1 i (by have := HA.out; omega) h2
        · unfold putF
          rw [if_neg (by omega)]
          exact HF.out.2.1 i (by have := HA.out; omega)
      case measure => have := HA.out; (simp [intOf] <;> omega)
    · obtain rfl : m = 0 := by omega
      obtain ⟨_, _, a0, a1, a2, r0, r1, r2, fr⟩ := HO.out
      have hcv : (Go.convert 48 9 (.slice (some ⟨g, 0, none⟩) (n + 1) C)).run Tryd.prog wr = .ok (.string u) wr := by
        have hs := Hn.out.1
        rw [HU.out]
        unfold tmS
        rw [← hs]
        refine run_convert_bytes_arg wr 48 5 und_bytes48 und_u8b g 0 (n + 1) C _ (by simp) ?_ 9 und_str9b
        intro i hi
        have q := HR.out.cell i hi
        rw [Nat.zero_add, q, HF.out.1 i (by omega) (by omega)]
        simp [List.getD_eq_getElem?_getD, hi]
      go_wp2_with fail
      refine (Mk _).mono ?_
      rintro e w3 ⟨rfl, hb3⟩
      have O3 : Hid (OneR w w3 s p false) := HO.out.step hb3
      clear hb3 hcv a0 a1 a2 r0 r1 r2 fr
      obtain ⟨_, _, a0, a1, a2, r0, r1, r2, fr⟩ := O3.out
      go_wp2
      refine bodyPost_ret (v := .tuple #[.agg #[.string s2, .int .i64 p2, .bool c2], .int .i64 kk]) (by simp [results, Tryd.results21, go_sem, *]) rfl ⟨rfl, ?_⟩
      exact (((O3.out.bel.setCell (by simp) _).setCell (by simp) _).setCell (by simp) _)

set_option maxRecDepth 100000 in
set_option maxHeartbeats 2000000 in
theorem rhalve_ok {s : ByteArray} {p : Int} (h : VD s p false) {s2 : ByteArray} {p2 kk : Int} {c2 : Bool} (Mk : ∀ W, Calls Tryd.prog 53 #[.string (tmS s 5), .int .i64 p, .bool false] W fun e w' => e = .returned (.tuple #[dcV s2 p2 c2, .int .i64 kk]) ∧ Below W.heap.size W w') (w : World) :
    Calls Tryd.prog 19 #[dcV s p false] w fun e w' => e = .returned (.tuple #[dcV s2 p2 c2, .int .i64 kk]) ∧ Below w.heap.size w w' := by
  have VV := fun W => rvald_yes h W
  have hl : s.size ≤ 800 := by
    rcases h with g | g
    · have := g.1; omega
    · exact g.len
  have hd : DG s := by
    rcases h with g | g
    · intro i hi; have := g.1; omega
    · exact g.dg
  have HD : Hid (DG s) := hd
  obtain ⟨n, hn⟩ : ∃ n, n = s.size := ⟨_, rfl⟩
  obtain ⟨t, ht⟩ : ∃ t, t = s ++ (⟨#[48]⟩ : ByteArray) := ⟨_, rfl⟩
  have tz : t.size = n + 1 := by rw [ht, ByteArray.size_append, show (⟨#[48]⟩ : ByteArray).size = 1 from rfl]; omega
  have qq : ∀ W, (Op.stringOp .add s ⟨#[48]⟩).run Tryd.prog W = .ok (.string t) W := fun W => by rw [ht]; exact run_string_add_sum W _ _ (by rw [show (⟨#[48]⟩ : ByteArray).size = 1 from rfl]; omega)
  have TD : Hid (∀ i, i ≤ n → dgt t i = dgt s i) := fun i hi => by
    rw [ht, app_dgt]
    by_cases z : i < s.size
    · rw [if_pos z]
    · rw [if_neg z, show i - s.size = 0 by omega, dgt_ge (s := s) (by omega)]; rfl
  have Hn : Hid (n = s.size ∧ n ≤ 800) := ⟨hn, by omega⟩
  obtain ⟨u, hu⟩ : ∃ u, u = tmS s 5 := ⟨_, rfl⟩
  rw [← hu] at Mk
  have HU : Hid (u = tmS s 5) := hu
  have wn : IntKind.i64.wrap (n : Int) = (n : Int) := by
    unfold IntKind.wrap
    simp [IntKind.bits, IntKind.signed]
    omega
  clear h hl hd ht hu
  unfold dcV at *
  go_enter Tryd.func19, Tryd.ntmps19
  go_wp2_with fail
  refine (VV _).mono ?_
  rintro e w1 ⟨rfl, hb1⟩
  have O1 : Hid (OneR w w1 s p false) := (OneR.start w s p false).step hb1
  clear hb1 VV
  obtain ⟨W1, C, hcv, hC, hC', O2, R2⟩ := bytes_of O1.out t (by have := Hn.out; omega)
  obtain ⟨g, hg⟩ : ∃ g, g = w1.heap.size := ⟨_, rfl⟩
  rw [tz] at hcv hC R2
  rw [← hg] at hcv R2
  have GL : Hid (w.heap.size + 2 ≤ g) := by show w.heap.size + 2 ≤ g; rw [hg]; exact O1.out.sz
  have HO2 : Hid (OneR w W1 s p false) := O2
  have HR2 : Hid (BRow W1 g (n + 1) (dgt t)) := R2
  clear O2 R2 hn tz hg
  obtain ⟨_, _, a0, a1, a2, _, _, _, _⟩ := O1.out
  go_wp2
  clear hcv a0 a1 a2
  go_loopw [5, 6] (fun rv iv wr => ∃ (k r : Nat) (F : Nat → Nat), rv = .int .u8 (r : Int) ∧ iv = .int .i64 (k : Int) ∧ k ≤ n + 1 ∧ Hid (OneR w wr s p false) ∧ Hid (BRow wr g (n + 1) F) ∧ Hid ((∀ i, i < k → F i = tm s 5 i) ∧ (∀ i, k ≤ i → i ≤ n → F i = dgt t i) ∧ r = if k = 0 then 0 else (dgt s (k - 1) - 48) % 2)) (fun _ iv _ => n + 1 - (intOf iv).toNat)
  case atStart => exact ⟨0, 0, dgt t, rfl, rfl, Nat.zero_le _, HO2, HR2, fun i a => absurd a (by omega), fun _ _ _ => rfl, rfl⟩
  case round =>
    obtain ⟨k, r, F, rfl, rfl, hk, HO, HR, HF⟩ := hrel
    by_cases c1 : k < n + 1
    · have hn := Hn.out
      obtain ⟨hF1, hF2, hF3⟩ := HF.out
      obtain ⟨x, hx⟩ : ∃ x, x = F k := ⟨_, rfl⟩
      have ex : x = dgt s k := by rw [hx, hF2 k (by omega) (by omega), TD.out k (by omega)]
      have xd := dgt_in HD.out k
      rw [← ex] at xd
      have r1 : r ≤ 1 := by rw [hF3]; split <;> omega
      obtain ⟨v, hv⟩ : ∃ v, v = 10 * r + x - 48 := ⟨_, rfl⟩
      obtain ⟨q, hq⟩ : ∃ q, q = v / 2 := ⟨_, rfl⟩
      obtain ⟨z, hz⟩ : ∃ z, z = v % 2 := ⟨_, rfl⟩
      obtain ⟨d, hdd⟩ : ∃ d, d = 48 + q := ⟨_, rfl⟩
      have HT : Hid (d = tm s 5 k ∧ z = (dgt s k - 48) % 2) := by
        refine ⟨?_, by rw [← ex]; omega⟩
        rw [tm_five HD.out (by omega), ← hF3, ← ex]
        omega
      have cc := HR.out.cell k (by omega)
      have cf := HR.out.fr k (by omega)
      rw [← hx] at cc
      have e1 : IntKind.u8.wrap (10 * (r : Int)) = ((10 * r : Nat) : Int) := by
        unfold IntKind.wrap
        simp [IntKind.bits, IntKind.signed]
        omega
      have e2 : IntKind.u8.wrap (((10 * r : Nat) : Int) + (x : Int)) = ((10 * r + x : Nat) : Int) := by
        unfold IntKind.wrap
        simp [IntKind.bits, IntKind.signed]
        omega
      have e2' : IntKind.u8.wrap (10 * (r : Int) + (x : Int)) = ((10 * r + x : Nat) : Int) := by
        unfold IntKind.wrap
        simp [IntKind.bits, IntKind.signed]
        omega
      have e3 : IntKind.u8.wrap (((10 * r + x : Nat) : Int) - 48) = (v : Int) := by
        unfold IntKind.wrap
        simp [IntKind.bits, IntKind.signed]
        omega
      have e3' : IntKind.u8.wrap (10 * (r : Int) + (x : Int) - 48) = (v : Int) := by
        unfold IntKind.wrap
        simp [IntKind.bits, IntKind.signed]
        omega
      have e5 : (v : Int).tmod 2 = (z : Int) := by rw [Int.tmod_eq_emod_of_nonneg (by omega)]; omega
      have e5' : (v : Int) % 2 = (z : Int) := by omega
      have e8 : (v : Int) / 2 = (q : Int) := by omega
      have e9 : IntKind.u8.wrap (q : Int) = (q : Int) := by
        unfold IntKind.wrap
        simp [IntKind.bits, IntKind.signed]
        omega
      have e7 : IntKind.u8.wrap (48 + (q : Int)) = (d : Int) := by
        unfold IntKind.wrap
        simp [IntKind.bits, IntKind.signed]
        omega
      have e10 : IntKind.i64.wrap ((k : Int) + 1) = (k : Int) + 1 := by
        unfold IntKind.wrap
        simp [IntKind.bits, IntKind.signed]
        omega
      have i0 : (0 : Int) ≤ (k : Int) := by omega
      have i1 : (k : Int) < (n : Int) + 1 := by omega
      have HA : Hid (k < n + 1) := c1
      clear hn hF1 hF2 hF3 hx ex xd r1 hv hq hz hdd c1 hk
      go_wp2
      go_roundw
      case rel =>
        refine ⟨k + 1, z, putF F k d, rfl, by go_num, by have := HA.out; omega, HO.out.put GL.out _ _, HR.out.set (by have := HA.out; omega) d, fun i h1 => ?_, fun i h1 h2 => ?_, ?_⟩
        · unfold putF
          by_cases zz : i = k
          · rw [if_pos zz, zz]; exact HT.out.1
          · rw [if_neg zz]; exact HF.out.1 i (by omega)
        · unfold putF
          rw [if_neg (by omega)]
          exact HF.out.2.1 i (by omega) h2
        · rw [if_neg (by omega), show k + 1 - 1 = k by omega]; exact HT.out.2
      case measure => have := HA.out; (simp [intOf] <;> omega)
    · obtain rfl : k = n + 1 := by omega
      have i1 : ¬ ((n : Int) + 1) < (n : Int) + 1 := by omega
      obtain ⟨_, _, a0, a1, a2, r0, r1, r2, fr⟩ := HO.out
      have hcv : (Go.convert 48 9 (.slice (some ⟨g, 0, none⟩) (n + 1) C)).run Tryd.prog wr = .ok (.string u) wr := by
        have hs := Hn.out.1
        rw [HU.out]
        unfold tmS
        rw [← hs]
        refine run_convert_bytes_arg wr 48 5 und_bytes48 und_u8b g 0 (n + 1) C _ (by simp) ?_ 9 und_str9b
        intro i hi
        have q := HR.out.cell i hi
        rw [Nat.zero_add, q, HF.out.1 i hi]
        simp [List.getD_eq_getElem?_getD, hi]
      go_wp2_with fail
      refine (Mk _).mono ?_
      rintro e w3 ⟨rfl, hb3⟩
      have O3 : Hid (OneR w w3 s p false) := HO.out.step hb3
      clear hb3 hcv a0 a1 a2 r0 r1 r2 fr
      obtain ⟨_, _, a0, a1, a2, r0, r1, r2, fr⟩ := O3.out
      go_wp2
      refine bodyPost_ret (v := .tuple #[.agg #[.string s2, .int .i64 p2, .bool c2], .int .i64 kk]) (by simp [results, Tryd.results19, go_sem, *]) rfl ⟨rfl, ?_⟩
      exact (((O3.out.bel.setCell (by simp) _).setCell (by simp) _).setCell (by simp) _)

end Go.Proofs.YtladeppjccfbhaaDoor
