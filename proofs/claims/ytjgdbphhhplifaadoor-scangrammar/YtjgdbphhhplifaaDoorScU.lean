/-
  The document's Dec and hexa: what they answer for every two rows of digits.
-/
import Derived.Test.YtjgdbphhhplifaaDoorScT
import Derived.Test.YtjgdbphhhplifaaDoorScF
namespace Go.Proofs.YtjgdbphhhplifaaDoor
open Go.RowKit

theorem set_at0 {w : World} {o : Nat} : w.heap.size ≤ (⟨w.heap.size, o, none⟩ : Addr).block := Nat.le_refl _
theorem shT_empty {D : List UInt8} (h : nz D = 0) : (bl (shT D)).toList.isEmpty = D.isEmpty := by
  rw [bl_empty]
  cases D with
  | nil => rfl
  | cons c r =>
    have := (shT_ne (D := c :: r) (by simp) h).1
    cases q : shT (c :: r) with
    | nil => exact absurd q this
    | cons a t => rfl
theorem plD_at {W P : List UInt8} {i : Nat} (h : i < (W ++ P).length) : (plD W P)[i]'(by rw [plD_len, ← List.length_append]; exact h) = pln ((W ++ P)[i]'h) := by
  unfold plD; rw [List.getElem_map]
theorem plD_succ {W P : List UInt8} {i : Nat} (h : i < (W ++ P).length) : (plD W P).take (i + 1) = (plD W P).take i ++ [pln ((W ++ P)[i]'h)] := by
  rw [List.take_succ_eq_append_getElem (by rw [plD_len, ← List.length_append]; exact h), plD_at h]
set_option maxRecDepth 100000 in
set_option maxHeartbeats 4000000 in
theorem rdec_any (W P : List UInt8) (hl : W.length + P.length ≤ 1048576) (e : Int) (w : World) : Calls Tryd.prog 16 #[.string (bl W), .string (bl P), .int .i64 e] w fun o w' => o = .returned (deV W P e) ∧ Below w.heap.size w w' := by
  obtain ⟨ii, hi, hz0, hz1, hz2⟩ := info_parts info_b8
  have hpl := plD_len W P
  have MK := fun V => rmake_any (plD W P) (by omega) (plD_mem W P) V
  have hnz := nz_le (plD W P)
  have NZ : ∀ V, Calls Tryd.prog 39 #[.string (bl (plD W P))] V fun e w' => e = .returned (.int .i64 (nz (plD W P) : Int)) ∧ w' = V := fun V => zeros_any (bl (plD W P)) (by rw [bl_size]; omega) V
  have CE := fun V => cut_any e V
  have ci := ctI_in e
  have hgd : (plD W P).drop (nz (plD W P)) = dgF W P := rfl
  have hE := shT_empty (NZD (plD W P))
  rw [hgd] at MK hE
  have HL : Hid ((W ++ P).length = W.length + P.length) := List.length_append
  have hWs : (bl W).size ≤ 1048576 := by rw [bl_size]; omega
  have hPs : (bl P).size ≤ 1048576 := by rw [bl_size]; omega
  have HW : Hid ((bl W).size = W.length ∧ (bl P).size = P.length ∧ (∀ k (h : k < W.length) (h' : k < (bl W).size), (bl W)[k]'h' = W[k]'h) ∧ (∀ k (h : k < P.length) (h' : k < (bl P).size), (bl P)[k]'h' = P[k]'h)) := ⟨rfl, rfl, fun _ _ _ => rfl, fun _ _ _ => rfl⟩
  have HS : Hid (W.length + P.length ≤ 1048576 ∧ (plD W P).length = W.length + P.length ∧ nz (plD W P) ≤ 1048576 ∧ nz (plD W P) ≤ (plD W P).length) := ⟨hl, hpl, by omega, hnz⟩
  have HDE : Hid (deV W P e = dcV (bl (shT (dgF W P))) (dcP W P e) (anz ((dgF W P).drop 800))) := rfl
  have HDP : Hid (dcP W P e = if dgF W P = [] then 0 else ctI (ctI e + W.length - nz (plD W P))) := rfl
  have HDZ : Hid (nz (plD W P) = (plD W P).length ↔ dgF W P = []) := by
    show _ ↔ _
    unfold dgF
    rw [List.drop_eq_nil_iff]
    omega
  have CP := fun V => cut_any (ctI e + (bl W).size - nz (plD W P)) V
  have w1' : wrap64 (ctI e + ((bl W).size : Int)) = ctI e + ((bl W).size : Int) := by unfold wrap64; omega
  have w2' : wrap64 (ctI e + ((bl W).size : Int) - (nz (plD W P) : Int)) = ctI e + ((bl W).size : Int) - (nz (plD W P) : Int) := by unfold wrap64; omega
  obtain ⟨W0, hW0⟩ : ∃ W0, W0 = w.alloc (.cells #[.string ⟨#[]⟩, .int .i64 0, .bool false] 23) := ⟨_, rfl⟩
  have HW0 : Hid (W0 = w.alloc (.cells #[.string ⟨#[]⟩, .int .i64 0, .bool false] 23)) := hW0
  have B1 : Hid (RB W0 (w.alloc (.cells #[.string ⟨#[]⟩, .int .i64 0, .bool false] 23)) (.slice none 0 0) [] ∧ [] = (plD W P).take 0 ∧ ([] : List UInt8).length = 0) := by
    rw [← hW0]
    exact ⟨⟨World.ownsRow_nil _ _ _ _, Below.refl _ _⟩, rfl, rfl⟩
  have DGc := fun c V => rdigit_any c false V
  rw [show bs false = 10 from rfl] at DGc
  clear hW0 hl hpl hnz hgd
  generalize hsW : bl W = s at *
  generalize hsP : bl P = t at *
  clear hsW hsP
  go_enter Tryd.func16, Tryd.ntmps16
  go_wp2
  go_loopw [7, 8] (fun v iv wr => ∃ (i : Nat) (oo : List UInt8), i ≤ W.length + P.length ∧ iv = .int .i64 (i : Int) ∧ Hid (RB W0 wr v oo ∧ oo = (plD W P).take i ∧ oo.length = i)) (fun _ iv _ => W.length + P.length - (intOf iv).toNat)
  case atStart => exact ⟨0, [], Nat.zero_le _, rfl, B1⟩
  case round =>
    clear B1
    obtain ⟨i, oo, hi1, rfl, B3⟩ := hrel
    have hi8 : i ≤ 1048576 := by have := HS.out.1; omega
    have HZ : Hid (W0.heap.size ≤ wr.heap.size) := B3.out.1.bel.size
    by_cases c1 : i < W.length + P.length
    · have hiL : i < (W ++ P).length := by rw [HL.out]; exact c1
      have i1 : (i : Int) < (s.size : Int) + (t.size : Int) := by have := HW.out.1; have := HW.out.2.1; omega
      have i0 : (0 : Int) ≤ (i : Int) := by omega
      have HPS : Hid ((plD W P).take (i + 1) = (plD W P).take i ++ [pln ((W ++ P)[i]'hiL)]) := plD_succ hiL
      obtain ⟨x, hx⟩ : ∃ x, (W ++ P)[i]'hiL = x := ⟨_, rfl⟩
      rw [hx] at HPS
      have D1 := fun V => DGc x V
      clear DGc MK NZ CE CP HDE HDP HDZ
      by_cases c2 : i < W.length
      · have hs1 : i < s.size := by have := HW.out.1; omega
        have i2 : (i : Int) < (s.size : Int) := by omega
        have hcx : ((((s[i]'hs1).toNat : Nat) : Int)) = (x.toNat : Int) := by
          rw [HW.out.2.2.1 i c2 hs1, ← hx, List.getElem_append_left c2]
        clear hx
        rcases Bool.eq_false_or_eq_true (isD 10 x) with q | q
        · rw [q] at D1
          have HP : Hid (pln x = x) := by show (if _ then _ else _) = _; rw [if_pos q]
          clear q
          go_wp2_with fail
          refine (D1 _).mono ?_
          rintro e wr ⟨rfl, rfl⟩
          go_wp2_with (first | (at_builtin; refine wpList_append_own _ rfl _ _ 71 rfl W0.heap.size 5 ii (.int .u8 0) 1 1 und_bs hi hz0 hz1 hz2 rfl (by decide) _ _ _ rfl (B3.out.1.own.alloc _) ⟨wr.heap.size, 0, none⟩ 1 1 [.int .u8 (x.toNat : Int)] rfl rfl (World.news_of_block (cs := #[.int .u8 (x.toNat : Int)]) (t := 5) (fr := (0, 0)) (heap_alloc_new _ _)) (by simp [Value.oneCell']) (by have := B3.out.2.2; unfold maxLen; simp; omega) (by have := B3.out.2.2; simp; omega) (by have := HZ.out; simp; omega) ?_) | go_in)
          intro v5 w5 ho5 hg5 _
          have B5 : Hid (RB W0 w5 v5 (oo ++ [x]) ∧ oo ++ [x] = (plD W P).take (i + 1) ∧ (oo ++ [x]).length = i + 1) := by
            refine ⟨B3.out.1.app (m := [x]) ho5 hg5, ?_, ?_⟩
            · rw [HPS.out, HP.out, B3.out.2.1]
            · rw [List.length_append, B3.out.2.2]; rfl
          clear ho5 hg5
          go_wp2
          go_roundw
          case rel => exact ⟨i + 1, _, by omega, by go_num, B5⟩
          case measure => simp [intOf]; omega
        · rw [q] at D1
          have HP : Hid (pln x = 48) := by show (if _ then _ else _) = _; rw [if_neg (by rw [q]; decide)]
          clear q
          go_wp2_with fail
          refine (D1 _).mono ?_
          rintro e wr ⟨rfl, rfl⟩
          go_wp2_with (first | (at_builtin; refine wpList_append_own _ rfl _ _ 71 rfl W0.heap.size 5 ii (.int .u8 0) 1 1 und_bs hi hz0 hz1 hz2 rfl (by decide) _ _ _ rfl (B3.out.1.own.alloc _) ⟨wr.heap.size, 0, none⟩ 1 1 [.int .u8 48] rfl rfl (World.news_of_block (cs := #[.int .u8 48]) (t := 5) (fr := (0, 0)) (heap_alloc_new _ _)) (by simp [Value.oneCell']) (by have := B3.out.2.2; unfold maxLen; simp; omega) (by have := B3.out.2.2; simp; omega) (by have := HZ.out; simp; omega) ?_) | go_in)
          intro v5 w5 ho5 hg5 _
          have B5 : Hid (RB W0 w5 v5 (oo ++ [48]) ∧ oo ++ [48] = (plD W P).take (i + 1) ∧ (oo ++ [48]).length = i + 1) := by
            refine ⟨B3.out.1.app (m := [48]) ho5 hg5, ?_, ?_⟩
            · rw [HPS.out, HP.out, B3.out.2.1]
            · rw [List.length_append, B3.out.2.2]; rfl
          clear ho5 hg5
          go_wp2
          go_roundw
          case rel => exact ⟨i + 1, _, by omega, by go_num, B5⟩
          case measure => simp [intOf]; omega
      · have i2 : ¬ (i : Int) < (s.size : Int) := by have := HW.out.1; omega
        have hp1 : i - s.size < t.size := by have := HW.out.1; have := HW.out.2.1; omega
        have hpl : i - W.length < P.length := by omega
        have i3 : ((i : Int) - (s.size : Int)).toNat = i - s.size := by have := HW.out.1; omega
        have i4 : (0 : Int) ≤ (i : Int) - (s.size : Int) := by omega
        have i5 : (i : Int) - (s.size : Int) < (t.size : Int) := by omega
        have hcx : ((((t[i - s.size]'hp1).toNat : Nat) : Int)) = (x.toNat : Int) := by
          have e1 : t[i - s.size]'hp1 = P[i - W.length]'hpl := by
            rw [← HW.out.2.2.2 (i - W.length) hpl (by have := HW.out.1; omega)]
            congr 1
            have := HW.out.1; omega
          rw [e1, ← hx, List.getElem_append_right (by omega)]
        clear hx hpl
        rcases Bool.eq_false_or_eq_true (isD 10 x) with q | q
        · rw [q] at D1
          have HP : Hid (pln x = x) := by show (if _ then _ else _) = _; rw [if_pos q]
          clear q
          go_wp2_with fail
          refine (D1 _).mono ?_
          rintro e wr ⟨rfl, rfl⟩
          go_wp2_with (first | (at_builtin; refine wpList_append_own _ rfl _ _ 71 rfl W0.heap.size 5 ii (.int .u8 0) 1 1 und_bs hi hz0 hz1 hz2 rfl (by decide) _ _ _ rfl (B3.out.1.own.alloc _) ⟨wr.heap.size, 0, none⟩ 1 1 [.int .u8 (x.toNat : Int)] rfl rfl (World.news_of_block (cs := #[.int .u8 (x.toNat : Int)]) (t := 5) (fr := (0, 0)) (heap_alloc_new _ _)) (by simp [Value.oneCell']) (by have := B3.out.2.2; unfold maxLen; simp; omega) (by have := B3.out.2.2; simp; omega) (by have := HZ.out; simp; omega) ?_) | go_in)
          intro v5 w5 ho5 hg5 _
          have B5 : Hid (RB W0 w5 v5 (oo ++ [x]) ∧ oo ++ [x] = (plD W P).take (i + 1) ∧ (oo ++ [x]).length = i + 1) := by
            refine ⟨B3.out.1.app (m := [x]) ho5 hg5, ?_, ?_⟩
            · rw [HPS.out, HP.out, B3.out.2.1]
            · rw [List.length_append, B3.out.2.2]; rfl
          clear ho5 hg5
          go_wp2
          go_roundw
          case rel => exact ⟨i + 1, _, by omega, by go_num, B5⟩
          case measure => simp [intOf]; omega
        · rw [q] at D1
          have HP : Hid (pln x = 48) := by show (if _ then _ else _) = _; rw [if_neg (by rw [q]; decide)]
          clear q
          go_wp2_with fail
          refine (D1 _).mono ?_
          rintro e wr ⟨rfl, rfl⟩
          go_wp2_with (first | (at_builtin; refine wpList_append_own _ rfl _ _ 71 rfl W0.heap.size 5 ii (.int .u8 0) 1 1 und_bs hi hz0 hz1 hz2 rfl (by decide) _ _ _ rfl (B3.out.1.own.alloc _) ⟨wr.heap.size, 0, none⟩ 1 1 [.int .u8 48] rfl rfl (World.news_of_block (cs := #[.int .u8 48]) (t := 5) (fr := (0, 0)) (heap_alloc_new _ _)) (by simp [Value.oneCell']) (by have := B3.out.2.2; unfold maxLen; simp; omega) (by have := B3.out.2.2; simp; omega) (by have := HZ.out; simp; omega) ?_) | go_in)
          intro v5 w5 ho5 hg5 _
          have B5 : Hid (RB W0 w5 v5 (oo ++ [48]) ∧ oo ++ [48] = (plD W P).take (i + 1) ∧ (oo ++ [48]).length = i + 1) := by
            refine ⟨B3.out.1.app (m := [48]) ho5 hg5, ?_, ?_⟩
            · rw [HPS.out, HP.out, B3.out.2.1]
            · rw [List.length_append, B3.out.2.2]; rfl
          clear ho5 hg5
          go_wp2
          go_roundw
          case rel => exact ⟨i + 1, _, by omega, by go_num, B5⟩
          case measure => simp [intOf]; omega
    · obtain rfl : i = W.length + P.length := by omega
      have i1 : ¬ ((W.length + P.length : Nat) : Int) < (s.size : Int) + (t.size : Int) := by have := HW.out.1; have := HW.out.2.1; omega
      have tk : (plD W P).take (W.length + P.length) = plD W P := List.take_of_length_le (by have := HS.out.2.1; omega)
      have cv := B3.out.1.text
      rw [B3.out.2.1, tk, show (⟨(plD W P).toArray⟩ : ByteArray) = bl (plD W P) from rfl] at cv
      have HB3 : Hid (Below W0.heap.size W0 wr) := B3.out.1.bel
      have hk9 : nz (plD W P) ≤ 1048576 := HS.out.2.2.1
      clear DGc tk
      generalize ((W.length + P.length : Nat) : Int) = nn at *
      by_cases q : dgF W P = []
      · have eE : (bl (shT (dgF W P))).toList.isEmpty = true := by rw [hE, q]; rfl
        have HV : Hid (deV W P e = .agg #[.string ⟨#[]⟩, .int .i64 0, .bool false]) := deV_zero q
        rw [if_pos (HDZ.out.2 q)] at MK
        have MK2 : ∀ V, Calls Tryd.prog 37 #[.string (bl (plD W P)), .int .i64 0, .bool false] V fun e w' => e = .returned (.tuple #[.agg #[.string ⟨#[]⟩, .int .i64 0, .bool false], .int .i64 0]) ∧ Below V.heap.size V w' := fun V => by have := MK V; rw [q] at this; exact this
        clear MK NZ CE CP HDE HDP HDZ eE hE q w1' w2'
        generalize bl (plD W P) = u at *
        go_wp2_with fail
        refine (MK2 _).mono ?_
        rintro o w2 ⟨rfl, b2⟩
        have HB2 : Hid (Below W0.heap.size W0 w2) := HB3.out.trans (b2.mono HB3.out.size)
        clear b2
        have hb := HB2.out
        rw [HW0.out] at hb
        have hs2 : w.heap.size < w2.heap.size := by have := hb.size; simp at this; omega
        obtain ⟨hc, hf⟩ : (∀ o, w2.cell? ⟨w.heap.size, o, none⟩ = (w.alloc (.cells #[.string ⟨#[]⟩, .int .i64 0, .bool false] 23)).cell? ⟨w.heap.size, o, none⟩) ∧ (∀ o, w2.frozen? ⟨w.heap.size, o, none⟩ = (w.alloc (.cells #[.string ⟨#[]⟩, .int .i64 0, .bool false] 23)).frozen? ⟨w.heap.size, o, none⟩) :=
          ⟨fun o => hb.cell (p := ⟨w.heap.size, o, none⟩) (by simp), fun o => hb.frozen (p := ⟨w.heap.size, o, none⟩) (by simp)⟩
        have HF : Hid (Below w.heap.size w w2) := ((Below.refl _ _).alloc (Nat.le_refl _) _).trans (hb.mono (by simp))
        clear hb
        go_wp2
        refine bodyPost_ret (v := .agg #[.string ⟨#[]⟩, .int .i64 0, .bool false]) (by simp [results, Tryd.results16, go_sem, hc, hs2]) rfl ⟨by rw [HV.out], ?_⟩
        refine Below.alloc ?_ (by simp; omega) _
        iterate 3 (refine Below.setCell ?_ set_at0 _)
        exact HF.out
      · have eE : (bl (shT (dgF W P))).toList.isEmpty = false := by
          rw [hE]
          cases hh : dgF W P with
          | nil => exact absurd hh q
          | cons a t => rfl
        have HV : Hid (deV W P e = .agg #[.string (bl (shT (dgF W P))), .int .i64 (ctI (ctI e + s.size - nz (plD W P))), .bool (anz ((dgF W P).drop 800))]) := by
          show _ = _
          rw [HDE.out, HDP.out, if_neg q, ← HW.out.1]; rfl
        rw [if_neg (fun z => q (HDZ.out.1 z))] at MK
        clear HDE HDP HDZ hE q
        generalize bl (plD W P) = u at *
        generalize nz (plD W P) = z at *
        generalize bl (shT (dgF W P)) = T at *
        generalize anz ((dgF W P).drop 800) = Y at *
        generalize ctI e = ce at *
        generalize hpp : ctI (ce + (s.size : Int) - (z : Int)) = pp at *
        have HPP : Hid (ctI (ce + (s.size : Int) - (z : Int)) = pp) := hpp
        clear hpp
        go_wp2_with fail
        refine (MK _).mono ?_
        rintro o w2 ⟨rfl, b2⟩
        have HB2 : Hid (Below W0.heap.size W0 w2) := HB3.out.trans (b2.mono HB3.out.size)
        clear b2
        have hb := HB2.out
        rw [HW0.out] at hb
        have hs2 : w.heap.size < w2.heap.size := by have := hb.size; simp at this; omega
        obtain ⟨hc, hf⟩ : (∀ o, w2.cell? ⟨w.heap.size, o, none⟩ = (w.alloc (.cells #[.string ⟨#[]⟩, .int .i64 0, .bool false] 23)).cell? ⟨w.heap.size, o, none⟩) ∧ (∀ o, w2.frozen? ⟨w.heap.size, o, none⟩ = (w.alloc (.cells #[.string ⟨#[]⟩, .int .i64 0, .bool false] 23)).frozen? ⟨w.heap.size, o, none⟩) :=
          ⟨fun o => hb.cell (p := ⟨w.heap.size, o, none⟩) (by simp), fun o => hb.frozen (p := ⟨w.heap.size, o, none⟩) (by simp)⟩
        have HF : Hid (Below w.heap.size w w2) := ((Below.refl _ _).alloc (Nat.le_refl _) _).trans (hb.mono (by simp))
        clear hb
        go_wp2_with fail
        refine (CE _).mono ?_
        rintro o w3 ⟨rfl, rfl⟩
        go_wp2_with fail
        refine (NZ _).mono ?_
        rintro o w3 ⟨rfl, rfl⟩
        go_wp2_with fail
        refine (CP _).mono ?_
        rintro o w3 ⟨rfl, rfl⟩
        go_wp2
        refine bodyPost_ret (v := .agg #[.string T, .int .i64 pp, .bool Y]) (by simp [results, Tryd.results16, go_sem, hc, hs2]) rfl ⟨by rw [HV.out], ?_⟩
        refine Below.alloc ?_ (by simp; omega) _
        iterate 3 (refine Below.setCell ?_ set_at0 _)
        exact HF.out
end Go.Proofs.YtjgdbphhhplifaaDoor
