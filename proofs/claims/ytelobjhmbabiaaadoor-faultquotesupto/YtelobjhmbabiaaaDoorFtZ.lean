/-
  The document's Unquote: what it answers for every text.
-/
import Derived.Test.YtelobjhmbabiaaaDoorFtY
namespace Go.Proofs.YtelobjhmbabiaaaDoor
open Go.RowKit

set_option maxRecDepth 100000 in
set_option maxHeartbeats 2000000 in
theorem runq_hdr (q : ByteArray) (hs : q.size ≤ 9223372036854775807) (h : ¬ Hdr q) (w : World) :
    Calls Tryd.prog 9 #[.string q] w fun e w' => e = .returned (.tuple #[.string ⟨#[]⟩, .int .i64 3]) ∧ Below w.heap.size w w' := by
  by_cases h2 : 2 ≤ q.size
  · have z : ¬ (q.size : Int) < 2 := by omega
    have p0 : 0 < q.size := by omega
    by_cases ha : ((q[0]'(by omega)).toNat : Int) = 34
    · have hb : ((q[q.size - 1]'(by omega)).toNat : Int) ≠ 34 := fun b => h ⟨h2, ha, b⟩
      obtain ⟨x, hx⟩ : ∃ x, ((q[q.size - 1]'(by omega)).toNat : Int) = x := ⟨_, rfl⟩
      rw [hx] at hb
      have nb : (x != 34) = true := bne_iff_ne.mpr hb
      have ix : ((q.size : Int) - 1).toNat = q.size - 1 := by omega
      have i1 : (0 : Int) ≤ (q.size : Int) - 1 := by omega
      clear h hb
      go_enter Tryd.func9, Tryd.ntmps9
      go_wp2
      go_ret2
      exact ⟨rfl, Below.refl _ _⟩
    · obtain ⟨x, hx⟩ : ∃ x, ((q[0]'(by omega)).toNat : Int) = x := ⟨_, rfl⟩
      rw [hx] at ha
      have na : (x != 34) = true := bne_iff_ne.mpr ha
      clear h ha
      go_enter Tryd.func9, Tryd.ntmps9
      go_wp2
      go_ret2
      exact ⟨rfl, Below.refl _ _⟩
  · have z : (q.size : Int) < 2 := by omega
    clear h h2
    go_enter Tryd.func9, Tryd.ntmps9
    go_wp2
    go_ret2
    exact ⟨rfl, Below.refl _ _⟩

theorem RB.step {w wr w6 : World} {v : Value} {l : List UInt8} (h : RB w wr v l) (hb : Below wr.heap.size wr w6) : RB w w6 v l := by
  refine ⟨⟨h.own.1, ?_⟩, h.bel.trans (hb.mono h.bel.size)⟩
  rcases h.own.2 with a | ⟨g, cap, cur, rfl, h1, hg, rest⟩
  · exact Or.inl a
  · refine Or.inr ⟨g, cap, cur, rfl, h1, (hb.block g ?_).trans hg, rest⟩
    rcases Nat.lt_or_ge g wr.heap.size with a | a
    · exact a
    · simp [Array.getElem?_eq_none a] at hg
theorem or_hex8 : ∀ x y : Fin 16, bits BinOp.or IntKind.u8 ((x.val : Int) * 16) (y.val : Int) = ((16 * x.val + y.val : Nat) : Int) := by decide +kernel
theorem str_same2 (a : ByteArray) : (a.toList == a.toList) = true := by simp
theorem str_ne2 {a b : ByteArray} (h : a ≠ b) : (a.toList == b.toList) = false := by
  rw [list_data, list_data]
  refine beq_eq_false_iff_ne.mpr fun q => h ?_
  exact ByteArray.ext (Array.toList_inj.mp q)

set_option maxRecDepth 100000 in
set_option maxHeartbeats 4000000 in
theorem runq_in {q : ByteArray} (hs : q.size ≤ 35000000000000) (hd : Hdr q) {T : ByteArray} {nn : Int} (hR : (inn q = qIn T.data.toList ∧ nn = 0) ∨ ((∀ t, inn q ≠ qIn t) ∧ T = ⟨#[]⟩ ∧ nn = 3)) (w : World) :
    Calls Tryd.prog 9 #[.string q] w fun e w' => e = .returned (.tuple #[.string T, .int .i64 nn]) ∧ Below w.heap.size w w' := by
  obtain ⟨i0, hi, hz0, hz1, hz2⟩ := info_parts info_b8
  have DG := digit_any
  have HD : Hid (Hdr q) := hd
  have HR : Hid ((inn q = qIn T.data.toList ∧ nn = 0) ∨ ((∀ t, inn q ≠ qIn t) ∧ T = ⟨#[]⟩ ∧ nn = 3)) := hR
  clear hR
  have z : ¬ (q.size : Int) < 2 := by have := hd.len; omega
  have p0 : 0 < q.size := by omega
  have p1 : q.size - 1 < q.size := by omega
  have ha : ((q[0]'p0).toNat : Int) = 34 := hd.a
  have hb : ((q[q.size - 1]'p1).toNat : Int) = 34 := hd.b
  have ix : ((q.size : Int) - 1).toNat = q.size - 1 := by omega
  have i1 : (0 : Int) ≤ (q.size : Int) - 1 := by omega
  have i2 : (1 : Int) ≤ (q.size : Int) - 1 := by omega
  have i3 : (q.size : Int) - 1 ≤ (q.size : Int) := by omega
  clear hd
  have hS0 : (q.extract 1 (q.size - 1)).data.toList = inn q := rfl
  have hz0' : (q.extract 1 (q.size - 1)).size = q.size - 2 := by rw [ByteArray.size_extract]; omega
  obtain ⟨S, e0⟩ : ∃ S, q.extract 1 (q.size - 1) = S := ⟨_, rfl⟩
  rw [e0] at hS0 hz0'
  have HS0 : Hid (S.data.toList = inn q) := hS0
  have HS : Hid (S.size ≤ 35000000000000 ∧ q.size ≤ 35000000000000) := ⟨by omega, hs⟩
  have hbS : S.size ≤ 9223372036854775000 := by omega
  have hs2 : q.size ≤ 9223372036854775807 := by omega
  clear hS0 hz0' hs
  go_enter Tryd.func9, Tryd.ntmps9
  go_wp2
  clear ha hb ix i1 i2 i3 z e0 p0 p1
  go_loopw [5, 6] (fun v i wr => ∃ (k : Nat) (bs : List UInt8), i = .int .i64 (k : Int) ∧ k ≤ S.size ∧ Hid (bs.length ≤ k) ∧ Hid (∀ t, inn q = qIn t → ∃ t', t = bs ++ t' ∧ (S.data.toList.drop k) = qIn t') ∧ Hid (RB w wr v bs)) (fun _ i _ => S.size - (intOf i).toNat)
  case atStart => exact ⟨0, [], rfl, Nat.zero_le _, Nat.le_refl _, fun t ht => ⟨t, rfl, by rw [List.drop_zero, HS0.out, ht]⟩, ⟨World.ownsRow_nil _ _ _ _, Below.refl _ _⟩⟩
  case round =>
    obtain ⟨k, bs, rfl, hk, HB, HI, R3⟩ := hrel
    have HZ : Hid (w.heap.size ≤ wr.heap.size) := R3.out.bel.size
    by_cases hlt : k < S.size
    · have hd0 : S.data.toList.drop k = (S[k]'hlt) :: S.data.toList.drop (k + 1) := by
        rw [List.drop_eq_getElem_cons (by simpa using hlt)]
        rfl
      obtain ⟨c, hc⟩ : ∃ c, S[k]'hlt = c := ⟨_, rfl⟩
      rw [hc] at hd0
      have hc' : ((S[k]'hlt).toNat : Int) = (c.toNat : Int) := by rw [hc]
      have HD0 : Hid (S.data.toList.drop k = c :: S.data.toList.drop (k + 1)) := hd0
      clear hd0
      by_cases c1 : c = 92
      · subst c1
        have hc2 : ((S[k]'hlt).toNat : Int) = 92 := by rw [hc]; rfl
        clear hc hc'
        have ik1 : ((k : Int) + 1).toNat = k + 1 := by omega
        have ik2 : ((k : Int) + 2).toNat = k + 2 := by omega
        have ik3 : ((k : Int) + 3).toNat = k + 3 := by omega
        have wk1 : IntKind.i64.wrap ((k : Int) + 1) = (k : Int) + 1 := by rw [IntKind.wrap_i64]; omega
        have wk3 : IntKind.i64.wrap ((k : Int) + 3) = (k : Int) + 3 := by rw [IntKind.wrap_i64]; omega
        have none_R : (∀ t, inn q ≠ qIn t) → T = ⟨#[]⟩ ∧ nn = 3 := fun h => by
          rcases HR.out with ⟨a, _⟩ | ⟨_, b⟩
          · exact absurd a (h _)
          · exact b
        by_cases h1 : k + 1 < S.size
        · have hd1 : S.data.toList.drop (k + 1) = (S[k + 1]'h1) :: S.data.toList.drop (k + 2) := by
            rw [List.drop_eq_getElem_cons (by simpa using h1)]
            rfl
          obtain ⟨d, hd⟩ : ∃ d, S[k + 1]'h1 = d := ⟨_, rfl⟩
          rw [hd] at hd1
          have HD1 : Hid (S.data.toList.drop (k + 1) = d :: S.data.toList.drop (k + 2)) := hd1
          have j1 : (0 : Int) ≤ (k : Int) + 1 := by omega
          have j2 : (k : Int) + 1 < (S.size : Int) := by omega
          clear hd1
          by_cases c2 : d = 34 ∨ d = 92
          · have HI2 : Hid (∀ t, inn q = qIn t → ∃ t', t = (bs ++ [d]) ++ t' ∧ (S.data.toList.drop (k + 2)) = qIn t') := fun t ht => by
              obtain ⟨t', e1, e2⟩ := HI.out t ht
              rw [HD0.out, HD1.out] at e2
              obtain ⟨t'', rfl, e3⟩ := inv2 e2 c2
              exact ⟨t'', by rw [e1]; simp, e3⟩
            have HB2 : Hid ((bs ++ [d]).length ≤ k + 2) := by have := HB.out; show (bs ++ [d]).length ≤ k + 2; simp; omega
            have hd' : ((S[k + 1]'h1).toNat : Int) = (d.toNat : Int) := by rw [hd]
            clear DG none_R
            rcases c2 with q0 | q0
            · have hd2 : ((S[k + 1]'h1).toNat : Int) = 34 := by rw [hd', q0]; rfl
              clear hd' hd
              go_wp2_with (first | (at_builtin; refine wpList_append_own _ rfl _ _ 60 rfl w.heap.size 5 i0 (.int .u8 0) 1 1 und_bs hi hz0 hz1 hz2 rfl (by decide) _ _ _ rfl (R3.out.own.alloc _) ⟨wr.heap.size, 0, none⟩ 1 1 [.int .u8 34] rfl rfl (World.news_of_block (cs := #[.int .u8 34]) (t := 5) (fr := (0, 0)) (heap_alloc_new _ _)) (by simp [Value.oneCell']) (by have := HB.out; have := HS.out; unfold maxLen; omega) (by have := HB.out; have := HS.out; omega) (by have := HZ.out; simp; omega) ?_) | go_in)
              intro v5 w5 ho5 hg5 _
              have B5 : Hid (RB w w5 v5 (bs ++ [d])) := by rw [q0]; exact R3.out.app (m := [34]) ho5 hg5
              clear ho5 hg5
              go_wp2
              go_roundw
              case rel => exact ⟨k + 2, bs ++ [d], by go_num, by omega, HB2, HI2, B5⟩
              case measure => simp [intOf]; omega
            · have hd2 : ((S[k + 1]'h1).toNat : Int) = 92 := by rw [hd', q0]; rfl
              clear hd' hd
              go_wp2_with (first | (at_builtin; refine wpList_append_own _ rfl _ _ 60 rfl w.heap.size 5 i0 (.int .u8 0) 1 1 und_bs hi hz0 hz1 hz2 rfl (by decide) _ _ _ rfl (R3.out.own.alloc _) ⟨wr.heap.size, 0, none⟩ 1 1 [.int .u8 92] rfl rfl (World.news_of_block (cs := #[.int .u8 92]) (t := 5) (fr := (0, 0)) (heap_alloc_new _ _)) (by simp [Value.oneCell']) (by have := HB.out; have := HS.out; unfold maxLen; omega) (by have := HB.out; have := HS.out; omega) (by have := HZ.out; simp; omega) ?_) | go_in)
              intro v5 w5 ho5 hg5 _
              have B5 : Hid (RB w w5 v5 (bs ++ [d])) := by rw [q0]; exact R3.out.app (m := [92]) ho5 hg5
              clear ho5 hg5
              go_wp2
              go_roundw
              case rel => exact ⟨k + 2, bs ++ [d], by go_num, by omega, HB2, HI2, B5⟩
              case measure => simp [intOf]; omega
          · have HN3 : ∀ t, inn q = qIn t → d = 120 ∧ ∃ (e : UInt8) (t' : List UInt8), t = bs ++ e :: t' ∧ S.data.toList.drop (k + 2) = hx (e >>> 4) :: hx (e &&& 15) :: qIn t' := fun t ht => by
              obtain ⟨t', e1, e2⟩ := HI.out t ht
              rw [HD0.out, HD1.out] at e2
              obtain ⟨a1, e, t'', rfl, a2⟩ := inv3 e2 c2
              exact ⟨a1, e, t'', e1, a2⟩
            have n34 : ((d.toNat : Int) == 34) = false := by
              refine beq_eq_false_iff_ne.mpr fun q => c2 (Or.inl (UInt8.toNat_inj.mp (by show d.toNat = 34; omega)))
            have n92 : ((d.toNat : Int) == 92) = false := by
              refine beq_eq_false_iff_ne.mpr fun q => c2 (Or.inr (UInt8.toNat_inj.mp (by show d.toNat = 92; omega)))
            have hd' : ((S[k + 1]'h1).toNat : Int) = (d.toNat : Int) := by rw [hd]
            by_cases h3 : k + 3 < S.size
            · have l2 : (0 : Int) ≤ (k : Int) + 2 := by omega
              have l3 : (k : Int) + 2 < (S.size : Int) := by omega
              have m2 : (0 : Int) ≤ (k : Int) + 3 := by omega
              have m3 : (k : Int) + 3 < (S.size : Int) := by omega
              have wk2 : IntKind.i64.wrap ((k : Int) + 2) = (k : Int) + 2 := by rw [IntKind.wrap_i64]; omega
              by_cases c3 : d = 120
              · subst c3
                have hd120 : ((S[k + 1]'h1).toNat : Int) = 120 := by rw [hd]; rfl
                have h2 : k + 2 < S.size := by omega
                obtain ⟨a, ea⟩ : ∃ a, S[k + 2]'h2 = a := ⟨_, rfl⟩
                obtain ⟨b, eb⟩ : ∃ b, S[k + 3]'h3 = b := ⟨_, rfl⟩
                have hd2 : S.data.toList.drop (k + 2) = a :: b :: S.data.toList.drop (k + 4) := by
                  rw [List.drop_eq_getElem_cons (by simpa using h2), List.drop_eq_getElem_cons (i := k + 2 + 1) (by simpa using h3), ← ea, ← eb]
                  rfl
                have HD2 : Hid (S.data.toList.drop (k + 2) = a :: b :: S.data.toList.drop (k + 4)) := hd2
                have ea' : ((S[k + 2]'h2).toNat : Int) = (a.toNat : Int) := by rw [ea]
                have eb' : ((S[k + 3]'h3).toNat : Int) = (b.toNat : Int) := by rw [eb]
                clear hd2 ea eb hd hd' n34 n92 c2
                by_cases c4 : dg16 a < 16
                · have c4' : (dg16 a : Int) < 16 := by omega
                  by_cases c5 : dg16 b < 16
                  · have c5' : (dg16 b : Int) < 16 := by omega
                    have DA := fun W => DG a W
                    have DB := fun W => DG b W
                    obtain ⟨v, hv, hv2⟩ : ∃ v : UInt8, v.toNat = 16 * dg16 a + dg16 b ∧ ∀ d : UInt8, a = hx (d >>> 4) → b = hx (d &&& 15) → v = d := by
                      obtain ⟨_, _, g3⟩ := two_hex ⟨dg16 a, c4⟩ ⟨dg16 b, c5⟩
                      refine ⟨_, g3, fun d e1 e2 => UInt8.toNat_inj.mp ?_⟩
                      rw [g3]
                      simp only
                      rw [e1, e2, dg16_hi, dg16_lo]
                      exact (halves d).symm
                    have HI2 : Hid (∀ t, inn q = qIn t → ∃ t', t = (bs ++ [v]) ++ t' ∧ (S.data.toList.drop (k + 4)) = qIn t') := fun t ht => by
                      obtain ⟨_, d, t', e1, e2⟩ := HN3 t ht
                      rw [HD2.out] at e2
                      obtain ⟨f1, f2⟩ := List.cons.inj e2
                      obtain ⟨f3, f4⟩ := List.cons.inj f2
                      rw [hv2 d f1 f3]
                      exact ⟨t', by rw [e1]; simp, f4⟩
                    have HB2 : Hid ((bs ++ [v]).length ≤ k + 4) := by have := HB.out; show (bs ++ [v]).length ≤ k + 4; simp; omega
                    have or1 : bits BinOp.or IntKind.u8 ((dg16 a : Int) * 16) (dg16 b : Int) = (v.toNat : Int) := by rw [hv]; exact or_hex8 ⟨dg16 a, c4⟩ ⟨dg16 b, c5⟩
                    have sh1 : IntKind.u8.wrap ((dg16 a : Int) * 16) = (dg16 a : Int) * 16 := by rw [IntKind.wrap_u8]; omega
                    have sh2 : (dg16 a : Int) * 16 % 256 = (dg16 a : Int) * 16 := by omega
                    clear none_R HN3 hv hv2 DG
                    generalize dg16 a = x at *
                    generalize dg16 b = y at *
                    go_wp2_with fail
                    refine (DA _).mono ?_
                    rintro e wx ⟨rfl, hwx⟩
                    subst hwx
                    go_wp2_with fail
                    refine (DB _).mono ?_
                    rintro e wx ⟨rfl, hwx⟩
                    subst hwx
                    go_wp2_with fail
                    go_region_held3 (fun _ => True) (trivial)
                      (first
                        | (go_at_call_of 37 (Value.int .u8 (a.toNat : Int)); refine (DA _).mono ?_; rintro e wy ⟨rfl, hwy⟩; subst hwy)
                        | (go_at_call_of 37 (Value.int .u8 (b.toNat : Int)); refine (DB _).mono ?_; rintro e wy ⟨rfl, hwy⟩; subst hwy)
                        | (refine step_append_lies _ (by rfl) _ _ _ (by rfl) w.heap.size 5 i0 (.int .u8 0) 1 1 und_bs hi hz0 hz1 hz2 rfl (by omega) _ _ _ (by rfl) ((R3.out.own.drew).alloc _) ⟨wx.heap.size, 0, none⟩ 1 1 [.int .u8 (v.toNat : Int)] (by rfl) (by rfl) (World.news_of_block (cs := #[.int .u8 (v.toNat : Int)]) (t := 5) (fr := (0, 0)) (heap_alloc_new _ _)) (by simp [Value.oneCell']) (by omega) (by have := HB.out; have := HS.out; unfold maxLen; omega) (by have := HB.out; have := HS.out; omega) (by have := HZ.out; simp; omega) (wx.heap.size + 1) (by simp) ?_; intro gg cap w5 ho5 hg5 hat hlt2))
                    all_goals
                      have B5 : Hid (RB w w5 (.slice (some ⟨gg, 0, none⟩) (bs.length + 1) cap) (bs ++ [v])) := by
                        refine ⟨?_, ((R3.out.bel.alloc HZ.out _).drew).grown hg5 (by have := HZ.out; simp; omega) (fun q hq => (R3.out.own.lt q hq).1)⟩
                        rw [cells_append]
                        simpa [Lib.byteCells] using ho5
                      clear ho5 hg5 hat hlt2
                      go_wp2
                      go_roundw
                      case rel => exact ⟨k + 4, bs ++ [v], by go_num, by omega, HB2, HI2, B5⟩
                      case measure => simp [intOf]; omega
                  · have c5' : ¬ (dg16 b : Int) < 16 := by omega
                    obtain ⟨rfl, rfl⟩ := none_R fun t ht => by
                      obtain ⟨_, d, t', _, e⟩ := HN3 t ht
                      rw [HD2.out] at e
                      have := (List.cons.inj (List.cons.inj e).2).1
                      rw [this, dg16_lo] at c5
                      exact c5 (UInt8.lt_iff_toNat_lt.mp (and_lt d))
                    clear HN3 none_R
                    go_wp2_with fail
                    refine (DG _ _).mono ?_
                    rintro x wx ⟨rfl, hwx⟩
                    subst hwx
                    go_wp2_with fail
                    refine (DG _ _).mono ?_
                    rintro x wx ⟨rfl, hwx⟩
                    subst hwx
                    go_wp2
                    go_ret2
                    exact ⟨rfl, R3.out.bel⟩
                · have c4' : ¬ (dg16 a : Int) < 16 := by omega
                  obtain ⟨rfl, rfl⟩ := none_R fun t ht => by
                    obtain ⟨_, d, t', _, e⟩ := HN3 t ht
                    rw [HD2.out] at e
                    have := (List.cons.inj e).1
                    rw [this, dg16_hi] at c4
                    exact c4 (UInt8.lt_iff_toNat_lt.mp (shr_lt d))
                  clear HN3 none_R
                  go_wp2_with fail
                  refine (DG _ _).mono ?_
                  rintro x wx ⟨rfl, hwx⟩
                  subst hwx
                  go_wp2
                  go_ret2
                  exact ⟨rfl, R3.out.bel⟩
              · have n120 : ((d.toNat : Int) == 120) = false := by
                  refine beq_eq_false_iff_ne.mpr fun q => c3 (UInt8.toNat_inj.mp (by show d.toNat = 120; omega))
                obtain ⟨rfl, rfl⟩ := none_R fun t ht => c3 (HN3 t ht).1
                clear HN3 none_R c2 c3 hd DG
                go_wp2
                go_ret2
                exact ⟨rfl, R3.out.bel⟩
            · have m3 : ¬ (k : Int) + 3 < (S.size : Int) := by omega
              obtain ⟨rfl, rfl⟩ := none_R fun t ht => by
                obtain ⟨_, d', t', _, e⟩ := HN3 t ht
                have := congrArg List.length e
                simp at this
                omega
              clear HN3 none_R c2 hd DG
              go_wp2
              go_ret2
              exact ⟨rfl, R3.out.bel⟩
        · have j2 : ¬ (k : Int) + 1 < (S.size : Int) := by omega
          have m3 : ¬ (k : Int) + 3 < (S.size : Int) := by omega
          obtain ⟨rfl, rfl⟩ := none_R fun t ht => by
            obtain ⟨t', _, e2⟩ := HI.out t ht
            rw [HD0.out, List.drop_eq_nil_of_le (by simp; omega)] at e2
            exact inv4 e2
          clear none_R DG
          go_wp2
          go_ret2
          exact ⟨rfl, R3.out.bel⟩
      · have n92 : ((c.toNat : Int) != 92) = true := ne_of_toNat (d := 92) c1
        have HI2 : Hid (∀ t, inn q = qIn t → ∃ t', t = (bs ++ [c]) ++ t' ∧ (S.data.toList.drop (k + 1)) = qIn t') := fun t ht => by
          obtain ⟨t', e1, e2⟩ := HI.out t ht
          rw [HD0.out] at e2
          obtain ⟨t'', rfl, e3⟩ := inv1 e2 c1
          exact ⟨t'', by rw [e1]; simp, e3⟩
        have HB2 : Hid ((bs ++ [c]).length ≤ k + 1) := by have := HB.out; show (bs ++ [c]).length ≤ k + 1; simp; omega
        clear hc c1 DG
        go_wp2_with (first | (at_builtin; refine wpList_append_own _ rfl _ _ 60 rfl w.heap.size 5 i0 (.int .u8 0) 1 1 und_bs hi hz0 hz1 hz2 rfl (by decide) _ _ _ rfl (R3.out.own.alloc _) ⟨wr.heap.size, 0, none⟩ 1 1 [.int .u8 (c.toNat : Int)] rfl rfl (World.news_of_block (cs := #[.int .u8 (c.toNat : Int)]) (t := 5) (fr := (0, 0)) (heap_alloc_new _ _)) (by simp [Value.oneCell']) (by have := HB.out; have := HS.out; unfold maxLen; omega) (by have := HB.out; have := HS.out; omega) (by have := HZ.out; simp; omega) ?_) | go_in)
        intro v5 w5 ho5 hg5 _
        have B5 : Hid (RB w w5 v5 (bs ++ [c])) := R3.out.app (m := [c]) ho5 hg5
        clear ho5 hg5
        go_wp2
        go_roundw
        case rel => exact ⟨k + 1, bs ++ [c], by go_num, by omega, HB2, HI2, B5⟩
        case measure => simp [intOf]; omega
    · obtain rfl : k = S.size := by omega
      have hend : ∀ t, inn q = qIn t → t = bs := fun t ht => by
        obtain ⟨t', e1, e2⟩ := HI.out t ht
        rw [List.drop_eq_nil_of_le (by simp)] at e2
        cases t' with
        | nil => simpa using e1
        | cons a b =>
          rw [qIn_cons] at e2
          have := congrArg List.length e2
          have := esc_pos a
          simp at *
          omega
      have cv := R3.out.text
      have RQ : ∀ W, Calls Tryd.prog 11 #[.string ⟨bs.toArray⟩] W fun e w' => e = .returned (.string ⟨(qL bs).toArray⟩) ∧ Below W.heap.size W w' := fun W => rquote_any ⟨bs.toArray⟩ (by have := HB.out; have := HS.out; show bs.toArray.size ≤ _; simp; omega) W
      have hb6 := R3.out.bel
      by_cases e : q.data.toList = qL bs
      · have hq : (⟨(qL bs).toArray⟩ : ByteArray) = q := ByteArray.ext (by show (qL bs).toArray = q.data; rw [← e])
        have hT : T = ⟨bs.toArray⟩ ∧ nn = 0 := by
          rcases HR.out with ⟨a, b⟩ | ⟨a, _⟩
          · exact ⟨ByteArray.ext (by show T.data = bs.toArray; rw [← hend _ a]), b⟩
          · exact absurd (inn_of e) (a bs)
        obtain ⟨hT1, rfl⟩ := hT
        have eq1 := str_same2 q
        have RT := fun W (h : Below wr.heap.size wr W) => (R3.out.step h).text
        rw [hq] at RQ
        rw [← hT1] at RQ RT cv
        clear hend e hq R3 HI HB HR hT1 DG
        go_wp2_with fail
        refine (RQ _).mono ?_
        rintro x w6 ⟨rfl, b6⟩
        have cv6 := RT w6 b6
        have B6 : Hid (Below w.heap.size w w6) := hb6.trans (b6.mono hb6.size)
        go_wp2
        go_ret2
        exact ⟨rfl, B6.out⟩
      · have hq : (⟨(qL bs).toArray⟩ : ByteArray) ≠ q := fun h => e (by rw [← h])
        have hT : T = ⟨#[]⟩ ∧ nn = 3 := by
          rcases HR.out with ⟨a, b⟩ | ⟨_, b⟩
          · exact absurd (by rw [← hend _ a]; exact of_inn HD.out a) e
          · exact b
        obtain ⟨rfl, rfl⟩ := hT
        have eq1 := str_ne2 hq
        generalize (⟨bs.toArray⟩ : ByteArray) = X at *
        generalize (⟨(qL bs).toArray⟩ : ByteArray) = Y at *
        clear hend e hq HI HB HR DG
        go_wp2_with fail
        refine (RQ _).mono ?_
        rintro x w6 ⟨rfl, b6⟩
        have B6 : Hid (Below w.heap.size w w6) := hb6.trans (b6.mono hb6.size)
        go_wp2
        go_ret2
        exact ⟨rfl, B6.out⟩
end Go.Proofs.YtelobjhmbabiaaaDoor
