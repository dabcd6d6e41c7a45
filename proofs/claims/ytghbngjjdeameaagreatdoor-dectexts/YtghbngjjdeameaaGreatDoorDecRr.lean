/-
  What a call of the document's Read of decimal numbers answers, for every text: the number that is told so, or ErrSyntax.
-/
import Derived.Test.YtghbngjjdeameaaGreatDoorDecNb
import Derived.Test.YtghbngjjdeameaaGreatDoorDecDr
import Derived.Lib.IndexBytes
namespace Go.Proofs.YtghbngjjdeameaaGreatDoor
open Go.RowKit

theorem rdtext_vd {s : ByteArray} {p : Int} {c : Bool} (h : VD s p c) (w : World) :
    Calls Tryz.prog 7 #[dcV s p c] w fun x w' => x = .returned (.string (TXB s p c)) ∧ Below w.heap.size w w' := by
  unfold TXB
  rcases h with ⟨z, rfl, rfl⟩ | g
  · obtain rfl := size_zero z
    rw [if_pos z]
    exact rdtext_zero w
  · have := g.pos
    rw [if_neg (by omega)]
    have h0 := g.lo
    have h1 := g.hi
    exact rdtext_of g (itB_size (by omega) (by omega)) w (fun W b => rdigits_any h0 h1 W)

theorem ext_list (s : ByteArray) (a b : Nat) : (s.extract a b).data.toList = (s.data.toList.drop a).take (b - a) := by
  simp [List.extract_eq_take_drop]
/-- A text without the mark: its places. -/
structure Lay (t d : ByteArray) (p : Int) : Prop where
  sz : t.size = 3 + d.size + (itB p).size
  dig : ∀ k (h : k < t.size), 2 ≤ k → k < 2 + d.size → (t[k]'h).toNat ≠ 101
  e : ∀ (h : 2 + d.size < t.size), (t[2 + d.size]'h).toNat = 101
  pre : ((t.extract 0 2).toList == [48, 46]) = true
  mid : t.extract 2 (2 + d.size) = d
  post : t.extract (2 + d.size + 1) t.size = itB p
theorem lay_of {t d : ByteArray} {p : Int} (hd : DG d) (e : t.data.toList = 48 :: 46 :: (d.data.toList ++ 101 :: Lib.itoa p)) : Lay t d p := by
  have sl : ∀ a : ByteArray, a.data.toList.length = a.size := fun a => by rw [Array.length_toList]; rfl
  have hl := congrArg List.length e
  rw [sl] at hl
  simp only [List.length_cons, List.length_append, sl] at hl
  have hi : (itB p).size = (Lib.itoa p).length := by show (Lib.itoa p).toArray.size = _; rw [List.size_toArray]
  have hb := dg_list hd
  refine ⟨by omega, ?_, ?_, ?_, ?_, ?_⟩
  · intro k h h2 hk
    have q := Lib.data_getElem? t k h
    obtain ⟨j, rfl⟩ : ∃ j, k = j + 1 + 1 := ⟨k - 2, by omega⟩
    rw [e, List.getElem?_cons_succ, List.getElem?_cons_succ, List.getElem?_append_left (by rw [sl]; omega)] at q
    have m := List.mem_of_getElem? q
    have := hb _ m
    omega
  · intro h
    have h' : d.size + 1 + 1 < t.size := by omega
    have q := Lib.data_getElem? t (d.size + 1 + 1) h'
    rw [e, List.getElem?_cons_succ, List.getElem?_cons_succ, List.getElem?_append_right (by rw [sl]; omega), sl, Nat.sub_self] at q
    have q' : (101 : UInt8) = t[d.size + 1 + 1] := Option.some.inj q
    have ee : ∀ n (hn : n < t.size), n = d.size + 1 + 1 → t[n] = t[d.size + 1 + 1] := fun n hn z => by subst z; rfl
    rw [ee _ h (by omega), ← q']
    rfl
  · rw [list_data]
    have : (t.extract 0 2).data.toList = [48, 46] := by
      rw [ext_list, e]
      rfl
    rw [this]
    rfl
  · refine ba_list ?_
    rw [ext_list, e]
    simp [sl]
  · refine ba_list ?_
    rw [Lib.extract_to_end, e, show 2 + d.size + 1 = d.size + 1 + 1 + 1 by omega]
    show List.drop (d.size + 1) (d.data.toList ++ 101 :: Lib.itoa p) = Lib.itoa p
    rw [← sl d, List.drop_append]
    simp

set_option maxRecDepth 100000 in
set_option maxHeartbeats 1000000 in
theorem rread_zero {s : ByteArray} (h0 : (s.toList == [48]) = true) (w : World) :
    Calls Tryz.prog 5 #[.string s] w fun e w' => e = .returned (.tuple #[dcV ⟨#[]⟩ 0 false, .int .i64 0]) ∧ Below w.heap.size w w' := by
  unfold dcV
  go_enter Tryz.func5, Tryz.ntmps5
  go_wp2
  refine bodyPost_ret (v := .tuple #[.agg #[.string ⟨#[]⟩, .int .i64 0, .bool false], .int .i64 0]) (by simp [results, Tryz.results5, go_sem]) rfl ⟨rfl, ?_⟩
  exact (Below.refl w.heap.size w).alloc (Nat.le_refl _) _

/-- The call's two boxes: what is answered, and what is read. -/
structure RBox (w W : World) (s : ByteArray) (p : Int) (c : Bool) : Prop where
  sz : w.heap.size + 2 ≤ W.heap.size
  bel : Below w.heap.size w W
  r0 : W.cell? ⟨w.heap.size, 0, none⟩ = some (.string ⟨#[]⟩)
  r1 : W.cell? ⟨w.heap.size, 1, none⟩ = some (.int .i64 0)
  r2 : W.cell? ⟨w.heap.size, 2, none⟩ = some (.bool false)
  d0 : W.cell? ⟨w.heap.size + 1, 0, none⟩ = some (.string s)
  d1 : W.cell? ⟨w.heap.size + 1, 1, none⟩ = some (.int .i64 p)
  d2 : W.cell? ⟨w.heap.size + 1, 2, none⟩ = some (.bool c)
  fr : ∀ o, W.frozen? ⟨w.heap.size, o, none⟩ = false
  fd : ∀ o, W.frozen? ⟨w.heap.size + 1, o, none⟩ = false
theorem RBox.step {w W W' : World} {s : ByteArray} {p : Int} {c : Bool} (h : RBox w W s p c) (hb : Below W.heap.size W W') : RBox w W' s p c := by
  have z := h.sz
  have k : ∀ o, W'.cell? ⟨w.heap.size, o, none⟩ = W.cell? ⟨w.heap.size, o, none⟩ := fun o => hb.cell (p := ⟨w.heap.size, o, none⟩) (by show w.heap.size < W.heap.size; omega)
  have k' : ∀ o, W'.cell? ⟨w.heap.size + 1, o, none⟩ = W.cell? ⟨w.heap.size + 1, o, none⟩ := fun o => hb.cell (p := ⟨w.heap.size + 1, o, none⟩) (by show w.heap.size + 1 < W.heap.size; omega)
  exact ⟨Nat.le_trans z hb.size, h.bel.trans (hb.mono (by omega)), (k 0).trans h.r0, (k 1).trans h.r1, (k 2).trans h.r2, (k' 0).trans h.d0, (k' 1).trans h.d1, (k' 2).trans h.d2,
    fun o => (hb.frozen (p := ⟨w.heap.size, o, none⟩) (by show w.heap.size < W.heap.size; omega)).trans (h.fr o), fun o => (hb.frozen (p := ⟨w.heap.size + 1, o, none⟩) (by show w.heap.size + 1 < W.heap.size; omega)).trans (h.fd o)⟩
theorem RBox.start (w : World) (s : ByteArray) (p : Int) (c : Bool) : RBox w ((w.alloc (.cells #[.string ⟨#[]⟩, .int .i64 0, .bool false] 23)).alloc (.cells #[.string s, .int .i64 p, .bool c] 23)) s p c :=
  ⟨by simp, ((Below.refl _ _).alloc (Nat.le_refl _) _).alloc (by simp) _, by simp, by simp, by simp, by simp, by simp, by simp, fun o => by simp, fun o => World.frozen?_alloc_at _ _ _ _ (by simp)⟩
theorem RBox.digs {w W : World} {s : ByteArray} {p : Int} {c : Bool} (h : RBox w W s p c) (s2 : ByteArray) : RBox w (W.setCell ⟨w.heap.size + 1, 0, none⟩ (.string s2)) s2 p c :=
  ⟨by rw [World.size_setCell]; exact h.sz, h.bel.setCell (Nat.le_succ _) _, (World.cell?_setCell_other _ _ _ _ (by simp)).trans h.r0, (World.cell?_setCell_other _ _ _ _ (by simp)).trans h.r1, (World.cell?_setCell_other _ _ _ _ (by simp)).trans h.r2,
    World.cell?_setCell_same _ _ _ h.d0, (World.cell?_setCell_other _ _ _ _ (by simp)).trans h.d1, (World.cell?_setCell_other _ _ _ _ (by simp)).trans h.d2, fun o => by rw [World.frozen?_setCell]; exact h.fr o, fun o => by rw [World.frozen?_setCell]; exact h.fd o⟩
theorem RBox.pt {w W : World} {s : ByteArray} {p : Int} {c : Bool} (h : RBox w W s p c) (q : Int) : RBox w (W.setCell ⟨w.heap.size + 1, 1, none⟩ (.int .i64 q)) s q c :=
  ⟨by rw [World.size_setCell]; exact h.sz, h.bel.setCell (Nat.le_succ _) _, (World.cell?_setCell_other _ _ _ _ (by simp)).trans h.r0, (World.cell?_setCell_other _ _ _ _ (by simp)).trans h.r1, (World.cell?_setCell_other _ _ _ _ (by simp)).trans h.r2,
    (World.cell?_setCell_other _ _ _ _ (by simp)).trans h.d0, World.cell?_setCell_same _ _ _ h.d1, (World.cell?_setCell_other _ _ _ _ (by simp)).trans h.d2, fun o => by rw [World.frozen?_setCell]; exact h.fr o, fun o => by rw [World.frozen?_setCell]; exact h.fd o⟩
theorem RBox.cut {w W : World} {s : ByteArray} {p : Int} {c : Bool} (h : RBox w W s p c) (b : Bool) : RBox w (W.setCell ⟨w.heap.size + 1, 2, none⟩ (.bool b)) s p b :=
  ⟨by rw [World.size_setCell]; exact h.sz, h.bel.setCell (Nat.le_succ _) _, (World.cell?_setCell_other _ _ _ _ (by simp)).trans h.r0, (World.cell?_setCell_other _ _ _ _ (by simp)).trans h.r1, (World.cell?_setCell_other _ _ _ _ (by simp)).trans h.r2,
    (World.cell?_setCell_other _ _ _ _ (by simp)).trans h.d0, (World.cell?_setCell_other _ _ _ _ (by simp)).trans h.d1, World.cell?_setCell_same _ _ _ h.d2, fun o => by rw [World.frozen?_setCell]; exact h.fr o, fun o => by rw [World.frozen?_setCell]; exact h.fd o⟩

set_option maxRecDepth 100000 in
set_option maxHeartbeats 1000000 in
theorem rread_noA {s t : ByteArray} (h0 : (s.toList == [48]) = false) (hs : s.size ≤ 140737488355328) (hz : s.size = 0) (ht : s = t)  (w : World) :
    Calls Tryz.prog 5 #[.string s] w fun e w' => e = .returned (.tuple #[dcV ⟨#[]⟩ 0 false, .int .i64 3]) ∧ Below w.heap.size w w' := by
  have hz' : ¬ (0 : Int) < (s.size : Int) := by omega
  have HS : Hid (s = t) := ht
  clear hz
  have tz : t.size ≤ 140737488355328 := by rw [← ht]; omega
  clear ht
  unfold dcV at *
  go_enter Tryz.func5, Tryz.ntmps5
  go_wp2
  have HB : Hid (RBox w ((w.alloc (.cells #[.string ⟨#[]⟩, .int .i64 0, .bool false] 23)).alloc (.cells #[.string ⟨#[]⟩, .int .i64 0, .bool false] 23)) ⟨#[]⟩ 0 false) := RBox.start w ⟨#[]⟩ 0 false
  generalize ((w.alloc (.cells #[.string ⟨#[]⟩, .int .i64 0, .bool false] 23)).alloc (.cells #[.string ⟨#[]⟩, .int .i64 0, .bool false] 23)) = W at HB ⊢
  obtain rfl := HS.out
  obtain ⟨_, _, r0, r1, r2, d0, d1, d2, fr, fd⟩ := HB.out
  go_loop [6] (fun i => ∃ k : Nat, 2 ≤ k ∧ (k ≤ s.size ∨ k = 2) ∧ i = .int .i64 k) (fun i => s.size - (intOf i).toNat)
  case atStart => exact ⟨2, Nat.le_refl _, Or.inr rfl, rfl⟩
  case round =>
    obtain ⟨k, k2, hk, rfl⟩ := hrel
    by_cases hlt : k < s.size
    · exfalso; omega
    · go_wp2
      refine bodyPost_ret (v := .tuple #[.agg #[.string ⟨#[]⟩, .int .i64 0, .bool false], .int .i64 3]) (by simp [results, Tryz.results5, go_sem, *]) rfl ⟨rfl, ?_⟩
      exact (((HB.out.bel.setCell (Nat.le_refl _) _).setCell (Nat.le_refl _) _).setCell (Nat.le_refl _) _)

set_option maxRecDepth 100000 in
set_option maxHeartbeats 1000000 in
theorem rread_noB {s t : ByteArray} (h0 : (s.toList == [48]) = false) (hs : s.size ≤ 140737488355328) (hz : 0 < s.size) (hl : (s[s.size - 1]'(by omega)).toNat ≠ 43) (ht : s = t) 
    (X : ∀ (k : Nat) (n : Int), ∃ T : ByteArray, (T.toList == s.toList) = false ∧ ∀ W, Calls Tryz.prog 7 #[dcV (t.extract 2 k) n false] W fun x w' => x = .returned (.string T) ∧ Below W.heap.size W w') (w : World) :
    Calls Tryz.prog 5 #[.string s] w fun e w' => e = .returned (.tuple #[dcV ⟨#[]⟩ 0 false, .int .i64 3]) ∧ Below w.heap.size w w' := by
  have hl1 : s.size - 1 < s.size := by omega
  have hl' : (((s[s.size - 1]'hl1).toNat : Int) == 43) = false := beq_eq_false_iff_ne.mpr (by omega)
  have ix : ((s.size : Int) - 1).toNat = s.size - 1 := by omega
  have HS : Hid (s = t) := ht
  clear hl
  have tz : t.size ≤ 140737488355328 := by rw [← ht]; omega
  clear ht
  have HX := (show Hid _ from X)
  clear X
  unfold dcV at *
  go_enter Tryz.func5, Tryz.ntmps5
  go_wp2
  have HB : Hid (RBox w ((w.alloc (.cells #[.string ⟨#[]⟩, .int .i64 0, .bool false] 23)).alloc (.cells #[.string ⟨#[]⟩, .int .i64 0, .bool false] 23)) ⟨#[]⟩ 0 false) := RBox.start w ⟨#[]⟩ 0 false
  generalize ((w.alloc (.cells #[.string ⟨#[]⟩, .int .i64 0, .bool false] 23)).alloc (.cells #[.string ⟨#[]⟩, .int .i64 0, .bool false] 23)) = W at HB ⊢
  obtain rfl := HS.out
  obtain ⟨_, _, r0, r1, r2, d0, d1, d2, fr, fd⟩ := HB.out
  go_loop [6] (fun i => ∃ k : Nat, 2 ≤ k ∧ (k ≤ s.size ∨ k = 2) ∧ i = .int .i64 k) (fun i => s.size - (intOf i).toNat)
  case atStart => exact ⟨2, Nat.le_refl _, Or.inr rfl, rfl⟩
  case round =>
    obtain ⟨k, k2, hk, rfl⟩ := hrel
    by_cases hlt : k < s.size
    · skip
      by_cases c0 : (s[k]'hlt).toNat = 101
      · have c1 : (((s[k]'hlt).toNat : Int) == 101) = true := beq_iff_eq.mpr (by omega)
        clear c0
        cases q : ((s.extract 0 2).toList == [48, 46])
        · go_wp2
          go_round
          case rel => exact ⟨k + 1, by omega, by omega, by go_num⟩
          case measure => simp [intOf]; omega
        · go_wp2_with fail
          refine (number_some _ (by rw [ByteArray.size_extract]; omega) _).mono ?_
          rintro e w1 ⟨n, b, rfl, hb⟩
          have HB1 : Hid (RBox w w1 ⟨#[]⟩ 0 false) := HB.out.step hb
          clear hb r0 r1 r2 d0 d1 d2 fr fd
          obtain ⟨_, _, r0, r1, r2, d0, d1, d2, fr, fd⟩ := HB1.out
          obtain ⟨T, hT, X⟩ := HX.out k n
          cases b
          · go_wp2
            refine bodyPost_ret (v := .tuple #[.agg #[.string ⟨#[]⟩, .int .i64 0, .bool false], .int .i64 3]) (by simp [results, Tryz.results5, go_sem, *]) rfl ⟨rfl, ?_⟩
            exact (((((HB1.out.digs (s.extract 2 k)).pt n).bel.setCell (Nat.le_refl _) _).setCell (Nat.le_refl _) _).setCell (Nat.le_refl _) _)
          · go_wp2_with fail
            have HB2 : Hid (RBox w ((w1.setCell ⟨w.heap.size + 1, 0, none⟩ (.string (s.extract 2 k))).setCell ⟨w.heap.size + 1, 1, none⟩ (.int .i64 n)) (s.extract 2 k) n false) := (HB1.out.digs _).pt n
            refine (X _).mono ?_
            rintro e w2 ⟨rfl, hb⟩
            have HB3 : Hid (RBox w w2 (s.extract 2 k) n false) := HB2.out.step hb
            clear hb r0 r1 r2 d0 d1 d2 fr fd
            obtain ⟨_, _, r0, r1, r2, d0, d1, d2, fr, fd⟩ := HB3.out
            go_wp2
            refine bodyPost_ret (v := .tuple #[.agg #[.string ⟨#[]⟩, .int .i64 0, .bool false], .int .i64 3]) (by simp [results, Tryz.results5, go_sem, *]) rfl ⟨rfl, ?_⟩
            exact (((HB3.out.bel.setCell (Nat.le_refl _) _).setCell (Nat.le_refl _) _).setCell (Nat.le_refl _) _)
      · have c1 : (((s[k]'hlt).toNat : Int) == 101) = false := beq_eq_false_iff_ne.mpr (by omega)
        clear c0
        go_wp2
        go_round
        case rel => exact ⟨k + 1, by omega, by omega, by go_num⟩
        case measure => simp [intOf]; omega
    · go_wp2
      refine bodyPost_ret (v := .tuple #[.agg #[.string ⟨#[]⟩, .int .i64 0, .bool false], .int .i64 3]) (by simp [results, Tryz.results5, go_sem, *]) rfl ⟨rfl, ?_⟩
      exact (((HB.out.bel.setCell (Nat.le_refl _) _).setCell (Nat.le_refl _) _).setCell (Nat.le_refl _) _)

set_option maxRecDepth 100000 in
set_option maxHeartbeats 1000000 in
theorem rread_noC {s t : ByteArray} (h0 : (s.toList == [48]) = false) (hs : s.size ≤ 140737488355328) (hz : 0 < s.size) (hl : (s[s.size - 1]'(by omega)).toNat = 43) (ht : s.extract 0 (s.size - 1) = t) 
    (X : ∀ (k : Nat) (n : Int), ∃ T : ByteArray, (T.toList == s.toList) = false ∧ ∀ W, Calls Tryz.prog 7 #[dcV (t.extract 2 k) n true] W fun x w' => x = .returned (.string T) ∧ Below W.heap.size W w') (w : World) :
    Calls Tryz.prog 5 #[.string s] w fun e w' => e = .returned (.tuple #[dcV ⟨#[]⟩ 0 false, .int .i64 3]) ∧ Below w.heap.size w w' := by
  have hl1 : s.size - 1 < s.size := by omega
  have hl' : (((s[s.size - 1]'hl1).toNat : Int) == 43) = true := beq_iff_eq.mpr (by omega)
  have ix : ((s.size : Int) - 1).toNat = s.size - 1 := by omega
  have HS : Hid (s.extract 0 (s.size - 1) = t) := ht
  clear hl
  have tz : t.size ≤ 140737488355328 := by rw [← ht]; rw [ByteArray.size_extract]; omega
  clear ht
  have HX := (show Hid _ from X)
  clear X
  unfold dcV at *
  go_enter Tryz.func5, Tryz.ntmps5
  go_wp2
  have HB : Hid (RBox w ((w.alloc (.cells #[.string ⟨#[]⟩, .int .i64 0, .bool false] 23)).alloc (.cells #[.string ⟨#[]⟩, .int .i64 0, .bool true] 23)) ⟨#[]⟩ 0 true) := RBox.start w ⟨#[]⟩ 0 true
  generalize ((w.alloc (.cells #[.string ⟨#[]⟩, .int .i64 0, .bool false] 23)).alloc (.cells #[.string ⟨#[]⟩, .int .i64 0, .bool true] 23)) = W at HB ⊢
  rw [HS.out]
  obtain ⟨_, _, r0, r1, r2, d0, d1, d2, fr, fd⟩ := HB.out
  go_loop [6] (fun i => ∃ k : Nat, 2 ≤ k ∧ (k ≤ t.size ∨ k = 2) ∧ i = .int .i64 k) (fun i => t.size - (intOf i).toNat)
  case atStart => exact ⟨2, Nat.le_refl _, Or.inr rfl, rfl⟩
  case round =>
    obtain ⟨k, k2, hk, rfl⟩ := hrel
    by_cases hlt : k < t.size
    · skip
      by_cases c0 : (t[k]'hlt).toNat = 101
      · have c1 : (((t[k]'hlt).toNat : Int) == 101) = true := beq_iff_eq.mpr (by omega)
        clear c0
        cases q : ((t.extract 0 2).toList == [48, 46])
        · go_wp2
          go_round
          case rel => exact ⟨k + 1, by omega, by omega, by go_num⟩
          case measure => simp [intOf]; omega
        · go_wp2_with fail
          refine (number_some _ (by rw [ByteArray.size_extract]; omega) _).mono ?_
          rintro e w1 ⟨n, b, rfl, hb⟩
          have HB1 : Hid (RBox w w1 ⟨#[]⟩ 0 true) := HB.out.step hb
          clear hb r0 r1 r2 d0 d1 d2 fr fd
          obtain ⟨_, _, r0, r1, r2, d0, d1, d2, fr, fd⟩ := HB1.out
          obtain ⟨T, hT, X⟩ := HX.out k n
          cases b
          · go_wp2
            refine bodyPost_ret (v := .tuple #[.agg #[.string ⟨#[]⟩, .int .i64 0, .bool false], .int .i64 3]) (by simp [results, Tryz.results5, go_sem, *]) rfl ⟨rfl, ?_⟩
            exact (((((HB1.out.digs (t.extract 2 k)).pt n).bel.setCell (Nat.le_refl _) _).setCell (Nat.le_refl _) _).setCell (Nat.le_refl _) _)
          · go_wp2_with fail
            have HB2 : Hid (RBox w ((w1.setCell ⟨w.heap.size + 1, 0, none⟩ (.string (t.extract 2 k))).setCell ⟨w.heap.size + 1, 1, none⟩ (.int .i64 n)) (t.extract 2 k) n true) := (HB1.out.digs _).pt n
            refine (X _).mono ?_
            rintro e w2 ⟨rfl, hb⟩
            have HB3 : Hid (RBox w w2 (t.extract 2 k) n true) := HB2.out.step hb
            clear hb r0 r1 r2 d0 d1 d2 fr fd
            obtain ⟨_, _, r0, r1, r2, d0, d1, d2, fr, fd⟩ := HB3.out
            go_wp2
            refine bodyPost_ret (v := .tuple #[.agg #[.string ⟨#[]⟩, .int .i64 0, .bool false], .int .i64 3]) (by simp [results, Tryz.results5, go_sem, *]) rfl ⟨rfl, ?_⟩
            exact (((HB3.out.bel.setCell (Nat.le_refl _) _).setCell (Nat.le_refl _) _).setCell (Nat.le_refl _) _)
      · have c1 : (((t[k]'hlt).toNat : Int) == 101) = false := beq_eq_false_iff_ne.mpr (by omega)
        clear c0
        go_wp2
        go_round
        case rel => exact ⟨k + 1, by omega, by omega, by go_num⟩
        case measure => simp [intOf]; omega
    · go_wp2
      refine bodyPost_ret (v := .tuple #[.agg #[.string ⟨#[]⟩, .int .i64 0, .bool false], .int .i64 3]) (by simp [results, Tryz.results5, go_sem, *]) rfl ⟨rfl, ?_⟩
      exact (((HB.out.bel.setCell (Nat.le_refl _) _).setCell (Nat.le_refl _) _).setCell (Nat.le_refl _) _)

set_option maxRecDepth 100000 in
set_option maxHeartbeats 1000000 in
theorem rread_yesB {s t T : ByteArray} (h0 : (s.toList == [48]) = false) (hs : s.size ≤ 140737488355328) (hz : 0 < s.size) (hl : (s[s.size - 1]'(by omega)).toNat ≠ 43) (ht : s = t) {d : ByteArray} {p : Int} (L : Lay t d p) (hp0 : -1099511627776 ≤ p) (hp1 : p ≤ 1099511627776) (hd : d.size ≤ 800)
    (X : ∀ W, Calls Tryz.prog 7 #[dcV d p false] W fun x w' => x = .returned (.string T) ∧ Below W.heap.size W w') (hT : (T.toList == s.toList) = true) (w : World) :
    Calls Tryz.prog 5 #[.string s] w fun e w' => e = .returned (.tuple #[dcV d p false, .int .i64 0]) ∧ Below w.heap.size w w' := by
  have hl1 : s.size - 1 < s.size := by omega
  have hl' : (((s[s.size - 1]'hl1).toNat : Int) == 43) = false := beq_eq_false_iff_ne.mpr (by omega)
  have ix : ((s.size : Int) - 1).toNat = s.size - 1 := by omega
  have HS : Hid (s = t) := ht
  clear hl
  have tz : t.size ≤ 140737488355328 := by rw [← ht]; omega
  clear ht
  have lz : 3 + d.size ≤ t.size := by have := L.sz; omega
  have NB := fun W => number_int hp0 hp1 W
  rw [← L.post] at NB
  have HL : Hid (Lay t d p) := L
  have hpre := L.pre
  clear L hp0 hp1
  unfold dcV at *
  go_enter Tryz.func5, Tryz.ntmps5
  go_wp2
  have HB : Hid (RBox w ((w.alloc (.cells #[.string ⟨#[]⟩, .int .i64 0, .bool false] 23)).alloc (.cells #[.string ⟨#[]⟩, .int .i64 0, .bool false] 23)) ⟨#[]⟩ 0 false) := RBox.start w ⟨#[]⟩ 0 false
  generalize ((w.alloc (.cells #[.string ⟨#[]⟩, .int .i64 0, .bool false] 23)).alloc (.cells #[.string ⟨#[]⟩, .int .i64 0, .bool false] 23)) = W at HB ⊢
  obtain rfl := HS.out
  obtain ⟨_, _, r0, r1, r2, d0, d1, d2, fr, fd⟩ := HB.out
  go_loop [6] (fun i => ∃ k : Nat, 2 ≤ k ∧ k ≤ 2 + d.size ∧ i = .int .i64 k) (fun i => s.size - (intOf i).toNat)
  case atStart => exact ⟨2, Nat.le_refl _, by omega, rfl⟩
  case round =>
    obtain ⟨k, k2, hk, rfl⟩ := hrel
    by_cases c0 : k < 2 + d.size
    · have hlt : k < s.size := by omega
      have c1 : (((s[k]'hlt).toNat : Int) == 101) = false := beq_eq_false_iff_ne.mpr (by have := HL.out.dig k hlt k2 c0; omega)
      go_wp2
      go_round
      case rel => exact ⟨k + 1, by omega, by omega, by go_num⟩
      case measure => simp [intOf]; omega
    · skip
      have hlt : k < s.size := by omega
      have ek : k = 2 + d.size := by omega
      have ee : ∀ n (hn : n < s.size), n = 2 + d.size → (s[n]'hn).toNat = 101 := fun n hn z => by subst z; exact HL.out.e hn
      have c1 : (((s[k]'hlt).toNat : Int) == 101) = true := beq_iff_eq.mpr (by have := ee k hlt ek; omega)
      have HN : Hid (∀ W, Calls Tryz.prog 12 #[.string (s.extract (k + 1) s.size)] W fun e w' => e = .returned (.tuple #[.int .i64 p, .bool true]) ∧ Below W.heap.size W w') := by rw [ek]; exact NB
      have HM : Hid (s.extract 2 k = d) := by rw [ek]; exact HL.out.mid
      clear NB ee ek c0
      go_wp2_with fail
      refine (HN.out _).mono ?_
      rintro e w1 ⟨rfl, hb⟩
      have HB1 : Hid (RBox w w1 ⟨#[]⟩ 0 false) := HB.out.step hb
      clear hb r0 r1 r2 d0 d1 d2 fr fd
      obtain ⟨_, _, r0, r1, r2, d0, d1, d2, fr, fd⟩ := HB1.out
      go_wp2_with fail
      rw [HM.out]
      have HB2 : Hid (RBox w ((w1.setCell ⟨w.heap.size + 1, 0, none⟩ (.string d)).setCell ⟨w.heap.size + 1, 1, none⟩ (.int .i64 p)) d p false) := (HB1.out.digs d).pt p
      refine (X _).mono ?_
      rintro e w2 ⟨rfl, hb⟩
      have HB3 : Hid (RBox w w2 d p false) := HB2.out.step hb
      clear hb r0 r1 r2 d0 d1 d2 fr fd
      obtain ⟨_, _, r0, r1, r2, d0, d1, d2, fr, fd⟩ := HB3.out
      go_wp2
      refine bodyPost_ret (v := .tuple #[.agg #[.string d, .int .i64 p, .bool false], .int .i64 0]) (by simp [results, Tryz.results5, go_sem, *]) rfl ⟨rfl, ?_⟩
      exact (((HB3.out.bel.setCell (Nat.le_refl _) _).setCell (Nat.le_refl _) _).setCell (Nat.le_refl _) _)

set_option maxRecDepth 100000 in
set_option maxHeartbeats 1000000 in
theorem rread_yesC {s t T : ByteArray} (h0 : (s.toList == [48]) = false) (hs : s.size ≤ 140737488355328) (hz : 0 < s.size) (hl : (s[s.size - 1]'(by omega)).toNat = 43) (ht : s.extract 0 (s.size - 1) = t) {d : ByteArray} {p : Int} (L : Lay t d p) (hp0 : -1099511627776 ≤ p) (hp1 : p ≤ 1099511627776) (hd : d.size ≤ 800)
    (X : ∀ W, Calls Tryz.prog 7 #[dcV d p true] W fun x w' => x = .returned (.string T) ∧ Below W.heap.size W w') (hT : (T.toList == s.toList) = true) (w : World) :
    Calls Tryz.prog 5 #[.string s] w fun e w' => e = .returned (.tuple #[dcV d p true, .int .i64 0]) ∧ Below w.heap.size w w' := by
  have hl1 : s.size - 1 < s.size := by omega
  have hl' : (((s[s.size - 1]'hl1).toNat : Int) == 43) = true := beq_iff_eq.mpr (by omega)
  have ix : ((s.size : Int) - 1).toNat = s.size - 1 := by omega
  have HS : Hid (s.extract 0 (s.size - 1) = t) := ht
  clear hl
  have tz : t.size ≤ 140737488355328 := by rw [← ht]; rw [ByteArray.size_extract]; omega
  clear ht
  have lz : 3 + d.size ≤ t.size := by have := L.sz; omega
  have NB := fun W => number_int hp0 hp1 W
  rw [← L.post] at NB
  have HL : Hid (Lay t d p) := L
  have hpre := L.pre
  clear L hp0 hp1
  unfold dcV at *
  go_enter Tryz.func5, Tryz.ntmps5
  go_wp2
  have HB : Hid (RBox w ((w.alloc (.cells #[.string ⟨#[]⟩, .int .i64 0, .bool false] 23)).alloc (.cells #[.string ⟨#[]⟩, .int .i64 0, .bool true] 23)) ⟨#[]⟩ 0 true) := RBox.start w ⟨#[]⟩ 0 true
  generalize ((w.alloc (.cells #[.string ⟨#[]⟩, .int .i64 0, .bool false] 23)).alloc (.cells #[.string ⟨#[]⟩, .int .i64 0, .bool true] 23)) = W at HB ⊢
  rw [HS.out]
  obtain ⟨_, _, r0, r1, r2, d0, d1, d2, fr, fd⟩ := HB.out
  go_loop [6] (fun i => ∃ k : Nat, 2 ≤ k ∧ k ≤ 2 + d.size ∧ i = .int .i64 k) (fun i => t.size - (intOf i).toNat)
  case atStart => exact ⟨2, Nat.le_refl _, by omega, rfl⟩
  case round =>
    obtain ⟨k, k2, hk, rfl⟩ := hrel
    by_cases c0 : k < 2 + d.size
    · have hlt : k < t.size := by omega
      have c1 : (((t[k]'hlt).toNat : Int) == 101) = false := beq_eq_false_iff_ne.mpr (by have := HL.out.dig k hlt k2 c0; omega)
      go_wp2
      go_round
      case rel => exact ⟨k + 1, by omega, by omega, by go_num⟩
      case measure => simp [intOf]; omega
    · skip
      have hlt : k < t.size := by omega
      have ek : k = 2 + d.size := by omega
      have ee : ∀ n (hn : n < t.size), n = 2 + d.size → (t[n]'hn).toNat = 101 := fun n hn z => by subst z; exact HL.out.e hn
      have c1 : (((t[k]'hlt).toNat : Int) == 101) = true := beq_iff_eq.mpr (by have := ee k hlt ek; omega)
      have HN : Hid (∀ W, Calls Tryz.prog 12 #[.string (t.extract (k + 1) t.size)] W fun e w' => e = .returned (.tuple #[.int .i64 p, .bool true]) ∧ Below W.heap.size W w') := by rw [ek]; exact NB
      have HM : Hid (t.extract 2 k = d) := by rw [ek]; exact HL.out.mid
      clear NB ee ek c0
      go_wp2_with fail
      refine (HN.out _).mono ?_
      rintro e w1 ⟨rfl, hb⟩
      have HB1 : Hid (RBox w w1 ⟨#[]⟩ 0 true) := HB.out.step hb
      clear hb r0 r1 r2 d0 d1 d2 fr fd
      obtain ⟨_, _, r0, r1, r2, d0, d1, d2, fr, fd⟩ := HB1.out
      go_wp2_with fail
      rw [HM.out]
      have HB2 : Hid (RBox w ((w1.setCell ⟨w.heap.size + 1, 0, none⟩ (.string d)).setCell ⟨w.heap.size + 1, 1, none⟩ (.int .i64 p)) d p true) := (HB1.out.digs d).pt p
      refine (X _).mono ?_
      rintro e w2 ⟨rfl, hb⟩
      have HB3 : Hid (RBox w w2 d p true) := HB2.out.step hb
      clear hb r0 r1 r2 d0 d1 d2 fr fd
      obtain ⟨_, _, r0, r1, r2, d0, d1, d2, fr, fd⟩ := HB3.out
      go_wp2
      refine bodyPost_ret (v := .tuple #[.agg #[.string d, .int .i64 p, .bool true], .int .i64 0]) (by simp [results, Tryz.results5, go_sem, *]) rfl ⟨rfl, ?_⟩
      exact (((HB3.out.bel.setCell (Nat.le_refl _) _).setCell (Nat.le_refl _) _).setCell (Nat.le_refl _) _)

theorem last_of {s : ByteArray} {l : List UInt8} {b : UInt8} (e : s.data.toList = l ++ [b]) : s.size = l.length + 1 ∧ ∀ (h : s.size - 1 < s.size), (s[s.size - 1]'h).toNat = b.toNat := by
  have sl : s.data.toList.length = s.size := by rw [Array.length_toList]; rfl
  have hl := congrArg List.length e
  rw [sl, List.length_append] at hl
  have hl' : s.size = l.length + 1 := hl
  refine ⟨hl', fun h => ?_⟩
  have q := Lib.data_getElem? s (s.size - 1) h
  rw [e, List.getElem?_append_right (by omega), show s.size - 1 - l.length = 0 by omega] at q
  have q' : b = s[s.size - 1] := Option.some.inj q
  rw [← q']

/-- What is no number's text is not read. -/
theorem rdread_no {s : ByteArray} (hs : s.size ≤ 140737488355328) (h : ∀ d p c, VD d p c → s.data.toList ≠ TXL d p c) (w : World) :
    Calls Tryz.prog 5 #[.string s] w fun e w' => e = .returned (.tuple #[dcV ⟨#[]⟩ 0 false, .int .i64 3]) ∧ Below w.heap.size w w' := by
  have h0 : (s.toList == [48]) = false := by
    rw [list_data]
    exact beq_eq_false_iff_ne.mpr (h ⟨#[]⟩ 0 false (Or.inl ⟨rfl, rfl, rfl⟩))
  by_cases hz : s.size = 0
  · exact rread_noA h0 hs hz rfl w
  · have hz' : 0 < s.size := by omega
    have X : ∀ (t : ByteArray) (c : Bool), t.size ≤ s.size → ∀ (k : Nat) (n : Int), ∃ T : ByteArray, (T.toList == s.toList) = false ∧ ∀ W, Calls Tryz.prog 7 #[dcV (t.extract 2 k) n c] W fun x w' => x = .returned (.string T) ∧ Below W.heap.size W w' := by
      intro t c ht k n
      by_cases v : VD (t.extract 2 k) n c
      · exact ⟨TXB (t.extract 2 k) n c, list_ne (fun q => h _ _ _ v (by rw [← q, TXB_list])), fun W => rdtext_vd v W⟩
      · refine ⟨⟨#[]⟩, list_ne (fun q => ?_), fun W => rdtext_no (by rw [ByteArray.size_extract]; omega) v W⟩
        have e : s.data.toList = [] := q.symm
        have sl : s.data.toList.length = s.size := by rw [Array.length_toList]; rfl
        rw [e] at sl
        exact absurd sl.symm hz
    by_cases hl : (s[s.size - 1]'(by omega)).toNat = 43
    · exact rread_noC h0 hs hz' hl rfl (X _ true (by rw [ByteArray.size_extract]; omega)) w
    · exact rread_noB h0 hs hz' hl rfl (X s false (Nat.le_refl _)) w

/-- A number's text is read as the number. -/
theorem rdread_yes {s d : ByteArray} {p : Int} {c : Bool} (hs : s.size ≤ 140737488355328) (h : VD d p c) (e : s.data.toList = TXL d p c) (w : World) :
    Calls Tryz.prog 5 #[.string s] w fun e w' => e = .returned (.tuple #[dcV d p c, .int .i64 0]) ∧ Below w.heap.size w w' := by
  rcases h with ⟨z, rfl, rfl⟩ | g
  · obtain rfl := size_zero z
    refine rread_zero ?_ w
    rw [list_data, e]
    rfl
  · have hp := g.pos
    have e' : s.data.toList = txL d.data.toList p c := by rw [e, TXL, if_neg (by omega)]
    have h0 : (s.toList == [48]) = false := by
      rw [list_data, e']
      exact beq_eq_false_iff_ne.mpr (txL_ne _ _ _)
    have hT : ((TXB d p c).toList == s.toList) = true := list_eq (by rw [TXB_list, e])
    have X := fun W => rdtext_vd (Or.inr g : VD d p c) W
    cases c
    · obtain ⟨l, b, ei⟩ : ∃ l b, Lib.itoa p = l ++ [b] := ⟨(Lib.itoa p).dropLast, (Lib.itoa p).getLast (itoa_ne p), (List.dropLast_concat_getLast _).symm⟩
      have hb := itoa_bytes p b (by rw [ei]; simp)
      have e1 : s.data.toList = (48 :: 46 :: (d.data.toList ++ 101 :: l)) ++ [b] := by rw [e', txL, ei]; simp
      obtain ⟨hz, hl⟩ := last_of e1
      have e2 : s.data.toList = 48 :: 46 :: (d.data.toList ++ 101 :: Lib.itoa p) := by rw [e', txL]; simp
      exact rread_yesB h0 hs (by omega) (by have := hl (by omega); omega) rfl (lay_of g.dg e2) g.lo g.hi g.len X hT w
    · have e1 : s.data.toList = (48 :: 46 :: (d.data.toList ++ 101 :: Lib.itoa p)) ++ [43] := by rw [e', txL]; simp
      obtain ⟨hz, hl⟩ := last_of e1
      have e2 : (s.extract 0 (s.size - 1)).data.toList = 48 :: 46 :: (d.data.toList ++ 101 :: Lib.itoa p) := by
        rw [ext_list, e1, List.drop_zero, hz, List.take_append_of_le_length (by omega), List.take_of_length_le (by omega)]
      exact rread_yesC h0 hs (by omega) (by have := hl (by omega); exact this) rfl (lay_of g.dg e2) g.lo g.hi g.len X hT w

end Go.Proofs.YtghbngjjdeameaaGreatDoor
