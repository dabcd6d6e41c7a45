/-
  Holds: VDecU VDecN VDecR VDecP VDecHv IvM VDecD VDecF VDecY VDecZ VDecG VDecJ.
-/
import Derived.Test.YtjagnfddmlkalaaGreatDoorRows
import Derived.Laws.Externs
import Derived.WalkKit
import Derived.WalkSpells
import Derived.WalkLawsBesides
import Derived.Lib.Mul64
import Derived.Stop.Asserts
import Derived.RowKitTokens
import Derived.Lib.Strings
import Derived.Lib.BufferWrite
import Derived.Deep.OwnRows
import Derived.Deep.RegionHeld3
import Derived.BigQuiet
import Derived.Lib.ConvBytes
import Derived.Laws.CopyOwn
import Derived.Lib.TrailingZeros
import Derived.Lib.ItoaNum
import Derived.Deep.LoopGhost
import Derived.Test.YtjagnfddmlkalaaGreatDoorKj2
import Derived.Test.YtjagnfddmlkalaaGreatDoorKj8
set_option maxRecDepth 100000
set_option maxHeartbeats 4000000
namespace Go.Proofs.YtjagnfddmlkalaaGreatDoor
open Go.RowKit
theorem und_u8b : Tryz.prog.underlying 5 = some (.int .u8) := by kernel_rfl
theorem und_str9b : Tryz.prog.underlying 9 = some .string := by kernel_rfl
structure BRow (W : World) (g n : Nat) (F : Nat → Nat) : Prop where
 cell : ∀ i, i < n → W.cell? ⟨g, i, none⟩ = some (.int .u8 (F i : Int))
 fr : ∀ i, i < n → W.frozen? ⟨g, i, none⟩ = false
def putF (F : Nat → Nat) (i r : Nat) : Nat → Nat := fun j => if j = i then r else F j
theorem BRow.set {W : World} {g n : Nat} {F : Nat → Nat} (R : BRow W g n F) {i : Nat} (hi : i < n) (r : Nat) : BRow (W.setCell ⟨g, i, none⟩ (.int .u8 (r : Int))) g n (putF F i r) := by
 refine ⟨fun j hj => ?_, fun j hj => ?_⟩
 · unfold putF
   by_cases z : j = i
   · rw [if_pos z, z]; exact World.cell?_setCell_same W ⟨g, i, none⟩ _ (R.cell i hi)
   · rw [if_neg z, World.cell?_setCell_other W ⟨g, i, none⟩ ⟨g, j, none⟩ _ (by intro h; injection h with _ h _; exact z h.symm)]; exact R.cell j hj
 · rw [World.frozen?_setCell]; exact R.fr j hj
theorem BRow.drew {W : World} {g n : Nat} {F : Nat → Nat} (R : BRow W g n F) : BRow W.drew g n F := ⟨R.cell, R.fr⟩
structure NxW (w W : World) (p : Int) : Prop where
 sz : w.heap.size + 3 ≤ W.heap.size
 bel : Below w.heap.size w W
 a1 : W.cell? ⟨w.heap.size, 1, none⟩ = some (.int .i64 p)
 r0 : W.cell? ⟨w.heap.size + 1, 0, none⟩ = some (.string ⟨#[]⟩)
 r1 : W.cell? ⟨w.heap.size + 1, 1, none⟩ = some (.int .i64 0)
 r2 : W.cell? ⟨w.heap.size + 1, 2, none⟩ = some (.bool false)
 fr : ∀ o, W.frozen? ⟨w.heap.size + 1, o, none⟩ = false
theorem NxW.set {w W : World} {p : Int} (h : NxW w W p) (i : Nat) (v : Value) : NxW w (W.setCell ⟨w.heap.size + 1 + 1, i, none⟩ v) p := by
 have k : ∀ b o, b < w.heap.size + 1 + 1 → (W.setCell ⟨w.heap.size + 1 + 1, i, none⟩ v).cell? ⟨b, o, none⟩ = W.cell? ⟨b, o, none⟩ := fun b o hb => World.cell?_setCell_other W ⟨w.heap.size + 1 + 1, i, none⟩ ⟨b, o, none⟩ v (by intro q; injection q with q _ _; omega)
 exact ⟨by rw [World.size_setCell]; exact h.sz, h.bel.setCell (by show w.heap.size ≤ w.heap.size + 1 + 1; omega) v, (k _ _ (by omega)).trans h.a1, (k _ _ (by omega)).trans h.r0, (k _ _ (by omega)).trans h.r1, (k _ _ (by omega)).trans h.r2, fun o => by rw [World.frozen?_setCell]; exact h.fr o⟩
theorem NxW.drew {w W : World} {p : Int} (h : NxW w W p) : NxW w W.drew p := ⟨h.sz, h.bel.drew, h.a1, h.r0, h.r1, h.r2, h.fr⟩
theorem getD_dgt {s : ByteArray} {j : Nat} (h : j < s.size) : (s.data.toList.getD j 0).toNat = dgt s j := by
 rw [dgt_lt h]
 have h' : j < s.data.toList.length := by rw [Array.length_toList]; exact h
 rw [List.getD_eq_getElem?_getD, List.getElem?_eq_getElem h', Option.getD_some, Array.getElem_toList]
 rfl
theorem next_bytes (w : World) (s : ByteArray) (p : Int) (c : Bool) (hs : s.size ≤ 800) : ∃ W1 C, (Go.convert 9 115 (.string s)).run Tryz.prog ((w.alloc (.cells #[.string s, .int .i64 p, .bool c] 24)).alloc (.cells #[.string ⟨#[]⟩, .int .i64 0, .bool false] 24)) = .ok (.slice (some ⟨w.heap.size + 1 + 1, 0, none⟩) s.size C) W1 ∧ s.size ≤ C ∧ C ≤ maxLen ∧ NxW w W1 p ∧ BRow W1 (w.heap.size + 1 + 1) s.size (dgt s) := by
 obtain ⟨U, hU⟩ : ∃ U, U = ((w.alloc (.cells #[.string s, .int .i64 p, .bool c] 24)).alloc (.cells #[.string ⟨#[]⟩, .int .i64 0, .bool false] 24)) := ⟨_, rfl⟩
 have hz : U.heap.size = w.heap.size + 1 + 1 := by rw [hU]; simp
 have hB : Below w.heap.size w U := by rw [hU]; exact ((Below.refl _ _).alloc (Nat.le_refl _) _).alloc (by simp) _
 have hL := Lib.run_convert_string_bytes (P := Tryz.prog) U 9 115 5 s und_str9b und_bytes48 und_u8b
 have bU : Below U.heap.size U (Lib.bytesWorld U 5 s) := ⟨rfl, rfl, rfl, by rw [Lib.bytesWorld_size]; omega, fun k hk => Lib.bytesWorld_at_old U 5 s k hk⟩
 rw [hz] at hL
 have kc : ∀ b o, b < w.heap.size + 1 + 1 → (Lib.bytesWorld U 5 s).cell? ⟨b, o, none⟩ = U.cell? ⟨b, o, none⟩ := fun b o hb => bU.cell (p := ⟨b, o, none⟩) (by show b < U.heap.size; omega)
 rw [← hU]
 refine ⟨Lib.bytesWorld U 5 s, grownCap U s.size 0 5, hL, grownCap_ge _ _ _ _, grownCap_le_maxLen _ _ _ _ (Nat.le_trans hs (by decide)), ?_, ?_⟩
 · refine ⟨by rw [Lib.bytesWorld_size]; omega, hB.trans (bU.mono (by omega)), (kc _ _ (by omega)).trans (by rw [hU]; simp), (kc _ _ (by omega)).trans (by rw [hU]; simp), (kc _ _ (by omega)).trans (by rw [hU]; simp), (kc _ _ (by omega)).trans (by rw [hU]; simp), fun o => ?_⟩
   rw [bU.frozen (p := ⟨w.heap.size + 1, o, none⟩) (by show w.heap.size + 1 < U.heap.size; omega), hU]
   simp
 · refine ⟨fun i hi => ?_, fun i hi => ?_⟩
   · have q := Lib.bytesWorld_cell U 5 s i hi
     rw [hz, getD_dgt hi] at q
     exact q
   · have q := Lib.bytesWorld_at_new U 5 s
     rw [hz] at q
     unfold World.frozen?
     rw [q]
     have z : ¬ (Lib.bytesCells U 5 s).size ≤ i := by
      unfold Lib.bytesCells
      simp
      omega
     simp [z]
theorem nums_dgt (G : Nat → Nat) (m : Nat) (hG : ∀ i, i < m → G i < 256) : (strOfNums ((List.range m).map fun i => (G i : Int))).size = m ∧ ∀ i, i < m → dgt (strOfNums ((List.range m).map fun i => (G i : Int))) i = G i := by
 have hs : (strOfNums ((List.range m).map fun i => (G i : Int))).size = m := by rw [strOfNums_size]; simp
 refine ⟨hs, fun i hi => ?_⟩
 have g := hG i hi
 rw [← getD_dgt (by omega), strOfNums_data, List.map_map, List.getD_eq_getElem?_getD]
 simp [hi]
 omega
structure OneB (w W : World) (s : ByteArray) (p : Int) (c : Bool) : Prop where
 sz : w.heap.size + 1 ≤ W.heap.size
 bel : Below w.heap.size w W
 a0 : W.cell? ⟨w.heap.size, 0, none⟩ = some (.string s)
 a1 : W.cell? ⟨w.heap.size, 1, none⟩ = some (.int .i64 p)
 a2 : W.cell? ⟨w.heap.size, 2, none⟩ = some (.bool c)
theorem OneB.step {w W W' : World} {s : ByteArray} {p : Int} {c : Bool} (h : OneB w W s p c) (hb : Below W.heap.size W W') : OneB w W' s p c := by
 have z := h.sz
 have k : ∀ o, W'.cell? ⟨w.heap.size, o, none⟩ = W.cell? ⟨w.heap.size, o, none⟩ := fun o => hb.cell (p := ⟨w.heap.size, o, none⟩) (by show w.heap.size < W.heap.size; omega)
 exact ⟨Nat.le_trans z hb.size, h.bel.trans (hb.mono (by omega)), (k 0).trans h.a0, (k 1).trans h.a1, (k 2).trans h.a2⟩
theorem OneB.start (w : World) (s : ByteArray) (p : Int) (c : Bool) : OneB w (w.alloc (.cells #[.string s, .int .i64 p, .bool c] 24)) s p c :=
 ⟨by simp, (Below.refl _ _).alloc (Nat.le_refl _) _, by simp, by simp, by simp⟩
def MR (s : ByteArray) (p : Int) (c : Bool) (n known : Int) : Prop := VD s p c ∧ 0 ≤ n ∧ n ≤ 800 ∧ (c = true → n ≤ known)
theorem mayRound_yes {s : ByteArray} {p : Int} {c : Bool} {n known : Int} (h : MR s p c n known) (w : World) :
    Calls Tryz.prog 24 #[dcV s p c, .int .i64 n, .int .i64 known] w fun e w' => e = .returned (.bool true) ∧ Below w.heap.size w w' := by
  obtain ⟨h1, h2, h3, h4⟩ := h
  have V := fun W => dvalid_yes h1 W
  clear h1
  unfold dcV at *
  cases c with
  | false =>
    clear h4
    go_enter Tryz.func24, Tryz.ntmps24
    go_wp2_with fail
    refine (V _).mono ?_
    rintro e w1 ⟨rfl, hb⟩
    have T : Hid (OneB w w1 s p false) := (OneB.start w s p false).step hb
    obtain ⟨_, _, a0, a1, a2⟩ := T.out
    clear hb
    go_wp2
    go_ret
    exact ⟨rfl, T.out.bel⟩
  | true =>
    have h5 := h4 rfl
    clear h4
    go_enter Tryz.func24, Tryz.ntmps24
    go_wp2_with fail
    refine (V _).mono ?_
    rintro e w1 ⟨rfl, hb⟩
    have T : Hid (OneB w w1 s p true) := (OneB.start w s p true).step hb
    obtain ⟨_, _, a0, a1, a2⟩ := T.out
    clear hb
    go_wp2
    go_ret
    exact ⟨rfl, T.out.bel⟩
def upB (s : ByteArray) (c : Bool) (n : Nat) : Bool :=
 if dgt s n = 53 then (c || decide (n + 1 < s.size)) || (decide (0 < n) && decide ((dgt s (n - 1) - 48) % 2 = 1)) else decide (53 < dgt s n)
theorem roundsUp_any {s : ByteArray} {p : Int} {c : Bool} (hd : DG s) {n : Nat} (hn : n < s.size) (hl : s.size ≤ 800) (w : World) :
 Calls Tryz.prog 28 #[dcV s p c, .int .i64 n] w fun e w' => e = .returned (.bool (upB s c n)) ∧ Below w.heap.size w w' := by
 have G := fun W => goesOn_any s p c ((n : Int) + 1) W
 obtain ⟨x, hx⟩ : ∃ x, x = (s[n]'hn).toNat := ⟨_, rfl⟩
 have ex : dgt s n = x := by rw [dgt_lt hn, hx]
 have wn : IntKind.i64.wrap ((n : Int) + 1) = (n : Int) + 1 := by
  unfold IntKind.wrap
  simp [IntKind.bits, IntKind.signed]
  omega
 unfold upB
 rw [ex]
 unfold dcV at *
 by_cases c1 : x = 53
 · rw [if_pos c1]
   have e1 : ((((s[n]'hn).toNat : Nat) : Int) == 53) = true := beq_iff_eq.mpr (by omega)
   by_cases c2 : onB s c ((n : Int) + 1) = true
   · rw [c2] at G
     have HB : Hid (((c || decide (n + 1 < s.size)) || (decide (0 < n) && decide ((dgt s (n - 1) - 48) % 2 = 1))) = true) := by
      unfold onB at c2
      have : (c || decide (n + 1 < s.size)) = true := by
       rw [← c2]; congr 1; apply decide_eq_decide.mpr; omega
      show _ = true
      rw [this]; rfl
     clear c2 ex hx c1
     go_enter Tryz.func28, Tryz.ntmps28
     go_wp2_with fail
     refine (G _).mono ?_
     rintro e w1 ⟨rfl, hb⟩
     have T : Hid (OneB w w1 s p c) := (OneB.start w s p c).step hb
     clear hb
     go_wp2
     go_ret
     exact ⟨by rw [HB.out]; rfl, T.out.bel⟩
   · have c2' : onB s c ((n : Int) + 1) = false := by cases h : onB s c ((n : Int) + 1) <;> simp_all
     rw [c2'] at G
     have HB : Hid (((c || decide (n + 1 < s.size)) || (decide (0 < n) && decide ((dgt s (n - 1) - 48) % 2 = 1))) = (decide (0 < n) && decide ((dgt s (n - 1) - 48) % 2 = 1))) := by
      unfold onB at c2'
      have : (c || decide (n + 1 < s.size)) = false := by
       rw [← c2']; congr 1; apply decide_eq_decide.mpr; omega
      show _ = _
      rw [this]; rfl
     clear c2 c2' ex hx c1
     by_cases c3 : n = 0
     · subst c3
       go_enter Tryz.func28, Tryz.ntmps28
       go_wp2_with fail
       refine (G _).mono ?_
       rintro e w1 ⟨rfl, hb⟩
       have T : Hid (OneB w w1 s p c) := (OneB.start w s p c).step hb
       obtain ⟨_, _, a0, a1, a2⟩ := T.out
       clear hb
       go_wp2
       go_ret
       exact ⟨by rw [HB.out]; rfl, T.out.bel⟩
     · have hn1 : n - 1 < s.size := by omega
       have ix : ((n : Int) - 1).toNat = n - 1 := by omega
       have k0 : 0 < n := by omega
       obtain ⟨y, hy⟩ : ∃ y, y = (s[n - 1]'hn1).toNat := ⟨_, rfl⟩
       have ey : dgt s (n - 1) = y := by rw [dgt_lt hn1, hy]
       have yd := dgt_in hd (n - 1)
       rw [ey] at yd
       have wy : IntKind.u8.wrap ((((s[n - 1]'hn1).toNat : Nat) : Int) - 48) = ((y - 48 : Nat) : Int) := by
        rw [← hy]
        unfold IntKind.wrap
        simp [IntKind.bits, IntKind.signed]
        omega
       have HV : Hid ((((y - 48 : Nat) : Int) % 2 != 0) = (decide (0 < n) && decide ((dgt s (n - 1) - 48) % 2 = 1))) := by
        show _ = _
        rw [ey, decide_eq_true k0, Bool.true_and]
        by_cases g : (y - 48) % 2 = 1
        · rw [decide_eq_true g]; simp; omega
        · rw [decide_eq_false g]; simp; omega
       clear hy ey
       go_enter Tryz.func28, Tryz.ntmps28
       go_wp2_with fail
       refine (G _).mono ?_
       rintro e w1 ⟨rfl, hb⟩
       have T : Hid (OneB w w1 s p c) := (OneB.start w s p c).step hb
       obtain ⟨_, _, a0, a1, a2⟩ := T.out
       clear hb
       go_wp2
       go_ret
       exact ⟨by rw [HB.out, ← HV.out]; rfl, T.out.bel⟩
 · rw [if_neg c1]
   have e1 : ((((s[n]'hn).toNat : Nat) : Int) == 53) = false := beq_eq_false_iff_ne.mpr (by omega)
   have HV : Hid (decide ((53 : Int) < (((s[n]'hn).toNat : Nat) : Int)) = decide (53 < x)) := decide_eq_decide.mpr (by omega)
   go_enter Tryz.func28, Tryz.ntmps28
   go_wp2
   go_ret
   exact ⟨by rw [← HV.out]; rfl, (OneB.start w s p c).bel⟩
structure OneR (w W : World) (s : ByteArray) (p : Int) (c : Bool) : Prop where
 sz : w.heap.size + 2 ≤ W.heap.size
 bel : Below w.heap.size w W
 a0 : W.cell? ⟨w.heap.size, 0, none⟩ = some (.string s)
 a1 : W.cell? ⟨w.heap.size, 1, none⟩ = some (.int .i64 p)
 a2 : W.cell? ⟨w.heap.size, 2, none⟩ = some (.bool c)
 r0 : W.cell? ⟨w.heap.size + 1, 0, none⟩ = some (.string ⟨#[]⟩)
 r1 : W.cell? ⟨w.heap.size + 1, 1, none⟩ = some (.int .i64 0)
 r2 : W.cell? ⟨w.heap.size + 1, 2, none⟩ = some (.bool false)
 fr : ∀ o, W.frozen? ⟨w.heap.size + 1, o, none⟩ = false
theorem OneR.step {w W W' : World} {s : ByteArray} {p : Int} {c : Bool} (h : OneR w W s p c) (hb : Below W.heap.size W W') : OneR w W' s p c := by
 have z := h.sz
 have k : ∀ b o, b < w.heap.size + 2 → W'.cell? ⟨b, o, none⟩ = W.cell? ⟨b, o, none⟩ := fun b o hb' => hb.cell (p := ⟨b, o, none⟩) (by show b < W.heap.size; omega)
 exact ⟨Nat.le_trans z hb.size, h.bel.trans (hb.mono (by omega)), (k _ 0 (by omega)).trans h.a0, (k _ 1 (by omega)).trans h.a1, (k _ 2 (by omega)).trans h.a2, (k _ 0 (by omega)).trans h.r0, (k _ 1 (by omega)).trans h.r1, (k _ 2 (by omega)).trans h.r2, fun o => (hb.frozen (p := ⟨w.heap.size + 1, o, none⟩) (by show w.heap.size + 1 < W.heap.size; omega)).trans (h.fr o)⟩
theorem OneR.start (w : World) (s : ByteArray) (p : Int) (c : Bool) : OneR w ((w.alloc (.cells #[.string s, .int .i64 p, .bool c] 24)).alloc (.cells #[.string ⟨#[]⟩, .int .i64 0, .bool false] 24)) s p c :=
 ⟨by simp, ((Below.refl _ _).alloc (Nat.le_refl _) _).alloc (by simp) _, by simp, by simp, by simp, by simp, by simp, by simp, fun o => by simp⟩
theorem pre_pre {s : ByteArray} {k m : Nat} (h : m ≤ k) : (s.extract 0 k).extract 0 m = s.extract 0 m := by
 apply ByteArray.ext
 rw [ByteArray.data_extract, ByteArray.data_extract, ByteArray.data_extract, Array.extract_extract]
 congr 1
 omega
theorem pre_dgt {s : ByteArray} {k i : Nat} (hk : k ≤ s.size) (h : i < k) : dgt (s.extract 0 k) i = dgt s i := by
 rw [dgt_lt (by rw [pre_size hk]; exact h), dgt_lt (by omega), pre_get hk h]
def lowD (s : ByteArray) (p : Int) (m : Nat) : Value := if m = 0 then dcV ⟨#[]⟩ 0 false else dcV (s.extract 0 m) p false
theorem below_any {s : ByteArray} {p : Int} {c : Bool} (hl : s.size ≤ 800) {n k m : Nat} (hn : n ≤ 800) (hk : k = min n s.size) (hm : m ≤ k) (h1 : ∀ i, m ≤ i → i < k → dgt s i = 48) (h2 : 0 < m → dgt s (m - 1) ≠ 48) (w : World) :
 Calls Tryz.prog 25 #[dcV s p c, .int .i64 n] w fun e w' => e = .returned (lowD s p m) ∧ Below w.heap.size w w' := by
 have hks : k ≤ s.size := by omega
 have zs := pre_size hks
 have S := fun W => shorten_ok (s.extract 0 k) (by omega) m (by omega) (fun i a b => by rw [← dgt_lt b, pre_dgt hks (by omega)]; exact h1 i a (by omega)) (fun q => by rw [← dgt_lt (by omega), pre_dgt hks (by omega)]; exact h2 q) W
 rw [pre_pre hm] at S
 have mz := pre_size (s := s) (k := m) (by omega)
 clear h1 h2
 unfold lowD
 have HK : Hid (k = min n s.size) := hk
 clear hk
 have R0 := OneR.start w s p c
 obtain ⟨t, ht⟩ : ∃ t, t = s.extract 0 m := ⟨_, rfl⟩
 rw [← ht] at S mz ⊢
 clear ht
 by_cases c1 : s.size < n
 · have hk' : k = s.size := by have := HK.out; omega
   subst hk'
   rw [ext_zero] at S
   have c1' : s.size < n := c1
   by_cases c2 : m = 0
   · rw [if_pos c2]
     have e0 : t = ⟨#[]⟩ := size_zero (by omega)
     rw [e0] at S
     clear e0 mz c2
     unfold dcV at *
     go_enter Tryz.func25, Tryz.ntmps25
     go_wp2_with fail
     refine (S _).mono ?_
     rintro e w1 ⟨rfl, hb⟩
     have HT : Hid (OneR w w1 s p c) := R0.step hb
     clear hb R0
     obtain ⟨_, _, a0, a1, a2, r0, r1, r2, fr⟩ := HT.out
     go_wp2
     refine bodyPost_ret (v := .agg #[.string ⟨#[]⟩, .int .i64 0, .bool false]) (by simp [results, Tryz.results25, go_sem, *]) rfl ⟨rfl, ?_⟩
     exact (((HT.out.bel.setCell (by simp) _).setCell (by simp) _).setCell (by simp) _)
   · rw [if_neg c2]
     have hE := empty_false (s := t) (by omega)
     clear mz c2
     unfold dcV at *
     go_enter Tryz.func25, Tryz.ntmps25
     go_wp2_with fail
     refine (S _).mono ?_
     rintro e w1 ⟨rfl, hb⟩
     have HT : Hid (OneR w w1 s p c) := R0.step hb
     clear hb R0
     obtain ⟨_, _, a0, a1, a2, r0, r1, r2, fr⟩ := HT.out
     go_wp2
     refine bodyPost_ret (v := .agg #[.string t, .int .i64 p, .bool false]) (by simp [results, Tryz.results25, go_sem, *]) rfl ⟨rfl, ?_⟩
     exact (((HT.out.bel.setCell (by simp) _).setCell (by simp) _).setCell (by simp) _)
 · have hk' : k = n := by have := HK.out; omega
   subst hk'
   have c1' : ¬ s.size < k := c1
   by_cases c2 : m = 0
   · rw [if_pos c2]
     have e0 : t = ⟨#[]⟩ := size_zero (by omega)
     rw [e0] at S
     clear e0 mz c2
     unfold dcV at *
     go_enter Tryz.func25, Tryz.ntmps25
     go_wp2_with fail
     refine (S _).mono ?_
     rintro e w1 ⟨rfl, hb⟩
     have HT : Hid (OneR w w1 s p c) := R0.step hb
     clear hb R0
     obtain ⟨_, _, a0, a1, a2, r0, r1, r2, fr⟩ := HT.out
     go_wp2
     refine bodyPost_ret (v := .agg #[.string ⟨#[]⟩, .int .i64 0, .bool false]) (by simp [results, Tryz.results25, go_sem, *]) rfl ⟨rfl, ?_⟩
     exact (((HT.out.bel.setCell (by simp) _).setCell (by simp) _).setCell (by simp) _)
   · rw [if_neg c2]
     have hE := empty_false (s := t) (by omega)
     clear mz c2
     unfold dcV at *
     go_enter Tryz.func25, Tryz.ntmps25
     go_wp2_with fail
     refine (S _).mono ?_
     rintro e w1 ⟨rfl, hb⟩
     have HT : Hid (OneR w w1 s p c) := R0.step hb
     clear hb R0
     obtain ⟨_, _, a0, a1, a2, r0, r1, r2, fr⟩ := HT.out
     go_wp2
     refine bodyPost_ret (v := .agg #[.string t, .int .i64 p, .bool false]) (by simp [results, Tryz.results25, go_sem, *]) rfl ⟨rfl, ?_⟩
     exact (((HT.out.bel.setCell (by simp) _).setCell (by simp) _).setCell (by simp) _)
def upS (s : ByteArray) (m : Nat) : ByteArray := s.extract 0 (m - 1) ++ strOfNums [((dgt s (m - 1) + 1 : Nat) : Int)]
theorem above_some {s : ByteArray} {p : Int} {c : Bool} (hd : DG s) (hl : s.size ≤ 800) {n m : Nat} (hn : n ≤ s.size) (hm : m ≤ n) (h0 : 0 < m) (h1 : ∀ i, m ≤ i → i < n → dgt s i = 57) (h2 : dgt s (m - 1) ≠ 57) (w : World) :
 Calls Tryz.prog 27 #[dcV s p c, .int .i64 n] w fun e w' => e = .returned (.tuple #[dcV (upS s m) p false, .nilIface]) ∧ Below w.heap.size w w' := by
 have zs := pre_size hn
 have T := fun W => trimRight57 (s.extract 0 n) (by omega) m (by omega) (fun i a b => by rw [← dgt_lt b, pre_dgt hn (by omega)]; exact h1 i a (by omega)) (fun q => by rw [← dgt_lt (by omega), pre_dgt hn (by omega)]; exact h2) W
 rw [pre_pre hm] at T
 have mz := pre_size (s := s) (k := m) (by omega)
 have dx : dgt (s.extract 0 m) (m - 1) = dgt s (m - 1) := pre_dgt (by omega) (by omega)
 have cutE : (s.extract 0 m).extract 0 (m - 1) = s.extract 0 (m - 1) := pre_pre (by omega)
 unfold upS
 have xd := dgt_in hd (m - 1)
 obtain ⟨x, hx⟩ : ∃ x, x = dgt s (m - 1) := ⟨_, rfl⟩
 obtain ⟨t, ht⟩ : ∃ t, t = s.extract 0 m := ⟨_, rfl⟩
 obtain ⟨r, hr⟩ : ∃ r, r = s.extract 0 (m - 1) := ⟨_, rfl⟩
 rw [← hx] at dx xd h2 ⊢
 rw [← hr] at cutE ⊢
 rw [← ht] at T mz dx cutE
 have hm1 : m - 1 < t.size := by omega
 have x1 : (t[m - 1]'hm1).toNat = x := by rw [← dgt_lt hm1]; exact dx
 have ix : ((m : Int) - 1).toNat = m - 1 := by omega
 have hE := empty_false (s := t) (by omega)
 have tz : (t.size : Int) = (m : Int) := by omega
 have wx : IntKind.u8.wrap ((((t[m - 1]'hm1).toNat : Nat) : Int) + 1) = ((x + 1 : Nat) : Int) := by
  rw [x1]
  unfold IntKind.wrap
  simp [IntKind.bits, IntKind.signed]
  omega
 have hcv : ∀ W : World, W.cell? ⟨w.heap.size + 1 + 1, 0, none⟩ = some (.int .u8 ((x + 1 : Nat) : Int)) → (Go.convert 115 9 (.slice (some ⟨w.heap.size + 1 + 1, 0, none⟩) 1 1)).run Tryz.prog W = .ok (.string (strOfNums [((x + 1 : Nat) : Int)])) W := by
  intro W hW
  refine run_convert_bytes_arg W 115 5 und_bytes48 und_u8b (w.heap.size + 1 + 1) 0 1 1 [((x + 1 : Nat) : Int)] rfl ?_ 9 und_str9b
  intro i hi
  obtain rfl : i = 0 := by omega
  exact hW
 obtain ⟨y, hy⟩ : ∃ y, y = strOfNums [((x + 1 : Nat) : Int)] := ⟨_, rfl⟩
 rw [← hy] at hcv ⊢
 have rz : r.size = m - 1 := by rw [hr]; exact pre_size (by omega)
 have yz : y.size = 1 := by rw [hy, strOfNums_size]; rfl
 have ryL : (r ++ y).size ≤ maxLen := by rw [ByteArray.size_append]; unfold maxLen; omega
 have ryZ : r.size + y.size ≤ maxLen := by unfold maxLen; omega
 clear h1 h2 hd dx hx hr ht hy
 unfold dcV at *
 go_enter Tryz.func27, Tryz.ntmps27
 go_wp2_with fail
 refine (T _).mono ?_
 rintro e w0 ⟨rfl, rfl⟩
 go_wp2
 go_region
 all_goals
  go_wp2
  refine bodyPost_ret (v := .tuple #[.agg #[.string (r ++ y), .int .i64 p, .bool false], .nilIface]) (by simp [results, Tryz.results27, go_sem]) rfl ⟨rfl, ?_⟩
  exact ((((Below.refl _ _).alloc (Nat.le_refl _) _).alloc (by simp) _).alloc (by simp; omega) _).drew
theorem above_none {s : ByteArray} {p : Int} {c : Bool} (hl : s.size ≤ 800) {n : Nat} (hn : n ≤ s.size) (h1 : ∀ i, i < n → dgt s i = 57) (hp : -1099511627776 ≤ p) (hp' : p ≤ 1099511627776) (w : World) :
 Calls Tryz.prog 27 #[dcV s p c, .int .i64 n] w fun e w' => e = .returned (.tuple (if p = 1099511627776 then #[dcV ⟨#[]⟩ 0 false, .iface 42 (.int .i64 4)] else #[dcV ⟨#[49]⟩ (p + 1) false, .nilIface])) ∧ Below w.heap.size w w' := by
 have zs := pre_size hn
 have T := fun W => trimRight57 (s.extract 0 n) (by omega) 0 (by omega) (fun i a b => by rw [← dgt_lt b, pre_dgt hn (by omega)]; exact h1 i (by omega)) (fun q => absurd q (by omega)) W
 rw [pre_pre (Nat.zero_le n)] at T
 have e0 : s.extract 0 0 = ⟨#[]⟩ := size_zero (pre_size (Nat.zero_le _))
 rw [e0] at T
 have R0 := OneR.start w s p c
 have HT : Hid (OneR w ((w.alloc (.cells #[.string s, .int .i64 p, .bool c] 24)).alloc (.cells #[.string ⟨#[]⟩, .int .i64 0, .bool false] 24)) s p c) := R0
 clear h1 e0 R0
 unfold dcV at *
 by_cases c1 : p = 1099511627776
 · rw [if_pos c1]
   subst c1
   go_enter Tryz.func27, Tryz.ntmps27
   go_wp2_with fail
   refine (T _).mono ?_
   rintro e w0 ⟨rfl, rfl⟩
   go_wp2
   refine bodyPost_ret (v := .tuple #[.agg #[.string ⟨#[]⟩, .int .i64 0, .bool false], .iface 42 (.int .i64 4)]) (by simp [results, Tryz.results27, go_sem]) rfl ⟨rfl, ?_⟩
   first | exact HT.out.bel | exact (((HT.out.bel.setCell (by simp) _).setCell (by simp) _).setCell (by simp) _)
 · rw [if_neg c1]
   have c1' : (p == 1099511627776) = false := beq_eq_false_iff_ne.mpr c1
   have wp : IntKind.i64.wrap (p + 1) = p + 1 := by
    unfold IntKind.wrap
    simp [IntKind.bits, IntKind.signed]
    omega
   clear c1
   go_enter Tryz.func27, Tryz.ntmps27
   go_wp2_with fail
   refine (T _).mono ?_
   rintro e w0 ⟨rfl, rfl⟩
   go_wp2
   refine bodyPost_ret (v := .tuple #[.agg #[.string ⟨#[49]⟩, .int .i64 (p + 1), .bool false], .nilIface]) (by simp [results, Tryz.results27, go_sem]) rfl ⟨rfl, ?_⟩
   first | exact HT.out.bel | exact ((Below.refl _ _).alloc (Nat.le_refl _) _).alloc (by simp) _
theorem ba_ext {a b : ByteArray} (h : a.size = b.size) (hd : ∀ i, i < a.size → dgt a i = dgt b i) : a = b := by
 apply ByteArray.ext
 apply Array.ext
 · exact h
 · intro i h1 h2
   have q := hd i h1
   rw [dgt_lt (s := a) h1, dgt_lt (s := b) h2] at q
   exact UInt8.toNat_inj.mp q
theorem upS_size {s : ByteArray} {m : Nat} (h0 : 0 < m) (hm : m ≤ s.size) : (upS s m).size = m := by
 unfold upS
 rw [ByteArray.size_append, pre_size (by omega), strOfNums_size]
 simp
 omega
theorem upS_dgt {s : ByteArray} (hd : DG s) {m : Nat} (h0 : 0 < m) (hm : m ≤ s.size) : (∀ j, j < m - 1 → dgt (upS s m) j = dgt s j) ∧ dgt (upS s m) (m - 1) = dgt s (m - 1) + 1 := by
 have z := upS_size h0 hm
 have zr : (s.extract 0 (m - 1)).size = m - 1 := pre_size (by omega)
 have b := dgt_in hd (m - 1)
 refine ⟨fun j hj => ?_, ?_⟩
 · rw [dgt_lt (by omega), ← pre_dgt (s := s) (k := m - 1) (by omega) hj, dgt_lt (s := s.extract 0 (m - 1)) (by omega)]
   unfold upS
   rw [ByteArray.getElem_append_left]
 · rw [dgt_lt (by omega)]
   unfold upS
   rw [ByteArray.getElem_append_right (by omega)]
   have q := (nums_dgt (fun _ => dgt s (m - 1) + 1) 1 (fun _ _ => by omega)).2 0 (by omega)
   have e : ((List.range 1).map fun i => (((fun _ => dgt s (m - 1) + 1) i : Nat) : Int)) = [((dgt s (m - 1) + 1 : Nat) : Int)] := rfl
   rw [e, dgt_lt (by rw [strOfNums_size]; simp)] at q
   simp only [zr, Nat.sub_self]
   exact q
theorem rmake_ok {s : ByteArray} {p : Int} (h0 : 0 < s.size) (hl : s.size ≤ 800) (hd : DG s) (hf : dgt s 0 ≠ 48) {m : Nat} (hm : m ≤ s.size) (m0 : 0 < m) (h1 : ∀ i, m ≤ i → i < s.size → dgt s i = 48) (h2 : dgt s (m - 1) ≠ 48)
 (hp : -1099511627776 ≤ p) (hp' : p ≤ 1099511627776) (w : World) :
 Calls Tryz.prog 79 #[.string s, .int .i64 p, .bool false] w fun e w' => e = .returned (.tuple #[dcV (s.extract 0 m) p false, .int .i64 0]) ∧ Below w.heap.size w w' := by
 have D := fun W => rdig_yes s (by omega) hd W
 have x0 : ((((s[0]'h0).toNat : Nat) : Int) == 48) = false := beq_eq_false_iff_ne.mpr (by rw [dgt_lt h0] at hf; omega)
 have H1 : Hid (∀ i, m ≤ i → i < s.size → dgt s i = 48) := h1
 have H2 : Hid (dgt s (m - 1) ≠ 48) := h2
 have l8 : ¬ (800 : Int) < (s.size : Int) := by omega
 clear h1 h2 hd hf
 unfold dcV at *
 go_enter Tryz.func79, Tryz.ntmps79
 go_wp2_with fail
 refine (D _).mono ?_
 rintro e w0 ⟨rfl, rfl⟩
 go_wp2
 go_loop [8] (fun iv => iv = .int .i64 0) (fun _ => 0)
 case atStart => rfl
 case round =>
  subst hrel
  go_wp2
  go_loop [0] (fun v => ∃ k, v = .string (s.extract 0 k) ∧ m ≤ k ∧ k ≤ s.size) (fun v => textLen v)
  case atStart => exact ⟨s.size, by rw [ext_zero], hm, Nat.le_refl _⟩
  case round =>
   obtain ⟨k, rfl, hk1, hk2⟩ := hrel
   have sz := pre_size hk2
   by_cases c1 : m < k
   · obtain ⟨j, rfl⟩ : ∃ j, k = j + 1 := ⟨k - 1, by omega⟩
     have e0 := pre_get (s := s) hk2 (show j < j + 1 by omega)
     have e9 := H1.out j (by omega) (by omega)
     rw [dgt_lt (by omega)] at e9
     rw [e9] at e0
     clear e9
     have cut := pre_cut (s := s) (k := j)
     have HC : Hid ((s.extract 0 j).size = j) := pre_size (by omega)
     obtain ⟨T2, hT2⟩ : ∃ T, s.extract 0 j = T := ⟨_, rfl⟩
     obtain ⟨T, hT⟩ : ∃ T, s.extract 0 (j + 1) = T := ⟨_, rfl⟩
     rw [hT2] at cut
     rw [hT] at sz cut e0 ⊢
     have HT : Hid (s.extract 0 j = T2) := hT2
     have HSZ : Hid (T.size = j + 1) := sz
     have hpos : 0 < T.size := by omega
     have hbig : T.size ≤ 9223372036854775807 := by omega
     have ix : ((T.size : Int) - 1).toNat = j := by omega
     have ix2 : (T.size : Int) - 1 = (j : Int) := by omega
     have hj : j < T.size := by omega
     have e1 := e0 hj
     have hTj : (T.size : Int) = (j : Int) + 1 := by omega
     clear hT hT2 sz
     go_wp2
     go_round
     case rel => exact ⟨j, by rw [HT.out], by omega, by omega⟩
     case measure =>
      show T2.size < T.size
      have a := HC.out
      rw [HT.out] at a
      have b := HSZ.out
      omega
   · obtain rfl : k = m := by omega
     have e0 := pre_get (s := s) hk2 (show k - 1 < k by omega)
     have e9 := H2.out
     rw [dgt_lt (by omega)] at e9
     have cE : (((((s[k - 1]'(by omega)).toNat : Nat) : Int)) == 48) = false := beq_eq_false_iff_ne.mpr (by omega)
     obtain ⟨z, hz⟩ : ∃ z, z = (s[k - 1]'(by omega)).toNat := ⟨_, rfl⟩
     rw [← hz] at e0 cE
     clear e9 hz
     obtain ⟨T, hT⟩ : ∃ T, s.extract 0 k = T := ⟨_, rfl⟩
     rw [hT] at sz e0 ⊢
     have hj : k - 1 < T.size := by omega
     have e1 := e0 hj
     have ix : ((T.size : Int) - 1).toNat = k - 1 := by omega
     have ix3 : ((k : Int) - 1).toNat = k - 1 := by omega
     have hTj : (T.size : Int) = (k : Int) := by omega
     have hpos : 0 < T.size := by omega
     have tz : ((T.size : Int) == 0) = false := beq_eq_false_iff_ne.mpr (by omega)
     have HTT : Hid (s.extract 0 k = T) := hT
     clear hT
     have p1 : ¬ p < -1099511627776 := by omega
     have p2 : ¬ 1099511627776 < p := by omega
     go_wp2
     refine bodyPost_ret (v := .tuple #[.agg #[.string T, .int .i64 p, .bool false], .int .i64 0]) (by simp [results, Tryz.results79, go_sem]) rfl ⟨by rw [HTT.out], ?_⟩
     exact (Below.refl _ _).alloc (Nat.le_refl _) _
theorem pv_inj {s t : ByteArray} (hs : DG s) (ht : DG t) {n : Nat} (h : pv s n = pv t n) : ∀ j, j < n → dgt s j = dgt t j := by
  intro j
  induction j using Nat.strongRecOn with
  | _ j ih =>
    intro hj
    rcases Nat.lt_trichotomy (dgt s j) (dgt t j) with c | c | c
    · have := pv_diff hs ht (i := j) (fun k hk => ih k hk (by omega)) c hj
      omega
    · exact c
    · have := pv_diff ht hs (i := j) (fun k hk => (ih k hk (by omega)).symm) c hj
      omega
theorem pv_low {s : ByteArray} (hs : DG s) (hf : dgt s 0 ≠ 48) : ∀ n, 10 ^ n ≤ pv s (n + 1)
  | 0 => by
    have := dgt_in hs 0
    show 1 ≤ 10 * pv s 0 + (dgt s 0 - 48)
    omega
  | n + 1 => by
    have ih := pv_low hs hf n
    show 10 ^ (n + 1) ≤ 10 * pv s (n + 1) + (dgt s (n + 1) - 48)
    rw [Nat.pow_succ]
    omega
theorem pv_noughts {s : ByteArray} {m : Nat} : ∀ k, (∀ i, m ≤ i → i < m + k → dgt s i = 48) → pv s (m + k) = pv s m * 10 ^ k
  | 0, _ => by simp
  | k + 1, h => by
    have ih := pv_noughts k (fun i a b => h i a (by omega))
    have e := h (m + k) (by omega) (by omega)
    show 10 * pv s (m + k) + (dgt s (m + k) - 48) = _
    have q : pv s m * 10 ^ (k + 1) = 10 * (pv s m * 10 ^ k) := by rw [Nat.pow_succ, ← Nat.mul_assoc, Nat.mul_comm]
    rw [ih, e, q]
    rfl
theorem pv_last {s : ByteArray} (hs : DG s) {n : Nat} (h0 : 0 < n) (h : dgt s (n - 1) ≠ 48) : pv s n % 10 ≠ 0 := by
 obtain ⟨k, rfl⟩ : ∃ k, n = k + 1 := ⟨n - 1, by omega⟩
 have d := dgt_in hs k
 have h' : dgt s k ≠ 48 := h
 show (10 * pv s k + (dgt s k - 48)) % 10 ≠ 0
 omega
structure NF (s : ByteArray) : Prop where
 pos : 0 < s.size
 dg : DG s
 first : dgt s 0 ≠ 48
 last : dgt s (s.size - 1) ≠ 48
theorem nf_same {s t : ByteArray} (hs : NF s) (ht : NF t) {k : Nat} (h : 10 * pv s s.size = pv t t.size * 10 ^ k) : k = 1 ∧ s = t := by
 have a := pv_last hs.dg hs.pos hs.last
 have b := pv_last ht.dg ht.pos ht.last
 have k1 : k = 1 := by
  rcases Nat.lt_trichotomy k 1 with c | c | c
  · exfalso
    obtain rfl : k = 0 := by omega
    simp at h
    omega
  · exact c
  · exfalso
    obtain ⟨j, rfl⟩ : ∃ j, k = j + 2 := ⟨k - 2, by omega⟩
    have e : pv t t.size * 10 ^ (j + 2) = 10 * (10 * (pv t t.size * 10 ^ j)) := by
     rw [Nat.pow_succ, Nat.pow_succ, ← Nat.mul_assoc, ← Nat.mul_assoc]; omega
    rw [e] at h
    omega
 refine ⟨k1, ?_⟩
 rw [k1, Nat.pow_one] at h
 have hv : pv s s.size = pv t t.size := by omega
 have sz : s.size = t.size := by
  have p1 := hs.pos
  have p2 := ht.pos
  have l1 := pv_low hs.dg hs.first (s.size - 1)
  have l2 := pv_low ht.dg ht.first (t.size - 1)
  rw [show s.size - 1 + 1 = s.size by omega] at l1
  rw [show t.size - 1 + 1 = t.size by omega] at l2
  have u1 := pv_bound hs.dg s.size
  have u2 := pv_bound ht.dg t.size
  rcases Nat.lt_trichotomy s.size t.size with c | c | c
  · have := Nat.pow_le_pow_right (n := 10) (by omega) (show s.size ≤ t.size - 1 by omega)
    omega
  · exact c
  · have := Nat.pow_le_pow_right (n := 10) (by omega) (show t.size ≤ s.size - 1 by omega)
    omega
 rw [← sz] at hv
 exact ba_ext sz (fun i hi => pv_inj hs.dg ht.dg hv i hi)
theorem vn_nf {s : ByteArray} {p : Int} (h : VN s p false) : NF s :=
 ⟨h.pos, h.dg, by rw [dgt_lt h.pos]; exact h.first, by rw [dgt_lt (by have := h.pos; omega)]; exact h.last.resolve_right (by simp)⟩
theorem nf_vn {s : ByteArray} (h : NF s) (hl : s.size ≤ 800) {p : Int} (h0 : -1099511627776 ≤ p) (h1 : p ≤ 1099511627776) : VN s p false :=
 ⟨h.pos, hl, h.dg, by rw [← dgt_lt h.pos]; exact h.first, Or.inl (by rw [← dgt_lt (by have := h.pos; omega)]; exact h.last), h0, h1⟩
def R0 : Nat := 1100
structure Dx (s : ByteArray) (p : Int) (X : Nat) : Prop where
 vd : VD s p false
 lo : (s.size : Int) ≤ p + (R0 : Int)
 vl : pv s s.size * 10 ^ (p + (R0 : Int) - (s.size : Int)).toNat = X
theorem Dx.vn {s : ByteArray} {p : Int} {X : Nat} (h : Dx s p X) (h0 : 0 < s.size) : VN s p false := h.vd.resolve_left (fun g => by have := g.1; omega)
theorem Dx.none {s : ByteArray} {p : Int} {X : Nat} (h : Dx s p X) (h0 : s.size = 0) : X = 0 ∧ p = 0 := by
 constructor
 · rw [← h.vl, h0]
   show 0 * _ = 0
   exact Nat.zero_mul _
 · rcases h.vd with g | g
   · exact g.2.1
   · have := g.pos; omega
theorem Dx.some {s : ByteArray} {p : Int} {X : Nat} (h : Dx s p X) (h0 : 0 < s.size) : 0 < p + (R0 : Int) ∧ 10 ^ (p + (R0 : Int) - 1).toNat ≤ X ∧ X < 10 ^ (p + (R0 : Int)).toNat := by
 have g := vn_nf (h.vn h0)
 have lo := h.lo
 have a := pv_low g.dg g.first (s.size - 1)
 rw [show s.size - 1 + 1 = s.size by omega] at a
 have b := pv_bound g.dg s.size
 refine ⟨by omega, ?_, ?_⟩
 · rw [← h.vl, show (p + (R0 : Int) - 1).toNat = (s.size - 1) + (p + (R0 : Int) - (s.size : Int)).toNat by omega, Nat.pow_add]
   exact Nat.mul_le_mul_right _ a
 · rw [← h.vl, show (p + (R0 : Int)).toNat = s.size + (p + (R0 : Int) - (s.size : Int)).toNat by omega, Nat.pow_add]
   exact Nat.mul_lt_mul_of_pos_right b (Nat.pow_pos (by omega))
theorem Dx.pos {s : ByteArray} {p : Int} {X : Nat} (h : Dx s p X) : 0 < s.size ↔ 0 < X := by
 constructor
 · intro h0
   exact Nat.lt_of_lt_of_le (Nat.pow_pos (by omega)) (h.some h0).2.1
 · intro h0
   rcases Nat.eq_zero_or_pos s.size with z | z
   · have := (h.none z).1; omega
   · exact z
theorem nf_pow {s t : ByteArray} (hs : NF s) (ht : NF t) {a b : Nat} (h : pv s s.size * 10 ^ a = pv t t.size * 10 ^ b) (hab : a ≤ b) : a = b ∧ s = t := by
 obtain ⟨k, rfl⟩ : ∃ k, b = a + k := ⟨b - a, by omega⟩
 have e : pv s s.size = pv t t.size * 10 ^ k := by
  rw [Nat.pow_add, Nat.mul_comm (10 ^ a), ← Nat.mul_assoc] at h
  exact Nat.eq_of_mul_eq_mul_right (Nat.pow_pos (by omega)) h
 obtain ⟨z, r⟩ := nf_same hs ht (k := k + 1) (by rw [e, Nat.pow_succ, Nat.mul_comm 10, Nat.mul_assoc])
 exact ⟨by omega, r⟩
theorem Dx.uniq {s : ByteArray} {p : Int} {X : Nat} {t : ByteArray} {q : Int} (a : Dx s p X) (b : Dx t q X) : s = t ∧ p = q := by
 rcases Nat.eq_zero_or_pos X with z | z
 · have s0 : s.size = 0 := by have := a.pos; omega
   have t0 : t.size = 0 := by have := b.pos; omega
   exact ⟨by rw [size_zero s0, size_zero t0], by rw [(a.none s0).2, (b.none t0).2]⟩
 · have s0 := a.pos.2 z
   have t0 := b.pos.2 z
   have la := a.lo
   have lb := b.lo
   have na := vn_nf (a.vn s0)
   have nb := vn_nf (b.vn t0)
   have e := a.vl.trans b.vl.symm
   rcases Nat.le_total (p + (R0 : Int) - (s.size : Int)).toNat (q + (R0 : Int) - (t.size : Int)).toNat with c | c
   · obtain ⟨e1, e2⟩ := nf_pow na nb e c
     subst e2
     exact ⟨rfl, by omega⟩
   · obtain ⟨e1, e2⟩ := nf_pow nb na e.symm c
     subst e2
     exact ⟨rfl, by omega⟩
theorem dx_nought : Dx ⟨#[]⟩ 0 0 := ⟨Or.inl ⟨rfl, rfl, rfl⟩, by show ((0 : Nat) : Int) ≤ 0 + (R0 : Int); omega, by rw [show pv ⟨#[]⟩ (⟨#[]⟩ : ByteArray).size = 0 from rfl, Nat.zero_mul]⟩
def fv (m : Nat) (e : Int) : Nat := m * 2 ^ (e + (R0 : Int)).toNat * 5 ^ R0
theorem fv_pos {m : Nat} {e : Int} (h : 0 < m) : 0 < fv m e := Nat.mul_pos (Nat.mul_pos h (Nat.pow_pos (by omega))) (Nat.pow_pos (by omega))
theorem fv_zero {e : Int} : fv 0 e = 0 := by unfold fv; rw [Nat.zero_mul, Nat.zero_mul]
theorem four_a (m a b c : Nat) : m * (a * b) * c = m * a * (b * c) := by ac_rfl
theorem four_b (m a b c : Nat) : m * a * (b * c) = m * b * (a * c) := by ac_rfl
theorem fv_neg {m k : Nat} (h : k ≤ R0) : fv m (-(k : Int)) = m * 5 ^ k * 10 ^ (R0 - k) := by
 unfold fv
 rw [show (-(k : Int) + (R0 : Int)).toNat = R0 - k by omega, show (10 : Nat) = 2 * 5 from rfl, Nat.mul_pow]
 have e : 5 ^ R0 = 5 ^ k * 5 ^ (R0 - k) := by rw [← Nat.pow_add]; congr 1; omega
 rw [e]
 exact four_b _ _ _ _
theorem fv_nat {m k : Nat} : fv m (k : Int) = m * 2 ^ k * 10 ^ R0 := by
 unfold fv
 rw [show ((k : Int) + (R0 : Int)).toNat = k + R0 by omega, show (10 : Nat) = 2 * 5 from rfl, Nat.mul_pow, Nat.pow_add]
 exact four_a _ _ _ _
structure Tx (X : Nat) (t : ByteArray) : Prop where
 lt : X < 10 ^ t.size
 lo : 0 < t.size → 10 ^ (t.size - 1) ≤ X
 dg : DG t
 vl : pv t t.size = X
def nxV (s : ByteArray) (p : Int) : Nat → Value
 | 0 => dcV ⟨#[49]⟩ (p + 1) false
 | m + 1 => dcV (upS s (m + 1)) p false
theorem nxV_pos {s : ByteArray} {p : Int} {m : Nat} (h : 0 < m) : nxV s p m = dcV (upS s m) p false := by
 obtain ⟨k, rfl⟩ : ∃ k, m = k + 1 := ⟨m - 1, by omega⟩
 rfl
theorem next_dig {s : ByteArray} {p : Int} {c : Bool} (h0 : 0 < s.size) (hs : s.size ≤ 800) (ds : DG s) (hp : -1099511627776 ≤ p) (hp' : p ≤ 1099511627776) {m : Nat} (hm : m ≤ s.size) (h9 : ∀ j, m ≤ j → j < s.size → dgt s j = 57) (hm1 : 0 < m → dgt s (m - 1) ≠ 57) (w : World) :
 Calls Tryz.prog 84 #[dcV s p c] w fun e w' => e = .returned (nxV s p m) ∧ Below w.heap.size w w' := by
 obtain ⟨W1, C, hcv, hC, hC', N1, R1⟩ := next_bytes w s p c hs
 have HN1 : Hid (NxW w W1 p) := N1
 have HR1 : Hid (BRow W1 (w.heap.size + 1 + 1) s.size (dgt s)) := R1
 have H9 : Hid (∀ j, m ≤ j → j < s.size → dgt s j = 57) := h9
 have HM : Hid (0 < m → dgt s (m - 1) ≠ 57) := hm1
 have HD : Hid (DG s) := ds
 obtain ⟨n, hn⟩ : ∃ n, n = s.size := ⟨_, rfl⟩
 have Hn : Hid (n = s.size) := hn
 rw [← hn] at hcv hs h0 hm hC HR1 H9
 have wp : IntKind.i64.wrap (p + 1) = p + 1 := by
  unfold IntKind.wrap
  simp [IntKind.bits, IntKind.signed]
  omega
 clear hn N1 R1 h9 hm1 ds
 unfold dcV
 go_enter Tryz.func84, Tryz.ntmps84
 go_wp2
 go_loopw [4] (fun iv wr => ∃ (k : Nat) (F : Nat → Nat), iv = .int .i64 ((k : Int) - 1) ∧ m ≤ k ∧ k ≤ n ∧ Hid (NxW w wr p) ∧ Hid (BRow wr (w.heap.size + 1 + 1) n F) ∧ Hid ((∀ j, j < k → F j = dgt s j) ∧ (∀ j, k ≤ j → j < n → F j = 48))) (fun iv _ => (intOf iv + 1).toNat)
 case atStart => exact ⟨n, dgt s, rfl, hm, Nat.le_refl _, HN1, HR1, fun _ _ => rfl, fun j a b => absurd a (by omega)⟩
 case round =>
  obtain ⟨k, F, rfl, hmk, hkn, HN, HR, HF⟩ := hrel
  clear HN1 HR1 hcv
  by_cases c1 : m < k
  · have ix : ((k : Int) - 1).toNat = k - 1 := by omega
    have hc := HR.out.cell (k - 1) (by omega)
    have hf := HR.out.fr (k - 1) (by omega)
    have e9 : F (k - 1) = 57 := (HF.out.1 (k - 1) (by omega)).trans (H9.out (k - 1) (by omega) (by omega))
    rw [e9] at hc
    clear e9
    go_wp2
    go_roundw
    case rel =>
     refine ⟨k - 1, putF F (k - 1) 48, by go_num, by omega, by omega, HN.out.set _ _, HR.out.set (by omega) 48, fun j hj => ?_, fun j a b => ?_⟩
     · unfold putF; rw [if_neg (by omega)]; exact HF.out.1 j (by omega)
     · unfold putF
       by_cases z : j = k - 1
       · rw [if_pos z]
       · rw [if_neg z]; exact HF.out.2 j (by omega) b
    case measure => simp [intOf]; omega
  · obtain rfl : k = m := by omega
    obtain ⟨_, _, a1, r0, r1, r2, fr⟩ := HN.out
    by_cases c2 : k = 0
    · subst c2
      go_wp2
      refine bodyPost_ret (v := .agg #[.string ⟨#[49]⟩, .int .i64 (p + 1), .bool false]) (by simp [results, Tryz.results84, go_sem, *]) rfl ⟨rfl, ?_⟩
      exact (((HN.out.bel.setCell (by simp) _).setCell (by simp) _).setCell (by simp) _)
    · have ix : ((k : Int) - 1).toNat = k - 1 := by omega
      have hc := HR.out.cell (k - 1) (by omega)
      have hf := HR.out.fr (k - 1) (by omega)
      obtain ⟨x, hx⟩ : ∃ x, x = dgt s (k - 1) := ⟨_, rfl⟩
      have x1 := dgt_in HD.out (k - 1)
      have x2 := HM.out (by omega)
      rw [HF.out.1 (k - 1) (by omega), ← hx] at hc
      rw [← hx] at x1 x2
      have HX : Hid (x = dgt s (k - 1)) := hx
      have e9 : ((x : Int) == 57) = false := beq_eq_false_iff_ne.mpr (by omega)
      have wx : IntKind.u8.wrap ((x : Int) + 1) = ((x + 1 : Nat) : Int) := by
       unfold IntKind.wrap
       simp [IntKind.bits, IntKind.signed]
       omega
      have n0 : ¬ (k : Int) - 1 < 0 := by omega
      have n1 : (0 : Int) ≤ (k : Int) - 1 := by omega
      clear hx a1 r0 r1 r2 fr
      go_wp2
      go_loopw [5] (fun nv w2 => ∃ z : Nat, nv = .int .i64 (z : Int) ∧ k ≤ z ∧ z ≤ n ∧ Hid (NxW w w2 p) ∧ Hid (BRow w2 (w.heap.size + 1 + 1) n (putF F (k - 1) (x + 1)))) (fun nv _ => (intOf nv).toNat)
      case atStart => exact ⟨n, rfl, hkn, Nat.le_refl _, HN.out.set _ _, HR.out.set (by omega) (x + 1)⟩
      case round =>
       obtain ⟨z, rfl, hkz, hzn, HN2, HR2⟩ := hrel
       clear hc hf
       have iz : ((z : Int) - 1).toNat = z - 1 := by omega
       have hc := HR2.out.cell (z - 1) (by omega)
       by_cases c3 : k < z
       · have e0 : putF F (k - 1) (x + 1) (z - 1) = 48 := by unfold putF; rw [if_neg (by omega)]; exact HF.out.2 (z - 1) (by omega) (by omega)
         rw [e0] at hc
         clear e0
         go_wp2
         go_roundw
         case rel => exact ⟨z - 1, by go_num, by omega, by omega, HN2, HR2⟩
         case measure => simp [intOf]; omega
       · obtain rfl : z = k := by omega
         have e0 : putF F (z - 1) (x + 1) (z - 1) = x + 1 := by unfold putF; rw [if_pos rfl]
         rw [e0] at hc
         have e1 : (((x + 1 : Nat) : Int) == 48) = false := beq_eq_false_iff_ne.mpr (by omega)
         have hz : z ≤ C := by omega
         obtain ⟨u, hu⟩ : ∃ u, u = strOfNums ((List.range z).map fun i => (putF F (z - 1) (x + 1) i : Int)) := ⟨_, rfl⟩
         have hG : ∀ i, i < z → putF F (z - 1) (x + 1) i < 256 := fun i hi => by
          unfold putF
          split
          · omega
          · rw [HF.out.1 i hi]; have := dgt_in HD.out i; omega
         have hU := nums_dgt (putF F (z - 1) (x + 1)) z hG
         rw [← hu] at hU
         have hcv : (Go.convert 115 9 (.slice (some ⟨w.heap.size + 1 + 1, 0, none⟩) z C)).run Tryz.prog wr.drew = .ok (.string u) wr.drew := by
          rw [hu]
          refine run_convert_bytes_arg wr.drew 115 5 und_bytes48 und_u8b (w.heap.size + 1 + 1) 0 z C _ (by simp) ?_ 9 und_str9b
          intro i hi
          have q := HR2.out.drew.cell i (by omega)
          rw [Nat.zero_add, q]
          simp [List.getD_eq_getElem?_getD, hi]
         have HU : Hid (u.size = z ∧ ∀ i, i < z → dgt u i = putF F (z - 1) (x + 1) i) := hU
         clear hU hG hu e0
         obtain ⟨_, _, a1, r0, r1, r2, fr⟩ := HN2.out
         go_wp2
         go_region
         all_goals
          go_wp2
          refine bodyPost_ret (v := .agg #[.string u, .int .i64 p, .bool false]) (by simp [results, Tryz.results84, go_sem, *]) rfl ⟨?_, ?_⟩
          · obtain ⟨us, ud⟩ := HU.out
            have hx := HX.out
            have hn := Hn.out
            have us' := upS_size (s := s) (m := z) (by omega) (by omega)
            obtain ⟨u1, u2⟩ := upS_dgt HD.out (m := z) (by omega) (by omega)
            have e : u = upS s z := by
             refine ba_ext (by omega) (fun i hi => ?_)
             rw [ud i (by omega)]
             unfold putF
             by_cases y : i = z - 1
             · rw [if_pos y, y, u2, hx]
             · rw [if_neg y, HF.out.1 i (by omega), u1 i (by omega)]
            rw [e, nxV_pos (by omega)]
            rfl
          · exact (((HN2.out.drew.bel.setCell (by simp) _).setCell (by simp) _).setCell (by simp) _)
theorem dg_one : DG ⟨#[49]⟩ := by
 intro k h
 have hk : k < 1 := h
 obtain rfl : k = 0 := by omega
 exact ⟨by decide +revert, by decide +revert⟩
theorem pre_dg {s : ByteArray} (hd : DG s) {k : Nat} (hk : k ≤ s.size) : DG (s.extract 0 k) := by
 intro i h
 have z := pre_size hk
 rw [← dgt_lt h, pre_dgt hk (by omega)]
 exact dgt_in hd i
theorem upS_pre {s : ByteArray} {k m : Nat} (hk : k ≤ s.size) (h0 : 0 < m) (hm : m ≤ k) : upS (s.extract 0 k) m = upS s m := by
 unfold upS
 rw [pre_pre (by omega), pre_dgt hk (by omega)]
theorem OneR.set {w W : World} {s : ByteArray} {p : Int} {c : Bool} (h : OneR w W s p c) (i : Nat) (v : Value) : OneR w (W.setCell ⟨w.heap.size + 1 + 1, i, none⟩ v) s p c := by
 have k : ∀ b o, b < w.heap.size + 1 + 1 → (W.setCell ⟨w.heap.size + 1 + 1, i, none⟩ v).cell? ⟨b, o, none⟩ = W.cell? ⟨b, o, none⟩ := fun b o hb => World.cell?_setCell_other W ⟨w.heap.size + 1 + 1, i, none⟩ ⟨b, o, none⟩ v (by intro q; injection q with q _ _; omega)
 exact ⟨by rw [World.size_setCell]; exact h.sz, h.bel.setCell (by show w.heap.size ≤ w.heap.size + 1 + 1; omega) v, (k _ _ (by omega)).trans h.a0, (k _ _ (by omega)).trans h.a1, (k _ _ (by omega)).trans h.a2, (k _ _ (by omega)).trans h.r0, (k _ _ (by omega)).trans h.r1, (k _ _ (by omega)).trans h.r2, fun o => by rw [World.frozen?_setCell]; exact h.fr o⟩
theorem made_dn {s : ByteArray} {p : Int} {c : Bool} (hl : s.size ≤ 800) (hd : DG s) (hf : dgt s 0 ≠ 48) {k m : Nat} (k0 : 0 < k) (hk : k ≤ s.size) (hm : m ≤ k) (m0 : 0 < m) (h1 : ∀ i, m ≤ i → i < k → dgt s i = 48) (h2 : dgt s (m - 1) ≠ 48) (hp : -1099511627776 ≤ p) (hp' : p ≤ 1099511627776) (w : World) :
 Calls Tryz.prog 42 #[dcV s p c, .int .i64 k, .bool false] w fun e w' => e = .returned (.tuple #[dcV (s.extract 0 m) p false, .int .i64 0]) ∧ Below w.heap.size w w' := by
 have zk := pre_size hk
 have R := fun W => rmake_ok (s := s.extract 0 k) (p := p) (m := m) (by omega) (by omega) (pre_dg hd hk) (by rw [pre_dgt hk k0]; exact hf) (by omega) m0 (fun i a b => by rw [pre_dgt hk (by omega)]; exact h1 i a (by omega)) (by rw [pre_dgt hk (by omega)]; exact h2) hp hp' W
 rw [pre_pre hm] at R
 obtain ⟨t, ht⟩ : ∃ t, t = s.extract 0 m := ⟨_, rfl⟩
 rw [← ht] at R ⊢
 have R0 := OneR.start w s p c
 have kz : ((k : Int) == 0) = false := beq_eq_false_iff_ne.mpr (by omega)
 clear h1 h2 hd hf ht
 unfold dcV at *
 go_enter Tryz.func42, Tryz.ntmps42
 go_wp2
 go_region
 all_goals
  go_wp2_with fail
  refine (R _).mono ?_
  rintro e w1 ⟨rfl, hb⟩
  have HT : Hid (OneR w w1 s p c) := (R0.step (((Below.refl _ _).alloc (Nat.le_refl _) _).drew)).step hb
  clear hb R0
  obtain ⟨_, _, a0, a1, a2, r0, r1, r2, fr⟩ := HT.out
  go_wp2
  refine bodyPost_ret (v := .tuple #[.agg #[.string t, .int .i64 p, .bool false], .int .i64 0]) (by simp [results, Tryz.results42, go_sem, *]) rfl ⟨rfl, ?_⟩
  exact (((HT.out.bel.setCell (by simp) _).setCell (by simp) _).setCell (by simp) _)
theorem made_up {s : ByteArray} {p : Int} {c : Bool} (hl : s.size ≤ 800) (hd : DG s) (hf : dgt s 0 ≠ 48) {k m : Nat} (k0 : 0 < k) (hk : k ≤ s.size) (hm : m ≤ k) (m0 : 0 < m) (h1 : ∀ i, m ≤ i → i < k → dgt s i = 57) (h2 : dgt s (m - 1) ≠ 57) (hp : -1099511627776 ≤ p) (hp' : p ≤ 1099511627776) (w : World) :
 Calls Tryz.prog 42 #[dcV s p c, .int .i64 k, .bool true] w fun e w' => e = .returned (.tuple #[dcV (upS s m) p false, .int .i64 0]) ∧ Below w.heap.size w w' := by
 have zk := pre_size hk
 have N := fun W => next_dig (s := s.extract 0 k) (p := p) (c := false) (by omega) (by omega) (pre_dg hd hk) hp hp' (m := m) (by omega) (fun i a b => by rw [pre_dgt hk (by omega)]; exact h1 i a (by omega)) (fun _ => by rw [pre_dgt hk (by omega)]; exact h2) W
 rw [nxV_pos m0, upS_pre hk m0 hm] at N
 have us := upS_size (s := s) (m := m) m0 (by omega)
 obtain ⟨u1, u2⟩ := upS_dgt hd (m := m) m0 (by omega)
 have xd := dgt_in hd (m - 1)
 have R := fun W => rmake_ok (s := upS s m) (p := p) (m := m) (by omega) (by omega) (fun i h => by
  rw [← dgt_lt h]
  by_cases z : i = m - 1
  · rw [z, u2]; omega
  · rw [u1 i (by omega)]; exact dgt_in hd i) (by
    by_cases z : 0 = m - 1
    · have u3 := u2; rw [← z] at u3; have x0 := dgt_in hd 0; omega
    · rw [u1 0 (by omega)]; exact hf) (by omega) m0 (fun i a b => absurd a (by omega)) (by omega) hp hp' W
 have ee : (upS s m).extract 0 m = upS s m := by
  have := ext_zero (upS s m)
  rw [us] at this
  exact this
 rw [ee] at R
 obtain ⟨t, ht⟩ : ∃ t, t = upS s m := ⟨_, rfl⟩
 rw [← ht] at R N ⊢
 have R0 := OneR.start w s p c
 have kz : ((k : Int) == 0) = false := beq_eq_false_iff_ne.mpr (by omega)
 clear h1 h2 hd hf ht us u1 u2 ee
 unfold dcV at *
 go_enter Tryz.func42, Tryz.ntmps42
 go_wp2
 go_region
 all_goals
  go_wp2_with fail
  refine (N _).mono ?_
  rintro e w1 ⟨rfl, hb⟩
  have HT : Hid (OneR w w1 s p c) := (R0.step (((Below.refl _ _).alloc (Nat.le_refl _) _).drew)).step hb
  obtain ⟨_, _, a0, a1, a2, r0, r1, r2, fr⟩ := HT.out
  have sz1 : w.heap.size + 3 ≤ w1.heap.size := by have := hb.size; simp at this; omega
  have xc := fun o => hb.cell (p := ⟨w.heap.size + 1 + 1, o, none⟩) (by simp)
  have xf := fun o => hb.frozen (p := ⟨w.heap.size + 1 + 1, o, none⟩) (by simp)
  clear hb R0
  simp at xc xf
  go_wp2_with fail
  refine (R _).mono ?_
  rintro e w2 ⟨rfl, hb2⟩
  have HT2 : Hid (OneR w w2 s p c) := (((HT.out.set _ _).set _ _).set _ _).step hb2
  clear hb2 a0 a1 a2 r0 r1 r2 fr
  obtain ⟨_, _, a0, a1, a2, r0, r1, r2, fr⟩ := HT2.out
  go_wp2
  refine bodyPost_ret (v := .tuple #[.agg #[.string t, .int .i64 p, .bool false], .int .i64 0]) (by simp [results, Tryz.results42, go_sem, *]) rfl ⟨rfl, ?_⟩
  exact (((HT2.out.bel.setCell (by simp) _).setCell (by simp) _).setCell (by simp) _)
theorem made_un {s : ByteArray} {p : Int} {c : Bool} (hl : s.size ≤ 800) (hd : DG s) {k : Nat} (k0 : 0 < k) (hk : k ≤ s.size) (h1 : ∀ i, i < k → dgt s i = 57) (hp : -1099511627776 ≤ p) (hp' : p < 1099511627776) (w : World) :
 Calls Tryz.prog 42 #[dcV s p c, .int .i64 k, .bool true] w fun e w' => e = .returned (.tuple #[dcV ⟨#[49]⟩ (p + 1) false, .int .i64 0]) ∧ Below w.heap.size w w' := by
 have zk := pre_size hk
 have N := fun W => next_dig (s := s.extract 0 k) (p := p) (c := false) (by omega) (by omega) (pre_dg hd hk) hp (by omega) (m := 0) (by omega) (fun i a b => by rw [pre_dgt hk (by omega)]; exact h1 i (by omega)) (fun q => absurd q (by omega)) W
 have nz : nxV (s.extract 0 k) p 0 = dcV ⟨#[49]⟩ (p + 1) false := rfl
 rw [nz] at N
 have R := fun W => rmake_ok (s := ⟨#[49]⟩) (p := p + 1) (m := 1) (by decide) (by decide) dg_one (by decide) (by decide) (by decide) (fun i a b => absurd a (by have : i < 1 := b; omega)) (by decide) (by omega) (by omega) W
 have e1 : (⟨#[49]⟩ : ByteArray).extract 0 1 = ⟨#[49]⟩ := by decide
 rw [e1] at R
 clear e1 nz
 have R0 := OneR.start w s p c
 have kz : ((k : Int) == 0) = false := beq_eq_false_iff_ne.mpr (by omega)
 clear h1 hd
 unfold dcV at *
 go_enter Tryz.func42, Tryz.ntmps42
 go_wp2
 go_region
 all_goals
  go_wp2_with fail
  refine (N _).mono ?_
  rintro e w1 ⟨rfl, hb⟩
  have HT : Hid (OneR w w1 s p c) := (R0.step (((Below.refl _ _).alloc (Nat.le_refl _) _).drew)).step hb
  obtain ⟨_, _, a0, a1, a2, r0, r1, r2, fr⟩ := HT.out
  have sz1 : w.heap.size + 3 ≤ w1.heap.size := by have := hb.size; simp at this; omega
  have xc := fun o => hb.cell (p := ⟨w.heap.size + 1 + 1, o, none⟩) (by simp)
  have xf := fun o => hb.frozen (p := ⟨w.heap.size + 1 + 1, o, none⟩) (by simp)
  clear hb R0
  simp at xc xf
  go_wp2_with fail
  refine (R _).mono ?_
  rintro e w2 ⟨rfl, hb2⟩
  have HT2 : Hid (OneR w w2 s p c) := (((HT.out.set _ _).set _ _).set _ _).step hb2
  clear hb2 a0 a1 a2 r0 r1 r2 fr
  obtain ⟨_, _, a0, a1, a2, r0, r1, r2, fr⟩ := HT2.out
  go_wp2
  refine bodyPost_ret (v := .tuple #[.agg #[.string ⟨#[49]⟩, .int .i64 (p + 1), .bool false], .int .i64 0]) (by simp [results, Tryz.results42, go_sem, *]) rfl ⟨rfl, ?_⟩
  exact (((HT2.out.bel.setCell (by simp) _).setCell (by simp) _).setCell (by simp) _)
def inR (p : Int) (z : Nat) : Prop := (z : Int) - 1099511627776 ≤ p ∧ p ≤ 1099511627776 + (z : Int)
theorem rmake_zero {t : ByteArray} {p : Int} (hl : t.size ≤ 801) (hd : DG t) {z : Nat} (hz : z = t.size) (hz1 : ∀ i, i < z → dgt t i = 48) (w : World) :
 Calls Tryz.prog 79 #[.string t, .int .i64 p, .bool false] w fun e w' => e = .returned (.tuple #[dcV ⟨#[]⟩ 0 false, .int .i64 0]) ∧ Below w.heap.size w w' := by
 unfold dcV
 have D := fun W => rdig_yes t (by omega) hd W
 have HZ : Hid (∀ i, i < z → dgt t i = 48) := hz1
 go_enter Tryz.func79, Tryz.ntmps79
 go_wp2_with fail
 refine (D _).mono ?_
 rintro e w0 ⟨rfl, rfl⟩
 go_wp2
 go_loop [8] (fun iv => ∃ k : Nat, iv = .int .i64 (k : Int) ∧ k ≤ z) (fun iv => z - (intOf iv).toNat)
 case atStart => exact ⟨0, rfl, Nat.zero_le _⟩
 case round =>
  obtain ⟨k, rfl, hk⟩ := hrel
  by_cases c0 : k < z
  · have hks : k < t.size := by omega
    have x0 : ((((t[k]'hks).toNat : Nat) : Int) == 48) = true := beq_iff_eq.mpr (by have := HZ.out k c0; rw [dgt_lt hks] at this; omega)
    have i0 : (k : Int) < (t.size : Int) := by omega
    have i1 : (0 : Int) ≤ (k : Int) := by omega
    have wk : IntKind.i64.wrap ((k : Int) + 1) = (k : Int) + 1 := by
     unfold IntKind.wrap
     simp [IntKind.bits, IntKind.signed]
     omega
    go_wp2
    go_round
    case rel => exact ⟨k + 1, by go_num, by omega⟩
    case measure => simp [intOf] <;> omega
  · obtain rfl : z = k := by omega
    have i0 : ¬ (z : Int) < (t.size : Int) := by omega
    have u0 : t.extract z t.size = ⟨#[]⟩ := by
     have e := ext_size (s := t) (k := z) (by omega)
     apply size_zero
     omega
    have i2 : (z : Int) ≤ (t.size : Int) := by omega
    have i3 : (0 : Int) ≤ (z : Int) := by omega
    go_wp2
    go_loop [0] (fun v => v = .string ⟨#[]⟩) (fun _ => 0)
    case atStart => rfl
    case round =>
     subst hrel
     go_wp2
     refine bodyPost_ret (v := .tuple #[.agg #[.string ⟨#[]⟩, .int .i64 0, .bool false], .int .i64 0]) (by simp [results, Tryz.results79, go_sem]) rfl ⟨rfl, ?_⟩
     exact (Below.refl _ _).alloc (Nat.le_refl _) _
theorem rmake_in {t : ByteArray} {p : Int} (hl : t.size ≤ 801) (hd : DG t) {z : Nat} (hz : z < t.size) (hz1 : ∀ i, i < z → dgt t i = 48) (hz2 : dgt t z ≠ 48) {u : ByteArray} (hu : t.extract z t.size = u) (hl8 : u.size ≤ 800)
 {m : Nat} (hm : m ≤ u.size) (m0 : 0 < m) (h1 : ∀ i, m ≤ i → i < u.size → dgt u i = 48) (h2 : dgt u (m - 1) ≠ 48) (hp0 : -1099511627776 ≤ p) (hp9 : p ≤ 2199023255552) (hr : inR p z) (w : World) :
 Calls Tryz.prog 79 #[.string t, .int .i64 p, .bool false] w fun e w' => e = .returned (.tuple #[dcV (u.extract 0 m) (p - (z : Int)) false, .int .i64 0]) ∧ Below w.heap.size w w' := by
 have H1 : Hid (∀ i, m ≤ i → i < u.size → dgt u i = 48) := h1
 have H2 : Hid (dgt u (m - 1) ≠ 48) := h2
 have HZ2 : Hid (dgt t z ≠ 48) := hz2
 have HR : Hid (inR p z) := hr
 have uz : u.size = t.size - z := by rw [← hu]; exact ext_size (by omega)
 clear h1 h2 hz2 hr
 unfold dcV
 have D := fun W => rdig_yes t (by omega) hd W
 have HZ : Hid (∀ i, i < z → dgt t i = 48) := hz1
 go_enter Tryz.func79, Tryz.ntmps79
 go_wp2_with fail
 refine (D _).mono ?_
 rintro e w0 ⟨rfl, rfl⟩
 go_wp2
 go_loop [8] (fun iv => ∃ k : Nat, iv = .int .i64 (k : Int) ∧ k ≤ z) (fun iv => z - (intOf iv).toNat)
 case atStart => exact ⟨0, rfl, Nat.zero_le _⟩
 case round =>
  obtain ⟨k, rfl, hk⟩ := hrel
  by_cases c0 : k < z
  · have hks : k < t.size := by omega
    have x0 : ((((t[k]'hks).toNat : Nat) : Int) == 48) = true := beq_iff_eq.mpr (by have := HZ.out k c0; rw [dgt_lt hks] at this; omega)
    have i0 : (k : Int) < (t.size : Int) := by omega
    have i1 : (0 : Int) ≤ (k : Int) := by omega
    have wk : IntKind.i64.wrap ((k : Int) + 1) = (k : Int) + 1 := by
     unfold IntKind.wrap
     simp [IntKind.bits, IntKind.signed]
     omega
    go_wp2
    go_round
    case rel => exact ⟨k + 1, by go_num, by omega⟩
    case measure => simp [intOf] <;> omega
  · obtain rfl : z = k := by omega
    have x0 : ((((t[z]'hz).toNat : Nat) : Int) == 48) = false := beq_eq_false_iff_ne.mpr (by have := HZ2.out; rw [dgt_lt hz] at this; omega)
    have i0 : (z : Int) < (t.size : Int) := by omega
    have i1 : (0 : Int) ≤ (z : Int) := by omega
    have i2 : (z : Int) ≤ (t.size : Int) := by omega
    have l8 : ¬ (800 : Int) < (u.size : Int) := by omega
    have wz : IntKind.i64.wrap (1099511627776 + (z : Int)) = 1099511627776 + (z : Int) := by
     unfold IntKind.wrap
     simp [IntKind.bits, IntKind.signed]
     omega
    have wq : IntKind.i64.wrap (p - (z : Int)) = p - (z : Int) := by
     unfold IntKind.wrap
     simp [IntKind.bits, IntKind.signed]
     omega
    go_wp2
    go_loop [0] (fun v => ∃ k, v = .string (u.extract 0 k) ∧ m ≤ k ∧ k ≤ u.size) (fun v => textLen v)
    case atStart => exact ⟨u.size, by rw [ext_zero], hm, Nat.le_refl _⟩
    case round =>
     obtain ⟨k, rfl, hk1, hk2⟩ := hrel
     have sz := pre_size hk2
     by_cases c1 : m < k
     · obtain ⟨j, rfl⟩ : ∃ j, k = j + 1 := ⟨k - 1, by omega⟩
       have e0 := pre_get (s := u) hk2 (show j < j + 1 by omega)
       have e9 := H1.out j (by omega) (by omega)
       rw [dgt_lt (by omega)] at e9
       rw [e9] at e0
       clear e9
       have cut := pre_cut (s := u) (k := j)
       have HC : Hid ((u.extract 0 j).size = j) := pre_size (by omega)
       obtain ⟨T2, hT2⟩ : ∃ T, u.extract 0 j = T := ⟨_, rfl⟩
       obtain ⟨T, hT⟩ : ∃ T, u.extract 0 (j + 1) = T := ⟨_, rfl⟩
       rw [hT2] at cut
       rw [hT] at sz cut e0 ⊢
       have HT : Hid (u.extract 0 j = T2) := hT2
       have HSZ : Hid (T.size = j + 1) := sz
       have hpos : 0 < T.size := by omega
       have hbig : T.size ≤ 9223372036854775807 := by omega
       have ix : ((T.size : Int) - 1).toNat = j := by omega
       have ix2 : (T.size : Int) - 1 = (j : Int) := by omega
       have hj : j < T.size := by omega
       have e1 := e0 hj
       have hTj : (T.size : Int) = (j : Int) + 1 := by omega
       clear hT hT2 sz
       go_wp2
       go_round
       case rel => exact ⟨j, by rw [HT.out], by omega, by omega⟩
       case measure =>
        show T2.size < T.size
        have a := HC.out
        rw [HT.out] at a
        have b := HSZ.out
        omega
     · obtain rfl : k = m := by omega
       have e0 := pre_get (s := u) hk2 (show k - 1 < k by omega)
       have e9 := H2.out
       rw [dgt_lt (by omega)] at e9
       have cE : (((((u[k - 1]'(by omega)).toNat : Nat) : Int)) == 48) = false := beq_eq_false_iff_ne.mpr (by omega)
       obtain ⟨zc, hzc⟩ : ∃ zc, zc = (u[k - 1]'(by omega)).toNat := ⟨_, rfl⟩
       rw [← hzc] at e0 cE
       clear e9 hzc
       obtain ⟨T, hT⟩ : ∃ T, u.extract 0 k = T := ⟨_, rfl⟩
       rw [hT] at sz e0 ⊢
       have hj : k - 1 < T.size := by omega
       have e1 := e0 hj
       have ix : ((T.size : Int) - 1).toNat = k - 1 := by omega
       have ix3 : ((k : Int) - 1).toNat = k - 1 := by omega
       have hTj : (T.size : Int) = (k : Int) := by omega
       have hpos : 0 < T.size := by omega
       have tz : ((T.size : Int) == 0) = false := beq_eq_false_iff_ne.mpr (by omega)
       have HTT : Hid (u.extract 0 k = T) := hT
       clear hT
       have p1 : ¬ p < -1099511627776 := by omega
       have p2 : ¬ 1099511627776 + (z : Int) < p := by have := HR.out; unfold inR at this; omega
       have p3 : ¬ p - (z : Int) < -1099511627776 := by have := HR.out; unfold inR at this; omega
       go_wp2
       refine bodyPost_ret (v := .tuple #[.agg #[.string T, .int .i64 (p - (z : Int)), .bool false], .int .i64 0]) (by simp [results, Tryz.results79, go_sem]) rfl ⟨by rw [HTT.out], ?_⟩
       exact (Below.refl _ _).alloc (Nat.le_refl _) _
theorem dmake_zero {t : ByteArray} {p : Int} (h0 : 0 < t.size) (hl : t.size ≤ 801) (hd : DG t) (hz1 : ∀ i, i < t.size → dgt t i = 48) (w : World) :
 Calls Tryz.prog 56 #[.string t, .int .i64 p, .bool false] w fun e w' => e = .returned (.tuple #[dcV ⟨#[]⟩ 0 false, .nilIface]) ∧ Below w.heap.size w w' := by
 have D := fun W => areDig_yes t (by omega) hd W
 have T := fun W => trimLeft_any t (by omega) t.size (Nat.le_refl _) h0 (fun i h => by rw [← dgt_lt h]; exact hz1 i h) (fun h => by omega) W
 rw [show t.extract t.size t.size = ⟨#[]⟩ from size_zero (by rw [ByteArray.size_extract]; omega)] at T
 clear hz1 hd
 unfold dcV
 go_enter Tryz.func56, Tryz.ntmps56
 go_wp2_with fail
 refine (D _).mono ?_
 rintro e w0 ⟨rfl, rfl⟩
 go_wp2_with fail
 refine (T _).mono ?_
 rintro e w0 ⟨rfl, rfl⟩
 go_wp2
 refine bodyPost_ret (v := .tuple #[.agg #[.string ⟨#[]⟩, .int .i64 0, .bool false], .nilIface]) (by simp [results, Tryz.results56, go_sem]) rfl ⟨rfl, ?_⟩
 exact (Below.refl _ _).alloc (Nat.le_refl _) _
theorem dmake_in {t : ByteArray} {p : Int} (hl : t.size ≤ 801) (hd : DG t) {z : Nat} (hz : z < t.size) (hz1 : ∀ i, i < z → dgt t i = 48) (hz2 : dgt t z ≠ 48) {u : ByteArray} (hu : t.extract z t.size = u)
 {s2 : ByteArray} {c2 : Bool} (S : ∀ W, Calls Tryz.prog 58 #[.string u, .bool false] W fun e w' => e = .returned (.tuple #[.string s2, .bool c2]) ∧ Below W.heap.size W w') (hp0 : -1099511627776 ≤ p) (hp9 : p ≤ 2199023255552) (hr : inR p z) (w : World) :
 Calls Tryz.prog 56 #[.string t, .int .i64 p, .bool false] w fun e w' => e = .returned (.tuple #[dcV s2 (p - (z : Int)) c2, .nilIface]) ∧ Below w.heap.size w w' := by
 have D := fun W => areDig_yes t (by omega) hd W
 have T := fun W => trimLeft_any t (by omega) z (by omega) (by omega) (fun i h => by rw [← dgt_lt (by omega)]; exact hz1 i h) (fun h => by rw [← dgt_lt h]; exact hz2) W
 rw [hu] at T
 have uz : u.size = t.size - z := by rw [← hu]; exact ext_size (by omega)
 have hE := empty_false (s := u) (by omega)
 have e0 : IntKind.i64.wrap ((t.size : Int) - (u.size : Int)) = (z : Int) := by
  unfold IntKind.wrap
  simp [IntKind.bits, IntKind.signed]
  omega
 have E1 : IntKind.i64.wrap ((z : Int) - 1099511627776) = (z : Int) - 1099511627776 := by
  unfold IntKind.wrap
  simp [IntKind.bits, IntKind.signed]
  omega
 have E2 : IntKind.i64.wrap ((z : Int) + 1099511627776) = (z : Int) + 1099511627776 := by
  unfold IntKind.wrap
  simp [IntKind.bits, IntKind.signed]
  omega
 have E3 : IntKind.i64.wrap (p - (z : Int)) = p - (z : Int) := by
  unfold IntKind.wrap
  simp [IntKind.bits, IntKind.signed]
  omega
 obtain ⟨a, e1, ha⟩ : ∃ x : Int, IntKind.i64.wrap ((z : Int) - 1099511627776) = x ∧ x = (z : Int) - 1099511627776 := ⟨_, E1, rfl⟩
 obtain ⟨b, e2, hb'⟩ : ∃ x : Int, IntKind.i64.wrap ((z : Int) + 1099511627776) = x ∧ x = (z : Int) + 1099511627776 := ⟨_, E2, rfl⟩
 obtain ⟨q, e3, hq⟩ : ∃ x : Int, IntKind.i64.wrap (p - (z : Int)) = x ∧ x = p - (z : Int) := ⟨_, E3, rfl⟩
 clear E1 E2 E3
 have r1 : decide (p < a) = false := decide_eq_false (by unfold inR at hr; omega)
 have r2 : decide (b < p) = false := decide_eq_false (by unfold inR at hr; omega)
 rw [← hq]
 clear hz1 hz2 hd hu uz hl hz hp0 hp9 ha hb' hq hr
 unfold dcV
 go_enter Tryz.func56, Tryz.ntmps56
 go_wp2_with fail
 refine (D _).mono ?_
 rintro e w0 ⟨rfl, rfl⟩
 go_wp2_with fail
 refine (T _).mono ?_
 rintro e w0 ⟨rfl, rfl⟩
 go_wp2_with fail
 refine (S _).mono ?_
 rintro e w1 ⟨rfl, hb⟩
 have hs1 : w.heap.size < w1.heap.size := by have := hb.size; simp at this; omega
 obtain ⟨hc, hf⟩ : (∀ o, w1.cell? ⟨w.heap.size, o, none⟩ = (w.alloc (.cells #[.string ⟨#[]⟩, .int .i64 0, .bool false] 24)).cell? ⟨w.heap.size, o, none⟩) ∧ (∀ o, w1.frozen? ⟨w.heap.size, o, none⟩ = (w.alloc (.cells #[.string ⟨#[]⟩, .int .i64 0, .bool false] 24)).frozen? ⟨w.heap.size, o, none⟩) :=
  ⟨fun o => hb.cell (p := ⟨w.heap.size, o, none⟩) (by simp), fun o => hb.frozen (p := ⟨w.heap.size, o, none⟩) (by simp)⟩
 go_wp2
 refine bodyPost_ret (v := .tuple #[.agg #[.string s2, .int .i64 q, .bool c2], .nilIface]) (by simp [results, Tryz.results56, go_sem, hc]) rfl ⟨rfl, ?_⟩
 exact ((((((Below.refl _ _).alloc (Nat.le_refl _) _).trans (hb.mono (by simp))).setCell (Nat.le_refl _) _).setCell (Nat.le_refl _) _).setCell (Nat.le_refl _) _)
theorem ddown_ok {s : ByteArray} {p : Int} {c : Bool} {n : Int} {s2 : ByteArray} {p2 : Int} (h : MR s p c n (s.size : Int)) (B : (∀ W, Calls Tryz.prog 25 #[dcV s p c, .int .i64 n] W fun e w' => e = .returned (dcV s2 p2 false) ∧ Below W.heap.size W w')) (w : World) :
 Calls Tryz.prog 11 #[dcV s p c, .int .i64 n] w fun e w' => e = .returned (.tuple #[dcV s2 p2 false, .nilIface]) ∧ Below w.heap.size w w' := by
 have M := fun W => mayRound_yes h W
 unfold dcV at *
 go_enter Tryz.func11, Tryz.ntmps11
 go_wp2_with fail
 refine (M _).mono ?_
 rintro e w1 ⟨rfl, hb1⟩
 have HT1 : Hid (OneR w w1 s p c) := (OneR.start w s p c).step hb1
 clear hb1
 obtain ⟨_, _, a01, a11, a21, r01, r11, r21, fr1⟩ := HT1.out
 go_wp2_with fail
 refine (B _).mono ?_
 rintro e w2 ⟨rfl, hb2⟩
 have HT2 : Hid (OneR w w2 s p c) := HT1.out.step hb2
 clear hb2
 obtain ⟨_, _, a02, a12, a22, r02, r12, r22, fr2⟩ := HT2.out
 clear a01 a11 a21 r01 r11 r21 fr1
 go_wp2
 refine bodyPost_ret (v := .tuple #[.agg #[.string s2, .int .i64 p2, .bool false], .nilIface]) (by simp [results, Tryz.results11, go_sem, *]) rfl ⟨rfl, ?_⟩
 exact (((HT2.out.bel.setCell (by simp) _).setCell (by simp) _).setCell (by simp) _)
theorem dup_off {s : ByteArray} {p : Int} {c : Bool} {n : Int} {s2 : ByteArray} {p2 : Int} (h : MR s p c n (s.size : Int)) (ho : onB s c n = false) (B : (∀ W, Calls Tryz.prog 25 #[dcV s p c, .int .i64 n] W fun e w' => e = .returned (dcV s2 p2 false) ∧ Below W.heap.size W w')) (w : World) :
 Calls Tryz.prog 12 #[dcV s p c, .int .i64 n] w fun e w' => e = .returned (.tuple #[dcV s2 p2 false, .nilIface]) ∧ Below w.heap.size w w' := by
 have M := fun W => mayRound_yes h W
 have GG := fun W => goesOn_any s p c n W
 rw [ho] at GG
 unfold dcV at *
 go_enter Tryz.func12, Tryz.ntmps12
 go_wp2_with fail
 refine (M _).mono ?_
 rintro e w1 ⟨rfl, hb1⟩
 have HT1 : Hid (OneR w w1 s p c) := (OneR.start w s p c).step hb1
 clear hb1
 obtain ⟨_, _, a01, a11, a21, r01, r11, r21, fr1⟩ := HT1.out
 go_wp2_with fail
 refine (GG _).mono ?_
 rintro e w2 ⟨rfl, hb2⟩
 have HT2 : Hid (OneR w w2 s p c) := HT1.out.step hb2
 clear hb2
 obtain ⟨_, _, a02, a12, a22, r02, r12, r22, fr2⟩ := HT2.out
 clear a01 a11 a21 r01 r11 r21 fr1
 go_wp2_with fail
 refine (B _).mono ?_
 rintro e w3 ⟨rfl, hb3⟩
 have HT3 : Hid (OneR w w3 s p c) := HT2.out.step hb3
 clear hb3
 obtain ⟨_, _, a03, a13, a23, r03, r13, r23, fr3⟩ := HT3.out
 clear a02 a12 a22 r02 r12 r22 fr2
 go_wp2
 refine bodyPost_ret (v := .tuple #[.agg #[.string s2, .int .i64 p2, .bool false], .nilIface]) (by simp [results, Tryz.results12, go_sem, *]) rfl ⟨rfl, ?_⟩
 exact (((HT3.out.bel.setCell (by simp) _).setCell (by simp) _).setCell (by simp) _)
theorem dup_on {s : ByteArray} {p : Int} {c : Bool} {n : Int} {s2 : ByteArray} {p2 : Int} {E : Value} (h : MR s p c n (s.size : Int)) (ho : onB s c n = true) (A : (∀ W, Calls Tryz.prog 27 #[dcV s p c, .int .i64 n] W fun e w' => e = .returned (.tuple #[dcV s2 p2 false, E]) ∧ Below W.heap.size W w')) (w : World) :
 Calls Tryz.prog 12 #[dcV s p c, .int .i64 n] w fun e w' => e = .returned (.tuple #[dcV s2 p2 false, E]) ∧ Below w.heap.size w w' := by
 have M := fun W => mayRound_yes h W
 have GG := fun W => goesOn_any s p c n W
 rw [ho] at GG
 unfold dcV at *
 go_enter Tryz.func12, Tryz.ntmps12
 go_wp2_with fail
 refine (M _).mono ?_
 rintro e w1 ⟨rfl, hb1⟩
 have HT1 : Hid (OneR w w1 s p c) := (OneR.start w s p c).step hb1
 clear hb1
 obtain ⟨_, _, a01, a11, a21, r01, r11, r21, fr1⟩ := HT1.out
 go_wp2_with fail
 refine (GG _).mono ?_
 rintro e w2 ⟨rfl, hb2⟩
 have HT2 : Hid (OneR w w2 s p c) := HT1.out.step hb2
 clear hb2
 obtain ⟨_, _, a02, a12, a22, r02, r12, r22, fr2⟩ := HT2.out
 clear a01 a11 a21 r01 r11 r21 fr1
 go_wp2_with fail
 refine (A _).mono ?_
 rintro e w3 ⟨rfl, hb3⟩
 have HT3 : Hid (OneR w w3 s p c) := HT2.out.step hb3
 clear hb3
 obtain ⟨_, _, a03, a13, a23, r03, r13, r23, fr3⟩ := HT3.out
 clear a02 a12 a22 r02 r12 r22 fr2
 go_wp2
 refine bodyPost_ret (v := .tuple #[.agg #[.string s2, .int .i64 p2, .bool false], E]) (by simp [results, Tryz.results12, go_sem, *]) rfl ⟨rfl, ?_⟩
 exact (((HT3.out.bel.setCell (by simp) _).setCell (by simp) _).setCell (by simp) _)
theorem dround_off {s : ByteArray} {p : Int} {c : Bool} {n : Int} {s2 : ByteArray} {p2 : Int} (h : MR s p c n ((s.size : Int) - 1)) (ho : onB s c n = false) (B : (∀ W, Calls Tryz.prog 25 #[dcV s p c, .int .i64 n] W fun e w' => e = .returned (dcV s2 p2 false) ∧ Below W.heap.size W w')) (w : World) :
 Calls Tryz.prog 13 #[dcV s p c, .int .i64 n] w fun e w' => e = .returned (.tuple #[dcV s2 p2 false, .nilIface]) ∧ Below w.heap.size w w' := by
 have M := fun W => mayRound_yes h W
 have hs8 : s.size ≤ 800 := by
  rcases h.1 with g | g
  · have := g.1; omega
  · exact g.len
 have wk : IntKind.i64.wrap ((s.size : Int) - 1) = (s.size : Int) - 1 := by
  unfold IntKind.wrap
  simp [IntKind.bits, IntKind.signed]
  omega
 clear h hs8
 have GG := fun W => goesOn_any s p c n W
 rw [ho] at GG
 unfold dcV at *
 go_enter Tryz.func13, Tryz.ntmps13
 go_wp2_with fail
 refine (M _).mono ?_
 rintro e w1 ⟨rfl, hb1⟩
 have HT1 : Hid (OneR w w1 s p c) := (OneR.start w s p c).step hb1
 clear hb1
 obtain ⟨_, _, a01, a11, a21, r01, r11, r21, fr1⟩ := HT1.out
 go_wp2_with fail
 refine (GG _).mono ?_
 rintro e w2 ⟨rfl, hb2⟩
 have HT2 : Hid (OneR w w2 s p c) := HT1.out.step hb2
 clear hb2
 obtain ⟨_, _, a02, a12, a22, r02, r12, r22, fr2⟩ := HT2.out
 clear a01 a11 a21 r01 r11 r21 fr1
 go_wp2_with fail
 refine (B _).mono ?_
 rintro e w3 ⟨rfl, hb3⟩
 have HT3 : Hid (OneR w w3 s p c) := HT2.out.step hb3
 clear hb3
 obtain ⟨_, _, a03, a13, a23, r03, r13, r23, fr3⟩ := HT3.out
 clear a02 a12 a22 r02 r12 r22 fr2
 go_wp2
 refine bodyPost_ret (v := .tuple #[.agg #[.string s2, .int .i64 p2, .bool false], .nilIface]) (by simp [results, Tryz.results13, go_sem, *]) rfl ⟨rfl, ?_⟩
 exact (((HT3.out.bel.setCell (by simp) _).setCell (by simp) _).setCell (by simp) _)
theorem dround_up {s : ByteArray} {p : Int} {c : Bool} {n : Int} {s2 : ByteArray} {p2 : Int} {E : Value} (h : MR s p c n ((s.size : Int) - 1)) (ho : onB s c n = true) (U : (∀ W, Calls Tryz.prog 28 #[dcV s p c, .int .i64 n] W fun e w' => e = .returned (.bool true) ∧ Below W.heap.size W w')) (A : (∀ W, Calls Tryz.prog 27 #[dcV s p c, .int .i64 n] W fun e w' => e = .returned (.tuple #[dcV s2 p2 false, E]) ∧ Below W.heap.size W w')) (w : World) :
 Calls Tryz.prog 13 #[dcV s p c, .int .i64 n] w fun e w' => e = .returned (.tuple #[dcV s2 p2 false, E]) ∧ Below w.heap.size w w' := by
 have M := fun W => mayRound_yes h W
 have hs8 : s.size ≤ 800 := by
  rcases h.1 with g | g
  · have := g.1; omega
  · exact g.len
 have wk : IntKind.i64.wrap ((s.size : Int) - 1) = (s.size : Int) - 1 := by
  unfold IntKind.wrap
  simp [IntKind.bits, IntKind.signed]
  omega
 clear h hs8
 have GG := fun W => goesOn_any s p c n W
 rw [ho] at GG
 unfold dcV at *
 go_enter Tryz.func13, Tryz.ntmps13
 go_wp2_with fail
 refine (M _).mono ?_
 rintro e w1 ⟨rfl, hb1⟩
 have HT1 : Hid (OneR w w1 s p c) := (OneR.start w s p c).step hb1
 clear hb1
 obtain ⟨_, _, a01, a11, a21, r01, r11, r21, fr1⟩ := HT1.out
 go_wp2_with fail
 refine (GG _).mono ?_
 rintro e w2 ⟨rfl, hb2⟩
 have HT2 : Hid (OneR w w2 s p c) := HT1.out.step hb2
 clear hb2
 obtain ⟨_, _, a02, a12, a22, r02, r12, r22, fr2⟩ := HT2.out
 clear a01 a11 a21 r01 r11 r21 fr1
 go_wp2_with fail
 refine (U _).mono ?_
 rintro e w3 ⟨rfl, hb3⟩
 have HT3 : Hid (OneR w w3 s p c) := HT2.out.step hb3
 clear hb3
 obtain ⟨_, _, a03, a13, a23, r03, r13, r23, fr3⟩ := HT3.out
 clear a02 a12 a22 r02 r12 r22 fr2
 go_wp2_with fail
 refine (A _).mono ?_
 rintro e w4 ⟨rfl, hb4⟩
 have HT4 : Hid (OneR w w4 s p c) := HT3.out.step hb4
 clear hb4
 obtain ⟨_, _, a04, a14, a24, r04, r14, r24, fr4⟩ := HT4.out
 clear a03 a13 a23 r03 r13 r23 fr3
 go_wp2
 refine bodyPost_ret (v := .tuple #[.agg #[.string s2, .int .i64 p2, .bool false], E]) (by simp [results, Tryz.results13, go_sem, *]) rfl ⟨rfl, ?_⟩
 exact (((HT4.out.bel.setCell (by simp) _).setCell (by simp) _).setCell (by simp) _)
theorem dround_dn {s : ByteArray} {p : Int} {c : Bool} {n : Int} {s2 : ByteArray} {p2 : Int} (h : MR s p c n ((s.size : Int) - 1)) (ho : onB s c n = true) (U : (∀ W, Calls Tryz.prog 28 #[dcV s p c, .int .i64 n] W fun e w' => e = .returned (.bool false) ∧ Below W.heap.size W w')) (B : (∀ W, Calls Tryz.prog 25 #[dcV s p c, .int .i64 n] W fun e w' => e = .returned (dcV s2 p2 false) ∧ Below W.heap.size W w')) (w : World) :
 Calls Tryz.prog 13 #[dcV s p c, .int .i64 n] w fun e w' => e = .returned (.tuple #[dcV s2 p2 false, .nilIface]) ∧ Below w.heap.size w w' := by
 have M := fun W => mayRound_yes h W
 have hs8 : s.size ≤ 800 := by
  rcases h.1 with g | g
  · have := g.1; omega
  · exact g.len
 have wk : IntKind.i64.wrap ((s.size : Int) - 1) = (s.size : Int) - 1 := by
  unfold IntKind.wrap
  simp [IntKind.bits, IntKind.signed]
  omega
 clear h hs8
 have GG := fun W => goesOn_any s p c n W
 rw [ho] at GG
 unfold dcV at *
 go_enter Tryz.func13, Tryz.ntmps13
 go_wp2_with fail
 refine (M _).mono ?_
 rintro e w1 ⟨rfl, hb1⟩
 have HT1 : Hid (OneR w w1 s p c) := (OneR.start w s p c).step hb1
 clear hb1
 obtain ⟨_, _, a01, a11, a21, r01, r11, r21, fr1⟩ := HT1.out
 go_wp2_with fail
 refine (GG _).mono ?_
 rintro e w2 ⟨rfl, hb2⟩
 have HT2 : Hid (OneR w w2 s p c) := HT1.out.step hb2
 clear hb2
 obtain ⟨_, _, a02, a12, a22, r02, r12, r22, fr2⟩ := HT2.out
 clear a01 a11 a21 r01 r11 r21 fr1
 go_wp2_with fail
 refine (U _).mono ?_
 rintro e w3 ⟨rfl, hb3⟩
 have HT3 : Hid (OneR w w3 s p c) := HT2.out.step hb3
 clear hb3
 obtain ⟨_, _, a03, a13, a23, r03, r13, r23, fr3⟩ := HT3.out
 clear a02 a12 a22 r02 r12 r22 fr2
 go_wp2_with fail
 refine (B _).mono ?_
 rintro e w4 ⟨rfl, hb4⟩
 have HT4 : Hid (OneR w w4 s p c) := HT3.out.step hb4
 clear hb4
 obtain ⟨_, _, a04, a14, a24, r04, r14, r24, fr4⟩ := HT4.out
 clear a03 a13 a23 r03 r13 r23 fr3
 go_wp2
 refine bodyPost_ret (v := .tuple #[.agg #[.string s2, .int .i64 p2, .bool false], .nilIface]) (by simp [results, Tryz.results13, go_sem, *]) rfl ⟨rfl, ?_⟩
 exact (((HT4.out.bel.setCell (by simp) _).setCell (by simp) _).setCell (by simp) _)
theorem below_self {s : ByteArray} {p : Int} (h : VD s p false) {n : Nat} (hn : n ≤ 800) (hs : s.size ≤ n) (w : World) :
 Calls Tryz.prog 25 #[dcV s p false, .int .i64 n] w fun e w' => e = .returned (dcV s p false) ∧ Below w.heap.size w w' := by
 rcases h with ⟨z, hp, _⟩ | g
 · have q := below_any (s := s) (p := p) (c := false) (by omega) hn (k := 0) (m := 0) (by omega) (by omega) (fun i a b => by omega) (fun x => by omega) w
   unfold lowD at q
   rw [if_pos rfl, ← size_zero z, ← hp] at q
   exact q
 · have l := g.last.resolve_right (by decide)
   have p0 := g.pos
   have q := below_any (s := s) (p := p) (c := false) g.len hn (k := s.size) (m := s.size) (by omega) (Nat.le_refl _) (fun i a b => by omega) (fun _ => by rw [dgt_lt (by omega)]; exact l) w
   unfold lowD at q
   rw [if_neg (by omega), ext_zero] at q
   exact q
theorem rround_lo {s : ByteArray} {p : Int} {c : Bool} {n : Nat} {s2 : ByteArray} {p2 kk : Int} (g : VN s p c) (hn : n < s.size) (Mk : ∀ W, Calls Tryz.prog 42 #[dcV s p c, .int .i64 n, .bool (upB s c n)] W fun e w' => e = .returned (.tuple #[dcV s2 p2 false, .int .i64 kk]) ∧ Below W.heap.size W w') (w : World) :
 Calls Tryz.prog 19 #[dcV s p c, .int .i64 n] w fun e w' => e = .returned (.tuple #[dcV s2 p2 false, .int .i64 kk]) ∧ Below w.heap.size w w' := by
 have VV := fun W => rvald_yes (Or.inr g : VD s p c) W
 have hl := g.len
 have n8 : ¬ (800 : Int) < (n : Int) := by omega
 have nl : ¬ (s.size : Int) ≤ (n : Int) := by omega
 obtain ⟨x, hx⟩ : ∃ x, x = (s[n]'hn).toNat := ⟨_, rfl⟩
 have ex : dgt s n = x := by rw [dgt_lt hn, hx]
 have R0 := OneR.start w s p c
 by_cases c1 : x = 53
 · have e1 : ((((s[n]'hn).toNat : Nat) : Int) == 53) = true := beq_iff_eq.mpr (by omega)
   have wn : IntKind.i64.wrap ((n : Int) + 1) = (n : Int) + 1 := by
    unfold IntKind.wrap
    simp [IntKind.bits, IntKind.signed]
    omega
   by_cases n0 : n = 0
   · have k0 : ¬ 0 < n := by omega
     cases c
     · by_cases c3 : n + 1 < s.size
       · have c4 : (n : Int) + 1 < (s.size : Int) := by omega
         have hb : upB s false n = true := by
          unfold upB
          rw [ex, if_pos c1]
          simp [c3, k0]
         rw [hb] at Mk
         clear hb ex hx c1 g n0
         unfold dcV at *
         go_enter Tryz.func19, Tryz.ntmps19
         go_wp2_with fail
         refine (VV _).mono ?_
         rintro e w1 ⟨rfl, hb1⟩
         have HT1 := R0.step hb1
         have HH1 : Hid (OneR w w1 s p _) := HT1
         clear hb1 R0
         obtain ⟨_, _, a0, a1, a2, r0, r1, r2, fr⟩ := HT1
         go_wp2_with fail
         refine (Mk _).mono ?_
         rintro e w2 ⟨rfl, hb2⟩
         have HT2 := HH1.out.step hb2
         have HH2 : Hid (OneR w w2 s p _) := HT2
         clear hb2 a0 a1 a2 r0 r1 r2 fr
         obtain ⟨_, _, a0, a1, a2, r0, r1, r2, fr⟩ := HT2
         go_wp2
         refine bodyPost_ret (v := .tuple #[.agg #[.string s2, .int .i64 p2, .bool false], .int .i64 kk]) (by simp [results, Tryz.results19, go_sem, *]) rfl ⟨rfl, ?_⟩
         exact (((HH2.out.bel.setCell (by simp) _).setCell (by simp) _).setCell (by simp) _)
       · have c4 : (s.size : Int) = (n : Int) + 1 := by omega
         clear nl
         have hb : upB s false n = false := by
          unfold upB
          rw [ex, if_pos c1]
          simp [c3, k0]
         rw [hb] at Mk
         clear hb ex hx c1 g n0
         unfold dcV at *
         go_enter Tryz.func19, Tryz.ntmps19
         go_wp2_with fail
         refine (VV _).mono ?_
         rintro e w1 ⟨rfl, hb1⟩
         have HT1 := R0.step hb1
         have HH1 : Hid (OneR w w1 s p _) := HT1
         clear hb1 R0
         obtain ⟨_, _, a0, a1, a2, r0, r1, r2, fr⟩ := HT1
         go_wp2_with fail
         refine (Mk _).mono ?_
         rintro e w2 ⟨rfl, hb2⟩
         have HT2 := HH1.out.step hb2
         have HH2 : Hid (OneR w w2 s p _) := HT2
         clear hb2 a0 a1 a2 r0 r1 r2 fr
         obtain ⟨_, _, a0, a1, a2, r0, r1, r2, fr⟩ := HT2
         go_wp2
         refine bodyPost_ret (v := .tuple #[.agg #[.string s2, .int .i64 p2, .bool false], .int .i64 kk]) (by simp [results, Tryz.results19, go_sem, *]) rfl ⟨rfl, ?_⟩
         exact (((HH2.out.bel.setCell (by simp) _).setCell (by simp) _).setCell (by simp) _)
     · skip
       have hb : upB s true n = true := by
        unfold upB
        rw [ex, if_pos c1]
        simp []
       rw [hb] at Mk
       clear hb ex hx c1 g n0
       unfold dcV at *
       go_enter Tryz.func19, Tryz.ntmps19
       go_wp2_with fail
       refine (VV _).mono ?_
       rintro e w1 ⟨rfl, hb1⟩
       have HT1 := R0.step hb1
       have HH1 : Hid (OneR w w1 s p _) := HT1
       clear hb1 R0
       obtain ⟨_, _, a0, a1, a2, r0, r1, r2, fr⟩ := HT1
       go_wp2_with fail
       refine (Mk _).mono ?_
       rintro e w2 ⟨rfl, hb2⟩
       have HT2 := HH1.out.step hb2
       have HH2 : Hid (OneR w w2 s p _) := HT2
       clear hb2 a0 a1 a2 r0 r1 r2 fr
       obtain ⟨_, _, a0, a1, a2, r0, r1, r2, fr⟩ := HT2
       go_wp2
       refine bodyPost_ret (v := .tuple #[.agg #[.string s2, .int .i64 p2, .bool false], .int .i64 kk]) (by simp [results, Tryz.results19, go_sem, *]) rfl ⟨rfl, ?_⟩
       exact (((HH2.out.bel.setCell (by simp) _).setCell (by simp) _).setCell (by simp) _)
   · have hn1 : n - 1 < s.size := by omega
     have ix : ((n : Int) - 1).toNat = n - 1 := by omega
     have k0 : 0 < n := by omega
     obtain ⟨y, hy⟩ : ∃ y, y = (s[n - 1]'hn1).toNat := ⟨_, rfl⟩
     have ey : dgt s (n - 1) = y := by rw [dgt_lt hn1, hy]
     have yd := dgt_in g.dg (n - 1)
     rw [ey] at yd
     have wy : IntKind.u8.wrap ((((s[n - 1]'hn1).toNat : Nat) : Int) - 48) = ((y - 48 : Nat) : Int) := by
      rw [← hy]
      unfold IntKind.wrap
      simp [IntKind.bits, IntKind.signed]
      omega
     by_cases od : (y - 48) % 2 = 1
     · have od2 : ((((y - 48 : Nat) : Int) % 2) == 1) = true := beq_iff_eq.mpr (by omega)
       have hb : upB s c n = true := by
        unfold upB
        rw [ex, if_pos c1]
        simp [k0, ey, od]
       rw [hb] at Mk
       clear hb ex hx c1 g hy ey od yd
       cases c
       all_goals
        unfold dcV at *
        go_enter Tryz.func19, Tryz.ntmps19
        go_wp2_with fail
        refine (VV _).mono ?_
        rintro e w1 ⟨rfl, hb1⟩
        have HT1 := R0.step hb1
        have HH1 : Hid (OneR w w1 s p _) := HT1
        clear hb1 R0
        obtain ⟨_, _, a0, a1, a2, r0, r1, r2, fr⟩ := HT1
        go_wp2_with fail
        refine (Mk _).mono ?_
        rintro e w2 ⟨rfl, hb2⟩
        have HT2 := HH1.out.step hb2
        have HH2 : Hid (OneR w w2 s p _) := HT2
        clear hb2 a0 a1 a2 r0 r1 r2 fr
        obtain ⟨_, _, a0, a1, a2, r0, r1, r2, fr⟩ := HT2
        go_wp2
        refine bodyPost_ret (v := .tuple #[.agg #[.string s2, .int .i64 p2, .bool false], .int .i64 kk]) (by simp [results, Tryz.results19, go_sem, *]) rfl ⟨rfl, ?_⟩
        exact (((HH2.out.bel.setCell (by simp) _).setCell (by simp) _).setCell (by simp) _)
     · have od2 : ((((y - 48 : Nat) : Int) % 2) == 1) = false := beq_eq_false_iff_ne.mpr (by omega)
       cases c
       · by_cases c3 : n + 1 < s.size
         · have c4 : (n : Int) + 1 < (s.size : Int) := by omega
           have hb : upB s false n = true := by
            unfold upB
            rw [ex, if_pos c1]
            simp [c3]
           rw [hb] at Mk
           clear hb ex hx c1 g hy ey od yd
           unfold dcV at *
           go_enter Tryz.func19, Tryz.ntmps19
           go_wp2_with fail
           refine (VV _).mono ?_
           rintro e w1 ⟨rfl, hb1⟩
           have HT1 := R0.step hb1
           have HH1 : Hid (OneR w w1 s p _) := HT1
           clear hb1 R0
           obtain ⟨_, _, a0, a1, a2, r0, r1, r2, fr⟩ := HT1
           go_wp2_with fail
           refine (Mk _).mono ?_
           rintro e w2 ⟨rfl, hb2⟩
           have HT2 := HH1.out.step hb2
           have HH2 : Hid (OneR w w2 s p _) := HT2
           clear hb2 a0 a1 a2 r0 r1 r2 fr
           obtain ⟨_, _, a0, a1, a2, r0, r1, r2, fr⟩ := HT2
           go_wp2
           refine bodyPost_ret (v := .tuple #[.agg #[.string s2, .int .i64 p2, .bool false], .int .i64 kk]) (by simp [results, Tryz.results19, go_sem, *]) rfl ⟨rfl, ?_⟩
           exact (((HH2.out.bel.setCell (by simp) _).setCell (by simp) _).setCell (by simp) _)
         · have c4 : (s.size : Int) = (n : Int) + 1 := by omega
           clear nl
           have hb : upB s false n = false := by
            unfold upB
            rw [ex, if_pos c1]
            simp [c3, ey, od]
           rw [hb] at Mk
           clear hb ex hx c1 g hy ey od yd
           unfold dcV at *
           go_enter Tryz.func19, Tryz.ntmps19
           go_wp2_with fail
           refine (VV _).mono ?_
           rintro e w1 ⟨rfl, hb1⟩
           have HT1 := R0.step hb1
           have HH1 : Hid (OneR w w1 s p _) := HT1
           clear hb1 R0
           obtain ⟨_, _, a0, a1, a2, r0, r1, r2, fr⟩ := HT1
           go_wp2_with fail
           refine (Mk _).mono ?_
           rintro e w2 ⟨rfl, hb2⟩
           have HT2 := HH1.out.step hb2
           have HH2 : Hid (OneR w w2 s p _) := HT2
           clear hb2 a0 a1 a2 r0 r1 r2 fr
           obtain ⟨_, _, a0, a1, a2, r0, r1, r2, fr⟩ := HT2
           go_wp2
           refine bodyPost_ret (v := .tuple #[.agg #[.string s2, .int .i64 p2, .bool false], .int .i64 kk]) (by simp [results, Tryz.results19, go_sem, *]) rfl ⟨rfl, ?_⟩
           exact (((HH2.out.bel.setCell (by simp) _).setCell (by simp) _).setCell (by simp) _)
       · skip
         have hb : upB s true n = true := by
          unfold upB
          rw [ex, if_pos c1]
          simp []
         rw [hb] at Mk
         clear hb ex hx c1 g hy ey od yd
         unfold dcV at *
         go_enter Tryz.func19, Tryz.ntmps19
         go_wp2_with fail
         refine (VV _).mono ?_
         rintro e w1 ⟨rfl, hb1⟩
         have HT1 := R0.step hb1
         have HH1 : Hid (OneR w w1 s p _) := HT1
         clear hb1 R0
         obtain ⟨_, _, a0, a1, a2, r0, r1, r2, fr⟩ := HT1
         go_wp2_with fail
         refine (Mk _).mono ?_
         rintro e w2 ⟨rfl, hb2⟩
         have HT2 := HH1.out.step hb2
         have HH2 : Hid (OneR w w2 s p _) := HT2
         clear hb2 a0 a1 a2 r0 r1 r2 fr
         obtain ⟨_, _, a0, a1, a2, r0, r1, r2, fr⟩ := HT2
         go_wp2
         refine bodyPost_ret (v := .tuple #[.agg #[.string s2, .int .i64 p2, .bool false], .int .i64 kk]) (by simp [results, Tryz.results19, go_sem, *]) rfl ⟨rfl, ?_⟩
         exact (((HH2.out.bel.setCell (by simp) _).setCell (by simp) _).setCell (by simp) _)
 · have e1 : ((((s[n]'hn).toNat : Nat) : Int) == 53) = false := beq_eq_false_iff_ne.mpr (by omega)
   have hb : upB s c n = decide ((53 : Int) < (((s[n]'hn).toNat : Nat) : Int)) := by
    unfold upB
    rw [ex, if_neg c1]
    exact decide_eq_decide.mpr (by omega)
   rw [hb] at Mk
   clear hb ex hx c1 g
   cases c
   all_goals
    unfold dcV at *
    go_enter Tryz.func19, Tryz.ntmps19
    go_wp2_with fail
    refine (VV _).mono ?_
    rintro e w1 ⟨rfl, hb1⟩
    have HT1 := R0.step hb1
    have HH1 : Hid (OneR w w1 s p _) := HT1
    clear hb1 R0
    obtain ⟨_, _, a0, a1, a2, r0, r1, r2, fr⟩ := HT1
    go_wp2_with fail
    refine (Mk _).mono ?_
    rintro e w2 ⟨rfl, hb2⟩
    have HT2 := HH1.out.step hb2
    have HH2 : Hid (OneR w w2 s p _) := HT2
    clear hb2 a0 a1 a2 r0 r1 r2 fr
    obtain ⟨_, _, a0, a1, a2, r0, r1, r2, fr⟩ := HT2
    go_wp2
    refine bodyPost_ret (v := .tuple #[.agg #[.string s2, .int .i64 p2, .bool false], .int .i64 kk]) (by simp [results, Tryz.results19, go_sem, *]) rfl ⟨rfl, ?_⟩
    exact (((HH2.out.bel.setCell (by simp) _).setCell (by simp) _).setCell (by simp) _)
end Go.Proofs.YtjagnfddmlkalaaGreatDoor
