/-
  The middle part of DecOrder: a row of bytes that is made longer by noughts; half way between two numbers.
-/
import Derived.Test.YtladeppjccfbhaaDoorDecOf
import Derived.ArgAppend
import Derived.Deep.AppendLies
import Derived.Lib.ConvBytes
namespace Go.Proofs.YtladeppjccfbhaaDoor
open Go.RowKit

/-- A slice of bytes that holds the first k digits of s, with room behind it or none. -/
structure Bs (N : Nat) (W : World) (s : ByteArray) (v : Value) (k g cap : Nat) : Prop where
  val : v = .slice (some ⟨g, 0, none⟩) k cap
  lo : N ≤ g
  lt : g < W.heap.size
  le : k ≤ cap
  cells : ∀ j, j < k → W.cell? ⟨g, j, none⟩ = some (.int .u8 (dgt s j : Int))
  spare : ∀ j, k ≤ j → j < cap → (W.cell? ⟨g, j, none⟩).isSome = true ∧ W.frozen? ⟨g, j, none⟩ = false
/-- The same, but for where it lies. -/
def Bx (N : Nat) (W : World) (s : ByteArray) (v : Value) (k : Nat) : Prop := ∃ g cap, Bs N W s v k g cap

theorem Bs.step {N : Nat} {W W' : World} {s : ByteArray} {v : Value} {k g cap : Nat} (h : Bs N W s v k g cap) (hb : Below W.heap.size W W') : Bs N W' s v k g cap := by
  have c : ∀ o, W'.cell? ⟨g, o, none⟩ = W.cell? ⟨g, o, none⟩ := fun o => hb.cell (p := ⟨g, o, none⟩) h.lt
  have f : ∀ o, W'.frozen? ⟨g, o, none⟩ = W.frozen? ⟨g, o, none⟩ := fun o => hb.frozen (p := ⟨g, o, none⟩) h.lt
  exact ⟨h.val, h.lo, Nat.lt_of_lt_of_le h.lt hb.size, h.le, fun j hj => (c j).trans (h.cells j hj), fun j a b => by rw [c, f]; exact h.spare j a b⟩

theorem bs_start (U : World) {s t : ByteArray} (hd : ∀ j, j < t.size → dgt t j = dgt s j) : ∃ W1 C, (Go.convert 9 48 (.string t)).run Tryd.prog U = .ok (.slice (some ⟨U.heap.size, 0, none⟩) t.size C) W1 ∧ Below U.heap.size U W1 ∧ Bs U.heap.size W1 s (.slice (some ⟨U.heap.size, 0, none⟩) t.size C) t.size U.heap.size C := by
  have hL := Lib.run_convert_string_bytes (P := Tryd.prog) U 9 48 5 t und_str9b und_bytes48 und_u8b
  have bU : Below U.heap.size U (Lib.bytesWorld U 5 t) := ⟨rfl, rfl, rfl, by rw [Lib.bytesWorld_size]; omega, fun k hk => Lib.bytesWorld_at_old U 5 t k hk⟩
  have q := Lib.bytesWorld_at_new U 5 t
  have hg := grownCap_ge U t.size 0 5
  have sz : (Lib.bytesCells U 5 t).size = grownCap U t.size 0 5 := by
    unfold Lib.bytesCells
    simp
    omega
  refine ⟨Lib.bytesWorld U 5 t, grownCap U t.size 0 5, hL, bU, rfl, Nat.le_refl _, by rw [Lib.bytesWorld_size]; omega, hg, fun j hj => ?_, fun j a b => ?_⟩
  · have c := Lib.bytesWorld_cell U 5 t j hj
    rw [getD_dgt hj, hd j hj] at c
    exact c
  · constructor
    · unfold World.cell?
      rw [q]
      have z : j < (Lib.bytesCells U 5 t).size := by omega
      simp [Array.getElem?_eq_getElem z]
    · unfold World.frozen?
      rw [q]
      have z : ¬ (Lib.bytesCells U 5 t).size ≤ j := by omega
      simp [z]

/-- The digits of the row, as cells. -/
def dgV (s : ByteArray) (k : Nat) : List Value := (List.range k).map fun j => Value.int .u8 (dgt s j : Int)
theorem dgV_len (s : ByteArray) (k : Nat) : (dgV s k).length = k := by simp [dgV]
theorem dgV_at {s : ByteArray} {k j : Nat} {u : Value} (h : (dgV s k)[j]? = some u) : j < k ∧ u = .int .u8 (dgt s j : Int) := by
  have hj : j < k := by have := (List.getElem?_eq_some_iff.1 h).1; rwa [dgV_len] at this
  unfold dgV at h
  rw [List.getElem?_map, List.getElem?_range hj] at h
  exact ⟨hj, (Option.some.inj h).symm⟩

theorem Bs.room {N : Nat} {W : World} {s : ByteArray} {v : Value} {k g cap : Nat} (h : Bs N W s v k g cap) (hc : k + 1 ≤ cap) (hz : dgt s k = 48) :
    Bs N (W.setCells g (0 + k * 1) [.int .u8 48]) s (.slice (some ⟨g, 0, none⟩) (k + 1) cap) (k + 1) g cap := by
  have e : W.setCells g (0 + k * 1) [.int .u8 48] = W.setCell ⟨g, k, none⟩ (.int .u8 48) := by
    show W.setCell ⟨g, 0 + k * 1, none⟩ (.int .u8 48) = _
    rw [show 0 + k * 1 = k by omega]
  rw [e]
  refine ⟨rfl, h.lo, by rw [World.size_setCell]; exact h.lt, hc, fun j hj => ?_, fun j a b => ?_⟩
  · by_cases c : j = k
    · subst c
      rw [hz]
      exact World.cell?_setCell_same' _ _ _ (h.spare j (Nat.le_refl _) (by omega)).1
    · rw [World.cell?_setCell_other _ _ _ _ (by intro q; injection q with _ q _; exact c q.symm)]
      exact h.cells j (by omega)
  · rw [World.cell?_setCell_other _ _ _ _ (by intro q; injection q with _ q _; omega), World.frozen?_setCell]
    exact h.spare j (by omega) b
theorem setCells_below {B g k : Nat} {U W : World} (h : Below B U W) (hg : B ≤ g) (v : Value) : Below B U (W.setCells g k [v]) := h.setCell (p := ⟨g, k, none⟩) hg v

theorem bs_grown {N : Nat} {W' : World} {s : ByteArray} {v' : Value} {k base : Nat} (h : W'.ownsRow base 5 1 v' (k + 1) (dgV s k ++ [.int .u8 48])) (hN : N ≤ base) (hz : dgt s k = 48) : Bx N W' s v' (k + 1) := by
  obtain ⟨_, h⟩ := h
  rcases h with ⟨_, h0⟩ | ⟨g, cap, cur, hv, hb, hg, hn, _, hs, ht⟩
  · omega
  · have hlt : g < W'.heap.size := by
      rcases Nat.lt_or_ge g W'.heap.size with hlt | hge
      · exact hlt
      · rw [Array.getElem?_eq_none hge] at hg; cases hg
    refine ⟨g, cap, hv, by omega, hlt, hn, fun j hj => ?_, fun j a b => ?_⟩
    · have hj' : j < cur.size := by omega
      have e : cur.toList[j]? = some (.int .u8 (dgt s j : Int)) := by
        have : (cur.toList.take ((k + 1) * 1))[j]? = cur.toList[j]? := List.getElem?_take_of_lt (by omega)
        rw [← this, ht]
        by_cases c : j = k
        · subst c
          rw [List.getElem?_append_right (by rw [dgV_len]; omega), dgV_len, Nat.sub_self, hz]
          rfl
        · rw [List.getElem?_append_left (by rw [dgV_len]; omega)]
          unfold dgV
          rw [List.getElem?_map, List.getElem?_range (by omega)]
          rfl
      have q := World.news_of_block hg j _ e
      rw [Addr.add_lit] at q
      rw [Nat.zero_add] at q
      exact q
    · constructor
      · have hj' : j < cur.size := by omega
        have q := World.news_of_block hg j (cur[j]) (by rw [Array.getElem?_toList, Array.getElem?_eq_getElem hj'])
        rw [Addr.add_lit, Nat.zero_add] at q
        rw [q]
        rfl
      · unfold World.frozen?
        rw [hg]
        simp

/-- The digits, as a text. -/
theorem bs_text {N : Nat} {W : World} {s : ByteArray} {v : Value} {n g cap : Nat} (h : Bs N W s v n g cap) (hs : n ≤ s.size) : (Go.convert 48 9 v).run Tryd.prog W = .ok (.string (s.extract 0 n)) W := by
  have hd : ∀ i, i < n → dgt s i < 256 := fun i hi => by rw [dgt_lt (by omega)]; exact UInt8.toNat_lt _
  obtain ⟨z1, z2⟩ := nums_dgt (dgt s) n hd
  have e : strOfNums ((List.range n).map fun i => (dgt s i : Int)) = s.extract 0 n := by
    refine ba_ext (by rw [z1, pre_size hs]) (fun i hi => ?_)
    rw [z2 i (by omega), pre_dgt hs (by omega)]
  rw [h.val, ← e]
  refine run_convert_bytes_arg _ 48 5 und_bytes48 und_u8b g 0 n cap _ (by simp) ?_ 9 und_str9b
  intro i hi
  rw [Nat.zero_add, h.cells i hi]
  simp [List.getD_eq_getElem?_getD, hi]

/-- Half way between a number's first n digits and one unit more. -/
def btw (s : ByteArray) (n : Nat) : ByteArray := s.extract 0 n ++ (⟨#[53]⟩ : ByteArray)
theorem btw_dgt {s : ByteArray} {n : Nat} (hs : n ≤ s.size) : (btw s n).size = n + 1 ∧ (∀ j, j < n → dgt (btw s n) j = dgt s j) ∧ dgt (btw s n) n = 53 := by
  have z : (btw s n).size = n + 1 := by unfold btw; rw [ByteArray.size_append, pre_size hs]; rfl
  have pz := pre_size hs
  refine ⟨z, fun j hj => ?_, ?_⟩
  · rw [dgt_lt (by omega), ← pre_dgt hs hj, dgt_lt (by omega)]
    unfold btw
    rw [ByteArray.getElem_append_left (by omega)]
  · rw [dgt_lt (by omega)]
    unfold btw
    rw [ByteArray.getElem_append_right (by omega)]
    simp only [pz, Nat.sub_self]
    rfl
theorem btw_vn {s : ByteArray} {p : Int} (g : VN s p false) {n : Nat} (n0 : 0 < n) (hn : n < 40) (hs : n < s.size) : VN (btw s n) p false := by
  obtain ⟨z, d1, d2⟩ := btw_dgt (s := s) (n := n) (by omega)
  refine nf_vn ⟨by omega, ?_, by rw [d1 0 n0, dgt_lt g.pos]; exact g.first, by rw [z, show n + 1 - 1 = n by omega, d2]; decide⟩ (by omega) g.lo g.hi
  intro i hi
  rw [← dgt_lt hi]
  by_cases c : i < n
  · rw [d1 i c]; exact dgt_in g.dg i
  · rw [show i = n by omega, d2]; decide
theorem btw_make {s : ByteArray} {p : Int} (g : VN s p false) (hp0 : -1000 ≤ p) (hp1 : p ≤ 1000) {n : Nat} (n0 : 0 < n) (hn : n < 40) (hs : n < s.size) (W : World) :
    Calls Tryd.prog 25 #[.string (btw s n), .int .i64 p, .bool false] W fun e w' => e = .returned (.tuple #[dcV (btw s n) p false, .nilIface]) ∧ Below W.heap.size W w' := by
  have v := btw_vn g n0 hn hs
  obtain ⟨z, d1, d2⟩ := btw_dgt (s := s) (n := n) (by omega)
  have e0 := ext_zero (btw s n)
  have S : ∀ W, Calls Tryd.prog 59 #[.string (btw s n), .bool false] W fun e w' => e = .returned (.tuple #[.string (btw s n), .bool false]) ∧ Below W.heap.size W w' := fun W => by
    have q := shorten_ok (btw s n) (by omega) (btw s n).size (Nat.le_refl _) (fun i a b => by omega) (fun c => by rw [← dgt_lt (by omega), z, show n + 1 - 1 = n by omega, d2]; decide) W
    rw [e0] at q
    exact q
  have q := dmake_in (t := btw s n) (p := p) (by omega) v.dg (z := 0) (by omega) (fun i a => by omega) (by rw [d1 0 n0, dgt_lt g.pos]; exact g.first) e0 S (by omega) (by omega) ⟨by omega, by omega⟩ W
  rw [show p - ((0 : Nat) : Int) = p by omega] at q
  exact q
theorem btw_cmp {s : ByteArray} {p : Int} (g : VN s p false) {n : Nat} (n0 : 0 < n) (hn : n < 40) (hs : n < s.size) : ∃ c : Int,
    (∀ W, Calls Tryd.prog 8 #[dcV s p false, dcV (btw s n) p false] W fun e w' => e = .returned (.tuple #[.int .i64 c, .nilIface]) ∧ Below W.heap.size W w') ∧
    ((c = 1 ∧ upB s false n = true) ∨ (c = -1 ∧ upB s false n = false) ∨ (c = 0 ∧ (dgt s (n - 1) - 48) % 2 = 1 ∧ upB s false n = true) ∨ (c = 0 ∧ (dgt s (n - 1) - 48) % 2 = 0 ∧ upB s false n = false)) := by
  have v := btw_vn g n0 hn hs
  obtain ⟨z, d1, d2⟩ := btw_dgt (s := s) (n := n) (by omega)
  have hb : n < (btw s n).size := by omega
  by_cases x : dgt s n = 53
  · refine ⟨bhd (decide (n + 1 < s.size)) false, fun W => ?_, ?_⟩
    · have q := dcmp_behind (Or.inr g : VD s p false) (Or.inr v) (by omega) (by omega) (fun j hj a b => by
        rw [← dgt_lt a, ← dgt_lt b]
        by_cases c : j < n
        · rw [d1 j c]
        · rw [show j = n by omega, d2, x]) W
      have e1 : onB s false ((min s.size (btw s n).size : Nat) : Int) = decide (n + 1 < s.size) := by unfold onB; rw [Bool.false_or]; exact decide_eq_decide.2 (by omega)
      have e2 : onB (btw s n) false ((min s.size (btw s n).size : Nat) : Int) = false := by unfold onB; rw [Bool.false_or]; exact decide_eq_false (by omega)
      rw [e1, e2] at q
      exact q
    · unfold upB
      rw [if_pos x, Bool.false_or]
      by_cases c : n + 1 < s.size
      · left
        simp [c, bhd]
      · right; right
        by_cases o : (dgt s (n - 1) - 48) % 2 = 1
        · left
          simp [c, bhd, o, n0]
        · right
          simp [c, bhd, o]
          omega
  · refine ⟨cmpI (dgt s n : Int) 53, fun W => ?_, ?_⟩
    · have q := dcmp_diff (Or.inr g : VD s p false) (Or.inr v) n hs hb (fun j hj a b => by rw [← dgt_lt a, ← dgt_lt b, d1 j hj]) (by rw [← dgt_lt hs, ← dgt_lt hb, d2]; exact x) W
      rw [← dgt_lt hs, ← dgt_lt hb, d2] at q
      exact q
    · unfold upB
      rw [if_neg x]
      by_cases c : 53 < dgt s n
      · left
        refine ⟨?_, decide_eq_true c⟩
        unfold cmpI
        rw [if_neg (by omega), if_pos (by omega)]
      · right; left
        refine ⟨?_, decide_eq_false c⟩
        unfold cmpI
        rw [if_pos (by omega)]

end Go.Proofs.YtladeppjccfbhaaDoor
