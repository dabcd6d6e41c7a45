/-
  Holds: VDecS VDecT.
-/
import Derived.Test.YtjagnfddmlkalaaGreatDoorRows
import Derived.Laws.Externs
import Derived.WalkKit
import Derived.WalkSpells
import Derived.WalkLawsBesides
import Derived.Lib.Mul64
import Derived.Stop.Asserts
import Derived.RowKitTokens
import Derived.Lib.Strings
import Derived.Lib.BufferWrite
import Derived.Deep.OwnRows
import Derived.Laws.CopyOwn
import Derived.BigQuiet
import Derived.Deep.RegionHeld3
import Derived.Lib.TrailingZeros
import Derived.Lib.ItoaNum
import Derived.Deep.LoopGhost
import Derived.Test.YtjagnfddmlkalaaGreatDoorKj1
import Derived.Test.YtjagnfddmlkalaaGreatDoorKj7
set_option maxRecDepth 100000
set_option maxHeartbeats 4000000
namespace Go.Proofs.YtjagnfddmlkalaaGreatDoor
open Go.RowKit
theorem pre_size {s : ByteArray} {k : Nat} (h : k ≤ s.size) : (s.extract 0 k).size = k := by rw [ByteArray.size_extract]; omega
theorem pre_cut {s : ByteArray} {k : Nat} : (s.extract 0 (k + 1)).extract 0 k = s.extract 0 k := by
 apply ByteArray.ext
 rw [ByteArray.data_extract, ByteArray.data_extract, ByteArray.data_extract, Array.extract_extract]
 congr 1
 omega
theorem pre_get {s : ByteArray} {k i : Nat} (hk : k ≤ s.size) (h : i < k) : ∀ hh, ((s.extract 0 k)[i]'hh).toNat = (s[i]'(by omega)).toNat := by
 intro hh
 simp [ByteArray.getElem_extract]
theorem trimByteR (s : ByteArray) (hs : s.size ≤ 9223372036854775807) (b : Nat) (m : Nat) (hm : m ≤ s.size) (h1 : ∀ i, m ≤ i → (h : i < s.size) → (s[i]'h).toNat = b) (h2 : (h : 0 < m) → (s[m - 1]'(by omega)).toNat ≠ b) (w : World) :
 Calls Tryz.prog 105 #[.string s, .int .u8 (b : Int)] w fun e w' => e = .returned (.string (s.extract 0 m)) ∧ w' = w := by
 have HH : Hid ((∀ i, m ≤ i → (h : i < s.size) → (s[i]'h).toNat = b) ∧ ((h : 0 < m) → (s[m - 1]'(by omega)).toNat ≠ b)) := ⟨h1, h2⟩
 clear h1 h2
 go_enter Tryz.func105, Tryz.ntmps105
 go_wp2
 go_loop [0] (fun v => ∃ k : Nat, v = .string (s.extract 0 k) ∧ m ≤ k ∧ k ≤ s.size) (fun v => textLen v)
 case atStart => exact ⟨s.size, by rw [ext_zero], hm, Nat.le_refl _⟩
 case round =>
  obtain ⟨k, rfl, hmk, hk⟩ := hrel
  have sz := pre_size hk
  by_cases c1 : m < k
  · obtain ⟨j, rfl⟩ : ∃ j, k = j + 1 := ⟨k - 1, by omega⟩
    have e0 := pre_get (s := s) hk (show j < j + 1 by omega)
    rw [HH.out.1 j (by omega) (by omega)] at e0
    have cut := pre_cut (s := s) (k := j)
    have HC : Hid ((s.extract 0 j).size = j) := pre_size (by omega)
    obtain ⟨T2, hT2⟩ : ∃ T, s.extract 0 j = T := ⟨_, rfl⟩
    obtain ⟨T, hT⟩ : ∃ T, s.extract 0 (j + 1) = T := ⟨_, rfl⟩
    rw [hT2] at cut
    rw [hT] at sz cut e0 ⊢
    have HT : Hid (s.extract 0 j = T2) := hT2
    have HSZ : Hid (T.size = j + 1) := sz
    have hpos : 0 < T.size := by omega
    have hbig : T.size ≤ 9223372036854775807 := by omega
    have ix : ((T.size : Int) - 1).toNat = j := by omega
    have ix2 : (T.size : Int) - 1 = (j : Int) := by omega
    have eb : (((b : Nat) : Int) == (b : Int)) = true := beq_iff_eq.mpr rfl
    have hj : j < T.size := by omega
    have e1 := e0 hj
    have hTj : (T.size : Int) = (j : Int) + 1 := by omega
    clear hT hT2 sz
    go_wp2
    go_round
    case rel => exact ⟨j, by rw [HT.out], by omega, by omega⟩
    case measure =>
     show T2.size < T.size
     have a := HC.out
     rw [HT.out] at a
     have b := HSZ.out
     omega
  · obtain rfl : k = m := by omega
    clear c1 hmk
    by_cases c2 : 0 < k
    · have e0 := pre_get (s := s) hk (show k - 1 < k by omega)
      have hne := HH.out.2 c2
      obtain ⟨v, hv⟩ : ∃ v, (s[k - 1]'(by omega)).toNat = v := ⟨_, rfl⟩
      rw [hv] at e0 hne
      have hne' : ((v : Int) == (b : Int)) = false := beq_eq_false_iff_ne.mpr (by omega)
      obtain ⟨T, hT⟩ : ∃ T, s.extract 0 k = T := ⟨_, rfl⟩
      have HTT : Hid (s.extract 0 k = T) := hT
      rw [hT] at e0 sz ⊢
      have hpos : 0 < T.size := by omega
      have hbig : T.size ≤ 9223372036854775807 := by omega
      have ix : ((T.size : Int) - 1).toNat = k - 1 := by omega
      have hj : k - 1 < T.size := by omega
      have e1 := e0 hj
      clear hv hne hT
      go_wp2
      go_ret
      exact ⟨by rw [HTT.out]; rfl, rfl⟩
    · have hz : (s.extract 0 k).size = 0 := by omega
      obtain ⟨T, hT⟩ : ∃ T, s.extract 0 k = T := ⟨_, rfl⟩
      have HTT : Hid (s.extract 0 k = T) := hT
      rw [hT] at hz ⊢
      clear sz hT
      go_wp2
      go_ret
      exact ⟨by rw [HTT.out]; rfl, rfl⟩
theorem trimRight48 (s : ByteArray) (hs : s.size ≤ 9223372036854775807) (m : Nat) (hm : m ≤ s.size) (h1 : ∀ i, m ≤ i → (h : i < s.size) → (s[i]'h).toNat = 48) (h2 : (h : 0 < m) → (s[m - 1]'(by omega)).toNat ≠ 48) (w : World) :
 Calls Tryz.prog 59 #[.string s, .string ⟨#[48]⟩] w fun e w' => e = .returned (.string (s.extract 0 m)) ∧ w' = w := by
 by_cases h0 : s.size = 0
 · have hm0 : m = 0 := by omega
   subst hm0
   obtain rfl := size_zero h0
   have e : (⟨#[]⟩ : ByteArray).extract 0 0 = ⟨#[]⟩ := by decide
   rw [e]
   clear h1 h2 e
   go_enter Tryz.func59, Tryz.ntmps59
   go_wp2
   go_ret
   exact ⟨rfl, rfl⟩
 · have T : ∀ W, Calls Tryz.prog 105 #[.string s, .int .u8 48] W fun e w' => e = .returned (.string (s.extract 0 m)) ∧ w' = W := fun W => trimByteR s hs 48 m hm h1 h2 W
   have hE := empty_false (s := s) (by omega)
   have e48 : ∀ hh, ((⟨#[48]⟩ : ByteArray)[0]'hh).toNat = 48 := fun _ => rfl
   clear h1 h2
   go_enter Tryz.func59, Tryz.ntmps59
   go_wp2_with fail
   refine (T _).mono ?_
   rintro e wa ⟨rfl, rfl⟩
   go_wp2
   go_ret
   exact ⟨rfl, rfl⟩
theorem trimRight57 (s : ByteArray) (hs : s.size ≤ 9223372036854775807) (m : Nat) (hm : m ≤ s.size) (h1 : ∀ i, m ≤ i → (h : i < s.size) → (s[i]'h).toNat = 57) (h2 : (h : 0 < m) → (s[m - 1]'(by omega)).toNat ≠ 57) (w : World) :
 Calls Tryz.prog 59 #[.string s, .string ⟨#[57]⟩] w fun e w' => e = .returned (.string (s.extract 0 m)) ∧ w' = w := by
 by_cases h0 : s.size = 0
 · have hm0 : m = 0 := by omega
   subst hm0
   obtain rfl := size_zero h0
   have e : (⟨#[]⟩ : ByteArray).extract 0 0 = ⟨#[]⟩ := by decide
   rw [e]
   clear h1 h2 e
   go_enter Tryz.func59, Tryz.ntmps59
   go_wp2
   go_ret
   exact ⟨rfl, rfl⟩
 · have T : ∀ W, Calls Tryz.prog 105 #[.string s, .int .u8 57] W fun e w' => e = .returned (.string (s.extract 0 m)) ∧ w' = W := fun W => trimByteR s hs 57 m hm h1 h2 W
   have hE := empty_false (s := s) (by omega)
   have e48 : ∀ hh, ((⟨#[57]⟩ : ByteArray)[0]'hh).toNat = 57 := fun _ => rfl
   clear h1 h2
   go_enter Tryz.func59, Tryz.ntmps59
   go_wp2_with fail
   refine (T _).mono ?_
   rintro e wa ⟨rfl, rfl⟩
   go_wp2
   go_ret
   exact ⟨rfl, rfl⟩
theorem und_bytes48 : Tryz.prog.underlying 115 = some (.slice 5) := by kernel_rfl
theorem und_ptr8 : Tryz.prog.underlying 207 = some (.pointer 5) := by kernel_rfl
theorem info_b8 : (Tryz.prog.info? 5).map (fun i => (i.zero, i.size, i.bytes)) = some (some (.int .u8 0), 1, 1) := by kernel_rfl
theorem clone_lite (s : ByteArray) (hlim : s.size ≤ 140737488355328) (w : World) :
 Calls Tryz.prog 129 #[.string s] w fun e w' => e = .returned (.string s) ∧ Below w.heap.size w w' := by
 by_cases h0 : s.size = 0
 · obtain rfl := size_zero h0
   go_enter Tryz.func129, Tryz.ntmps129
   go_wp2
   go_ret
   exact ⟨rfl, Below.refl _ _⟩
 · obtain ⟨i0, hi, hz0, hz1, hz2⟩ := info_parts info_b8
   have hn0 : ((s.size : Int) == 0) = false := beq_eq_false_iff_ne.mpr (by omega)
   have hsz1 : (Tryz.prog.info? 5).map (·.size) = some 1 := by rw [hi]; simp [hz1]
   have hco : Tryz.prog.cellsOf 5 = 1 := by kernel_rfl
   have hmk := run_make_row' (P := Tryz.prog) 115 5 (.int .u8 0) 1 und_bytes48 info_b8 rfl .i64 .i64 s.size (by omega) (by omega)
   obtain ⟨M, hM⟩ : ∃ M, M = madeCells #[Value.int .u8 0] s.size := ⟨_, rfl⟩
   have hMs : M.size = s.size := by rw [hM, size_madeCells]
   rw [← hM] at hmk
   have hcp := Lib.run_copy_row_string (P := Tryz.prog) (w.alloc (.cells M 5)) 115 9 3 5 w.heap.size 0 s.size s.size s M 5 und_bytes48 hsz1 (heap_alloc_new w _) (Nat.le_refl _) (by omega)
   obtain ⟨Y, hY⟩ : ∃ Y, Y = (M.toList.take 0 ++ Lib.byteCells s.data.toList ++ M.toList.drop (0 + s.size)).toArray := ⟨_, rfl⟩
   rw [← hY] at hcp
   have hYl : Y.toList = Lib.byteCells s.data.toList := by
    rw [hY, List.toList_toArray, List.take_zero, List.nil_append, List.drop_of_length_le (by rw [Array.length_toList]; omega), List.append_nil]
   have hgY : ((w.alloc (.cells M 5)).setRow w.heap.size Y).heap[w.heap.size]? = some (.cells Y 5 (0, 0)) := setRow_heap _ _ M _ 5 (0, 0) (heap_alloc_new w _)
   have hYs : Y.size = s.size := by rw [← Array.length_toList, hYl, Lib.byteCells_length, ← Lib.size_eq]
   have hne : s.data.toList ≠ [] := fun e => h0 (by rw [Lib.size_eq, e]; rfl)
   have hUS := Lib.run_unsafeString_row (P := Tryz.prog) ((w.alloc (.cells M 5)).setRow w.heap.size Y) 207 3 9 5 und_ptr8 hco w.heap.size Y.size (by unfold World.shape?; rw [hgY]) s.data.toList hne (by rw [← Lib.size_eq]; omega) (by rw [← Lib.size_eq]; omega)
    (fun j x hx => Lib.cells_of_row hgY Y.size j _ (by rw [List.take_of_length_le (by rw [Array.length_toList]; exact Nat.le_refl _), hYl]; simp [Lib.byteCells, hx]))
   rw [← Lib.size_eq] at hUS
   clear hY hM
   go_enter Tryz.func129, Tryz.ntmps129
   go_wp2
   go_ret
   have hb1 : Below w.heap.size w (w.alloc (.cells M 5)) := (Below.refl _ w).alloc (Nat.le_refl _) _
   have hb2 : Below w.heap.size (w.alloc (.cells M 5)) ((w.alloc (.cells M 5)).setRow w.heap.size Y) := ⟨rfl, rfl, rfl, by simp, fun k hk => setRow_other _ _ _ _ (by omega)⟩
   exact ⟨rfl, Lib.below_freeze (hb1.trans hb2) (p := ⟨w.heap.size, 0, none⟩) (Nat.le_refl _) _⟩
theorem clone_any (s : ByteArray) (hlim : s.size ≤ 140737488355328) (w : World) :
 Calls Tryz.prog 104 #[.string s] w fun e w' => e = .returned (.string s) ∧ Below w.heap.size w w' := by
 go_enter Tryz.func104, Tryz.ntmps104
 go_wp2_with fail
 refine (clone_lite s hlim _).mono ?_
 rintro e w1 ⟨rfl, hb⟩
 go_wp2
 go_ret
 exact ⟨rfl, hb⟩
theorem shorten_ok (s : ByteArray) (hs : s.size ≤ 800) (m : Nat) (hm : m ≤ s.size) (h1 : ∀ i, m ≤ i → (h : i < s.size) → (s[i]'h).toNat = 48) (h2 : (h : 0 < m) → (s[m - 1]'(by omega)).toNat ≠ 48) (w : World) :
 Calls Tryz.prog 58 #[.string s, .bool false] w fun e w' => e = .returned (.tuple #[.string (s.extract 0 m), .bool false]) ∧ Below w.heap.size w w' := by
 have T := trimRight48 s (by omega) m hm h1 h2 w
 have hl : ¬ (800 : Int) < (s.size : Int) := by omega
 have sz := pre_size hm
 clear h1 h2
 generalize s.extract 0 m = t at *
 go_enter Tryz.func58, Tryz.ntmps58
 go_wp2_with fail
 refine T.mono ?_
 rintro e w ⟨rfl, rfl⟩
 go_wp2_with fail
 refine (clone_any t (by omega) _).mono ?_
 rintro e w1 ⟨rfl, hb⟩
 go_wp2
 refine bodyPost_ret (v := .tuple #[.string t, .bool false]) (by simp [results, Tryz.results58, go_sem]) rfl ⟨rfl, hb⟩
def onB (s : ByteArray) (c : Bool) (n : Int) : Bool := c || decide (n < (s.size : Int))
theorem goesOn_any (s : ByteArray) (p : Int) (c : Bool) (n : Int) (w : World) :
    Calls Tryz.prog 26 #[dcV s p c, .int .i64 n] w fun e w' => e = .returned (.bool (onB s c n)) ∧ Below w.heap.size w w' := by
  unfold dcV onB
  cases c with
  | true =>
    go_enter Tryz.func26, Tryz.ntmps26
    go_wp2
    go_ret
    exact ⟨rfl, (Below.refl _ _).alloc (Nat.le_refl _) _⟩
  | false =>
    rw [Bool.false_or]
    go_enter Tryz.func26, Tryz.ntmps26
    go_wp2
    go_ret
    exact ⟨rfl, (Below.refl _ _).alloc (Nat.le_refl _) _⟩
end Go.Proofs.YtjagnfddmlkalaaGreatDoor
