/-
  The names of the numbers: fault's and the document's.
-/
import Derived.Test.YtelobjhmbabiaaaDoorFtS
namespace Go.Proofs.YtelobjhmbabiaaaDoor
open Go.RowKit

def nmsB : ByteArray := ⟨#[97, 114, 103, 32, 32, 32, 32, 32, 32, 32, 108, 111, 110, 103, 32, 32, 32, 32, 32, 32, 115, 121, 110, 116, 97, 120, 32, 32, 32, 32, 114, 97, 110, 103, 101, 32, 32, 32, 32, 32, 115, 105, 122, 101, 32, 32, 32, 32, 32, 32, 119, 105, 100, 116, 104, 32, 32, 32, 32, 32, 98, 97, 115, 101, 32, 32, 32, 32, 32, 32, 112, 114, 101, 99, 105, 115, 105, 111, 110, 32, 108, 97, 121, 111, 117, 116, 32, 32, 32, 32, 122, 101, 114, 111, 32, 32, 32, 32, 32, 32, 98, 105, 103, 32, 32, 32, 32, 32, 32, 32, 98, 101, 108, 111, 119, 32, 32, 32, 32, 32, 100, 105, 103, 105, 116, 115, 32, 32, 32, 32, 99, 97, 108, 108, 32, 32, 32, 32, 32, 32, 108, 105, 110, 101, 32, 32, 32, 32, 32, 32]⟩
/-- The names, and their numbers. -/
def nmL : List ByteArray := [⟨#[97, 114, 103]⟩, ⟨#[108, 111, 110, 103]⟩, ⟨#[115, 121, 110, 116, 97, 120]⟩, ⟨#[114, 97, 110, 103, 101]⟩, ⟨#[115, 105, 122, 101]⟩, ⟨#[119, 105, 100, 116, 104]⟩, ⟨#[98, 97, 115, 101]⟩, ⟨#[112, 114, 101, 99, 105, 115, 105, 111, 110]⟩, ⟨#[108, 97, 121, 111, 117, 116]⟩, ⟨#[122, 101, 114, 111]⟩, ⟨#[98, 105, 103]⟩, ⟨#[98, 101, 108, 111, 119]⟩, ⟨#[100, 105, 103, 105, 116, 115]⟩, ⟨#[99, 97, 108, 108]⟩, ⟨#[108, 105, 110, 101]⟩]
def noL : List Int := [1, 2, 3, 4, 5, 6, 7, 8, 9, 10, 20, 21, 30, 290, 291]
def nm (k : Nat) : ByteArray := nmL.getD k ⟨#[]⟩
def no (k : Nat) : Int := noL.getD k 0
/-- A name with blanks behind it. -/
def pad (k : Nat) : ByteArray := nmsB.extract (10 * k) (10 * k + 10)
theorem pad_facts : ∀ k : Fin 15, (pad k.val).size = 10 ∧ 0 < (nm k.val).size ∧ (nm k.val).size ≤ 10 ∧ (pad k.val).extract 0 (nm k.val).size = nm k.val ∧ (∀ i : Fin 10, (nm k.val).size ≤ i.val → ((pad k.val).data.getD i.val 0).toNat = 32) ∧ ((pad k.val).data.getD ((nm k.val).size - 1) 0).toNat ≠ 32 := by decide +kernel
theorem getD_at {s : ByteArray} {i : Nat} (h : i < s.size) : s.data.getD i 0 = s[i]'h := by
  show (if h : i < s.data.size then s.data[i] else 0) = _
  rw [dif_pos (show i < s.data.size from h)]
  rfl
def textLen : Value → Nat | .string s => s.size | _ => 0
theorem ext_zero (s : ByteArray) : s.extract 0 s.size = s := by
  apply ByteArray.ext
  simp
theorem pre_size {s : ByteArray} {k : Nat} (h : k ≤ s.size) : (s.extract 0 k).size = k := by rw [ByteArray.size_extract]; omega
theorem pre_cut {s : ByteArray} {k : Nat} : (s.extract 0 (k + 1)).extract 0 k = s.extract 0 k := by
  apply ByteArray.ext
  rw [ByteArray.data_extract, ByteArray.data_extract, ByteArray.data_extract, Array.extract_extract]
  congr 1
  omega
theorem pre_get {s : ByteArray} {k i : Nat} (hk : k ≤ s.size) (h : i < k) : ∀ hh, ((s.extract 0 k)[i]'hh).toNat = (s[i]'(by omega)).toNat := by
  intro hh
  simp [ByteArray.getElem_extract]

set_option maxRecDepth 100000 in
set_option maxHeartbeats 2000000 in
theorem word_any {k : Nat} (hk : k < 15) (w : World) : Calls Tryd.prog 42 #[.int .i64 (k : Int)] w fun x w' => x = .returned (.string (nm k)) ∧ w' = w := by
  obtain ⟨f1, f2, f3, f4, f5, f6⟩ := pad_facts ⟨k, hk⟩
  simp only at f1 f2 f3 f4 f5 f6
  have HF : Hid ((∀ i : Fin 10, (nm k).size ≤ i.val → ((pad k).data.getD i.val 0).toNat = 32) ∧ ((pad k).data.getD ((nm k).size - 1) 0).toNat ≠ 32) := ⟨f5, f6⟩
  have HS : Hid ((pad k).size = 10 ∧ (pad k).extract 0 (nm k).size = nm k) := ⟨f1, f4⟩
  clear f1 f4 f5 f6
  obtain ⟨m, hm⟩ : ∃ m, (nm k).size = m := ⟨_, rfl⟩
  rw [hm] at f2 f3 HF HS
  have hp : pad k = nmsB.extract (10 * k) (10 * k + 10) := rfl
  unfold nmsB at hp
  generalize nm k = R at *
  generalize pad k = s at *
  have hp2 := hp.symm
  clear hp hm
  have i1 : (0 : Int) ≤ 10 * (k : Int) := by omega
  have i2 : 10 * (k : Int) ≤ 10 * (k : Int) + 10 := by omega
  have i3 : 10 * (k : Int) + 10 ≤ 150 := by omega
  go_enter Tryd.func42, Tryd.ntmps42
  go_wp2
  clear hp2 i1 i2 i3
  have h1 : ∀ i, m ≤ i → (h : i < s.size) → (s[i]'h).toNat = 32 := fun i hi h => by
    have a := HS.out.1
    have b := HF.out.1 ⟨i, by omega⟩ hi
    rw [getD_at h] at b
    exact b
  have h2 : ∀ h, (s[m - 1]'h).toNat ≠ 32 := fun h => by
    have b := HF.out.2
    rw [getD_at h] at b
    exact b
  have HH : Hid ((∀ i, m ≤ i → (h : i < s.size) → (s[i]'h).toNat = 32) ∧ (∀ h, (s[m - 1]'h).toNat ≠ 32)) := ⟨h1, h2⟩
  clear h1 h2 HF
  have HZ : Hid (s.size = 10) := HS.out.1
  go_loop [3] (fun v => ∃ k : Nat, v = .string (s.extract 0 k) ∧ m ≤ k ∧ k ≤ s.size) (fun v => textLen v)
  case atStart => exact ⟨s.size, by rw [ext_zero], by have := HZ.out; omega, Nat.le_refl _⟩
  case round =>
    clear hk
    obtain ⟨k, rfl, hmk, hk⟩ := hrel
    have hb10 := HZ.out
    have sz := pre_size hk
    by_cases c1 : m < k
    · obtain ⟨j, rfl⟩ : ∃ j, k = j + 1 := ⟨k - 1, by omega⟩
      have e0 := pre_get (s := s) hk (show j < j + 1 by omega)
      rw [HH.out.1 j (by omega) (by omega)] at e0
      have cut := pre_cut (s := s) (k := j)
      have HC : Hid ((s.extract 0 j).size = j) := pre_size (by omega)
      obtain ⟨T2, hT2⟩ : ∃ T, s.extract 0 j = T := ⟨_, rfl⟩
      obtain ⟨T, hT⟩ : ∃ T, s.extract 0 (j + 1) = T := ⟨_, rfl⟩
      rw [hT2] at cut
      rw [hT] at sz cut e0 ⊢
      have HT : Hid (s.extract 0 j = T2) := hT2
      have HSZ : Hid (T.size = j + 1) := sz
      have hpos : 0 < T.size := by omega
      have hbig : T.size ≤ 9223372036854775807 := by omega
      have ix : ((T.size : Int) - 1).toNat = j := by omega
      have ix2 : (T.size : Int) - 1 = (j : Int) := by omega
      have hj : j < T.size := by omega
      have e1 := e0 hj
      have hTj : (T.size : Int) = (j : Int) + 1 := by omega
      clear hT hT2 sz hb10
      go_wp2
      go_round
      case rel => exact ⟨j, by rw [HT.out], by omega, by omega⟩
      case measure =>
        show T2.size < T.size
        have a := HC.out
        rw [HT.out] at a
        have b := HSZ.out
        omega
    · obtain rfl : k = m := by omega
      clear c1 hmk
      have e0 := pre_get (s := s) hk (show k - 1 < k by omega)
      have hne := HH.out.2 (by omega)
      obtain ⟨v, hv⟩ : ∃ v, (s[k - 1]'(by omega)).toNat = v := ⟨_, rfl⟩
      rw [hv] at e0 hne
      have hne' : ((v : Int) == 32) = false := beq_eq_false_iff_ne.mpr (by omega)
      obtain ⟨T, hT⟩ : ∃ T, s.extract 0 k = T := ⟨_, rfl⟩
      have HTT : Hid (R = T) := by rw [← hT]; exact HS.out.2.symm
      rw [hT] at e0 sz ⊢
      have hpos : 0 < T.size := by omega
      have hbig : T.size ≤ 9223372036854775807 := by omega
      have ix : ((T.size : Int) - 1).toNat = k - 1 := by omega
      have hj : k - 1 < T.size := by omega
      have e1 := e0 hj
      clear hv hne hT hb10
      go_wp2
      go_ret
      exact ⟨by rw [HTT.out]; rfl, rfl⟩

/-- The rows of names, as cells. -/
def nmC : Array Value := #[.int .i64 1, .string ⟨#[97, 114, 103]⟩, .int .i64 2, .string ⟨#[108, 111, 110, 103]⟩, .int .i64 3, .string ⟨#[115, 121, 110, 116, 97, 120]⟩, .int .i64 4, .string ⟨#[114, 97, 110, 103, 101]⟩, .int .i64 5, .string ⟨#[115, 105, 122, 101]⟩, .int .i64 6, .string ⟨#[119, 105, 100, 116, 104]⟩, .int .i64 7, .string ⟨#[98, 97, 115, 101]⟩, .int .i64 8, .string ⟨#[112, 114, 101, 99, 105, 115, 105, 111, 110]⟩, .int .i64 9, .string ⟨#[108, 97, 121, 111, 117, 116]⟩, .int .i64 10, .string ⟨#[122, 101, 114, 111]⟩, .int .i64 20, .string ⟨#[98, 105, 103]⟩, .int .i64 21, .string ⟨#[98, 101, 108, 111, 119]⟩, .int .i64 30, .string ⟨#[100, 105, 103, 105, 116, 115]⟩, .int .i64 290, .string ⟨#[99, 97, 108, 108]⟩, .int .i64 291, .string ⟨#[108, 105, 110, 101]⟩]
def noC : Array Value := #[.int .i64 1, .int .i64 2, .int .i64 3, .int .i64 4, .int .i64 5, .int .i64 6, .int .i64 7, .int .i64 8, .int .i64 9, .int .i64 10, .int .i64 20, .int .i64 21, .int .i64 30, .int .i64 290, .int .i64 291]
theorem nmC_facts : ∀ k : Fin 15, nmC[k.val * 2]? = some (.int .i64 (no k.val)) ∧ nmC[k.val * 2 + 1]? = some (.string (nm k.val)) := by
  intro k
  match k with
  | ⟨0, _⟩ => exact ⟨rfl, rfl⟩
  | ⟨1, _⟩ => exact ⟨rfl, rfl⟩
  | ⟨2, _⟩ => exact ⟨rfl, rfl⟩
  | ⟨3, _⟩ => exact ⟨rfl, rfl⟩
  | ⟨4, _⟩ => exact ⟨rfl, rfl⟩
  | ⟨5, _⟩ => exact ⟨rfl, rfl⟩
  | ⟨6, _⟩ => exact ⟨rfl, rfl⟩
  | ⟨7, _⟩ => exact ⟨rfl, rfl⟩
  | ⟨8, _⟩ => exact ⟨rfl, rfl⟩
  | ⟨9, _⟩ => exact ⟨rfl, rfl⟩
  | ⟨10, _⟩ => exact ⟨rfl, rfl⟩
  | ⟨11, _⟩ => exact ⟨rfl, rfl⟩
  | ⟨12, _⟩ => exact ⟨rfl, rfl⟩
  | ⟨13, _⟩ => exact ⟨rfl, rfl⟩
  | ⟨14, _⟩ => exact ⟨rfl, rfl⟩
theorem noC_facts : ∀ k : Fin 15, noC[k.val]? = some (.int .i64 (no k.val)) := by
  intro k
  match k with
  | ⟨0, _⟩ => rfl
  | ⟨1, _⟩ => rfl
  | ⟨2, _⟩ => rfl
  | ⟨3, _⟩ => rfl
  | ⟨4, _⟩ => rfl
  | ⟨5, _⟩ => rfl
  | ⟨6, _⟩ => rfl
  | ⟨7, _⟩ => rfl
  | ⟨8, _⟩ => rfl
  | ⟨9, _⟩ => rfl
  | ⟨10, _⟩ => rfl
  | ⟨11, _⟩ => rfl
  | ⟨12, _⟩ => rfl
  | ⟨13, _⟩ => rfl
  | ⟨14, _⟩ => rfl
/-- The name of a number. -/
def nameR (n : Int) : ByteArray := match (List.range 15).find? (fun k => no k == n) with | some k => nm k | none => ⟨#[]⟩
/-- The number of a name. -/
def findR (s : ByteArray) : Int × Bool := match (List.range 15).find? (fun k => decide (nm k = s)) with | some k => (no k, true) | none => (0, false)
theorem nameR_all : ∀ k : Fin 15, nameR (no k.val) = nm k.val := by decide +kernel
theorem findR_all : ∀ k : Fin 15, findR (nm k.val) = (no k.val, true) := by decide +kernel
theorem nameR_miss {n : Int} (h : ∀ k, k < 15 → no k ≠ n) : nameR n = ⟨#[]⟩ := by
  have e : (List.range 15).find? (fun k => no k == n) = none := List.find?_eq_none.mpr fun k hk q => h k (List.mem_range.mp hk) (by simpa using q)
  unfold nameR
  rw [e]
theorem findR_miss {s : ByteArray} (h : ∀ k, k < 15 → nm k ≠ s) : findR s = (0, false) := by
  have e : (List.range 15).find? (fun k => decide (nm k = s)) = none := List.find?_eq_none.mpr fun k hk q => h k (List.mem_range.mp hk) (by simpa using q)
  unfold findR
  rw [e]

set_option maxRecDepth 100000 in
set_option maxHeartbeats 2000000 in
theorem names_any (w : World) : Calls Tryd.prog 41 #[] w fun x w' => x = .returned (.slice (some ⟨w.heap.size, 0, none⟩) 15 15) ∧ w' = w.alloc (.cells nmC 75) := by
  go_enter Tryd.func41, Tryd.ntmps41
  go_wp2
  go_ret
  exact ⟨rfl, rfl⟩

set_option maxRecDepth 100000 in
set_option maxHeartbeats 2000000 in
theorem number_any {k : Nat} (hk : k < 15) (w : World) : Calls Tryd.prog 43 #[.int .i64 (k : Int)] w fun x w' => x = .returned (.int .i64 (no k)) ∧ Below w.heap.size w w' := by
  have c := noC_facts ⟨k, hk⟩
  simp only at c
  have cc : (w.alloc (.cells noC 32)).cell? ⟨w.heap.size, k, none⟩ = some (.int .i64 (no k)) := by
    exact (Lib.cell_of_heap (heap_alloc_new w _) k).trans c
  unfold noC at cc
  clear c
  generalize no k = R at *
  have i1 : (0 : Int) ≤ (k : Int) := by omega
  have i2 : (k : Int) < 15 := by omega
  go_enter Tryd.func43, Tryd.ntmps43
  go_wp2
  go_ret
  exact ⟨rfl, (Below.refl _ _).alloc (Nat.le_refl _) _⟩
end Go.Proofs.YtelobjhmbabiaaaDoor
