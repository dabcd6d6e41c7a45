/-
  What a call of the document's Text of numbers of 128 bits answers in a program without wide: their decimal digits (mkdecrt.py: out of our own texts TextM and RText).
-/
import Derived.Test.YtghbngjjdeameaaGreatDoorQuo
import Derived.Laws.BytesArg
import Derived.Lib.ItoaNum
namespace Go.Proofs.YtghbngjjdeameaaGreatDoor
open Go.RowKit

/-- The decimal digits of a number, as a text. -/
def txt (V : Nat) : ByteArray := ⟨(Lib.decDigits V).toArray⟩

/-- The bytes of the digits from place k down to place 0. -/
def nums (V k : Nat) : List Int := (List.range (k + 1)).map fun i => ((48 + V / 10 ^ (k - i) % 10 : Nat) : Int)

theorem nums_len (V k : Nat) : (nums V k).length = k + 1 := by simp [nums]

theorem nums_at (V k i : Nat) (hi : i < k + 1) : (nums V k).getD i 0 = ((48 + V / 10 ^ (k - i) % 10 : Nat) : Int) := by
  unfold nums
  rw [List.getD_eq_getElem?_getD, List.getElem?_map, List.getElem?_range hi]
  rfl

theorem count_digits {V k : Nat} (h0 : V / 10 ^ (k + 1) = 0) (h1 : k = 0 ∨ V / 10 ^ k ≠ 0) : Lib.nDigits V = k + 1 := by
  have hp : 0 < 10 ^ (k + 1) := Nat.pow_pos (by omega)
  have l : V < 10 ^ (k + 1) := (Nat.div_eq_zero_iff_lt hp).mp h0
  rcases h1 with rfl | h1
  · exact Lib.nDigits_small (by simpa using l)
  · refine Lib.nDigits_unique k V ?_ l
    by_cases c : V < 10 ^ k
    · exact absurd (Nat.div_eq_of_lt c) h1
    · omega

theorem nums_txt {V k : Nat} (h : Lib.nDigits V = k + 1) : strOfNums (nums V k) = txt V := by
  unfold strOfNums txt nums
  rw [Lib.decDigits_eq, h, List.map_map]
  rfl

theorem pow_div (V k : Nat) : V / 10 ^ k / 10 = V / 10 ^ (k + 1) := by rw [Nat.div_div_eq_div_mul, Nat.pow_succ]

/-- A number of two words has at most 39 digits. -/
theorem few_digits {V k : Nat} (hV : V < 340282366920938463463374607431768211456) (h : V / 10 ^ k ≠ 0) : k < 39 := by
  by_cases c : k < 39
  · exact c
  · exfalso
    apply h
    apply Nat.div_eq_of_lt
    have : 10 ^ 39 ≤ 10 ^ k := Nat.pow_le_pow_right (by omega) (by omega)
    omega

/-- The k lowest digits, the highest first. -/
def digs (V k : Nat) : List Int := (List.range k).map fun i => ((48 + V / 10 ^ (k - 1 - i) % 10 : Nat) : Int)
theorem digs_nums (V k : Nat) : digs V (k + 1) = nums V k := rfl
theorem digs_len (V k : Nat) : (digs V k).length = k := by simp [digs]
theorem digs_succ (V k : Nat) : digs V (k + 1) = ((48 + V / 10 ^ k % 10 : Nat) : Int) :: digs V k := by
  unfold digs
  rw [List.range_succ_eq_map, List.map_cons, List.map_map]
  congr 1
  refine List.map_congr_left fun i hi => ?_
  show ((48 + V / 10 ^ (k + 1 - 1 - (i + 1)) % 10 : Nat) : Int) = ((48 + V / 10 ^ (k - 1 - i) % 10 : Nat) : Int)
  rw [show k + 1 - 1 - (i + 1) = k - 1 - i by omega]
theorem str_cons (x : Int) (xs : List Int) : strOfNums (x :: xs) = strOfNums [x] ++ strOfNums xs := by
  apply ByteArray.ext
  rw [ByteArray.data_append]
  simp [strOfNums]

theorem one_digit {r : Nat} (h : r < 10) : (⟨#[48, 49, 50, 51, 52, 53, 54, 55, 56, 57]⟩ : ByteArray).extract r (r + 1) = strOfNums [((48 + r : Nat) : Int)] := by
  rcases (by omega : r = 0 ∨ r = 1 ∨ r = 2 ∨ r = 3 ∨ r = 4 ∨ r = 5 ∨ r = 6 ∨ r = 7 ∨ r = 8 ∨ r = 9) with rfl | rfl | rfl | rfl | rfl | rfl | rfl | rfl | rfl | rfl <;> decide

/-- How long a text in a slot is. -/
def lenOf : Value → Nat | .string s => s.size | _ => 0

set_option maxHeartbeats 2000000 in
set_option maxRecDepth 100000 in
theorem rtext_any (h l : Int) (h1 : Word h) (h2 : Word l) (w : World) :
    Calls Tryz.prog 29 #[.agg #[.int .u64 h, .int .u64 l]] w fun e w' => e = .returned (.string (txt (val h l))) ∧ Below w.heap.size w w' := by
  have hv := val_lt h1 h2
  have vh := hiW_val h1 h2
  have vl := loW_val h1 h2
  obtain ⟨V, hV⟩ : ∃ v, val h l = v := ⟨_, rfl⟩
  rw [hV] at hv vh vl ⊢
  clear hV
  go_enter Tryz.func29, Tryz.ntmps29
  go_wp2
  go_loopw [3] (fun s wr => ∃ k : Nat, s = .string (strOfNums (digs V k)) ∧ k ≤ 38 ∧ (k = 0 ∨ V / 10 ^ k ≠ 0) ∧ Box wr w.heap.size (hiW (V / 10 ^ k)) (loW (V / 10 ^ k)) ∧ Below w.heap.size w wr ∧ w.heap.size < wr.heap.size) (fun s _ => 39 - lenOf s)
  case atStart =>
    refine ⟨0, rfl, by omega, Or.inl rfl, ?_, (Below.refl _ _).alloc (Nat.le_refl _) _, by simp⟩
    rw [Nat.pow_zero, Nat.div_one, vh, vl]
    exact Box.new w h l 54
  case round =>
    obtain ⟨k, rfl, hk, hnz, B, hbl, hsz⟩ := hrel
    have hD : V / 10 ^ k < 340282366920938463463374607431768211456 := Nat.lt_of_le_of_lt (Nat.div_le_self _ _) hv
    have w1 : Word (hiW (V / 10 ^ k)) := hiW_word hD
    have F := fun W => rdivw_any (hiW (V / 10 ^ k)) (loW (V / 10 ^ k)) 10 w1 (loW_word _) ⟨by omega, by omega⟩ (by omega) W
    rw [val_hl, show (10 : Int).toNat = 10 by rfl, pow_div] at F
    have r9 : V / 10 ^ k % 10 < 10 := Nat.mod_lt _ (by omega)
    have ds := digs_succ V k
    have sl := digs_len V k
    have HB : Hid (Box wr w.heap.size (hiW (V / 10 ^ k)) (loW (V / 10 ^ k))) := B
    have b0 := B.c0
    have b1 := B.c1
    have bf := B.fz
    have HZ : Hid (k = 0 ∨ V / 10 ^ k ≠ 0) := hnz
    have HD : Hid (digs V (k + 1) = ((48 + V / 10 ^ k % 10 : Nat) : Int) :: digs V k ∧ (digs V k).length = k) := ⟨ds, sl⟩
    clear ds sl B hnz
    have hl0 : V / 10 ^ (k + 1) ≠ 0 → k < 38 := fun z => by have := few_digits hv z; omega
    have hlz : hiW (V / 10 ^ (k + 1)) = 0 ∧ loW (V / 10 ^ (k + 1)) = 0 ↔ V / 10 ^ (k + 1) = 0 := ⟨fun z => hl_zero z.1 z.2, fun z => by rw [z]; exact ⟨hiW_zero, loW_zero⟩⟩
    have HL : Hid ((V / 10 ^ (k + 1) ≠ 0 → k < 38) ∧ (hiW (V / 10 ^ (k + 1)) = 0 ∧ loW (V / 10 ^ (k + 1)) = 0 ↔ V / 10 ^ (k + 1) = 0)) := ⟨hl0, hlz⟩
    clear hl0 hlz
    generalize V / 10 ^ k % 10 = r at *
    generalize digs V k = old at *
    have ex := one_digit r9
    have es : (strOfNums [((48 + r : Nat) : Int)]).size = 1 := by rw [strOfNums_size]; rfl
    have eo : (strOfNums old).size = k := by rw [strOfNums_size]; exact HD.out.2
    obtain ⟨new, hnew⟩ : ∃ s, strOfNums [((48 + r : Nat) : Int)] = s := ⟨_, rfl⟩
    rw [hnew] at ex es
    have HW : Hid (strOfNums [((48 + r : Nat) : Int)] = new) := hnew
    have HV : Hid (strOfNums (digs V (k + 1)) = new ++ strOfNums old) := by rw [HD.out.1, str_cons, hnew]; exact rfl
    clear hnew
    obtain ⟨qh, hqh⟩ : ∃ x, hiW (V / 10 ^ (k + 1)) = x := ⟨_, rfl⟩
    obtain ⟨ql, hql⟩ : ∃ x, loW (V / 10 ^ (k + 1)) = x := ⟨_, rfl⟩
    have HQ : Hid (hiW (V / 10 ^ (k + 1)) = qh ∧ loW (V / 10 ^ (k + 1)) = ql) := ⟨hqh, hql⟩
    rw [hqh, hql] at F
    clear hqh hql
    go_wp2_with fail
    refine (F _).mono ?_
    rintro e wa ⟨rfl, hba⟩
    have sa := hba.size
    have Ba := HB.out.below hba (by omega)
    have a0 := Ba.c0
    have a1 := Ba.c1
    have af := Ba.fz
    have q0 : w.heap.size < wa.heap.size := by omega
    clear b0 b1 bf
    have bl : Below w.heap.size w wa := hbl.trans (hba.mono (by omega))
    by_cases c : qh = 0 ∧ ql = 0
    · have hz : V / 10 ^ (k + 1) = 0 := HL.out.2.mp (by rw [HQ.out.1, HQ.out.2]; exact c)
      have hnd : Lib.nDigits V = k + 1 := count_digits hz HZ.out
      have HT : Hid (new ++ strOfNums old = txt V) := by
        have a := HV.out
        rw [digs_nums, nums_txt hnd] at a
        exact a.symm
      clear hz hnd
      obtain ⟨rfl, rfl⟩ := c
      go_wp2
      go_ret
      exact ⟨by rw [HT.out]; rfl, (((bl.setCell (p := ⟨w.heap.size, 0, none⟩) (Nat.le_refl _) _).setCell (p := ⟨w.heap.size, 1, none⟩) (Nat.le_refl _) _)).alloc (by simp only [World.size_setCell]; omega) _⟩
    · have hz : V / 10 ^ (k + 1) ≠ 0 := fun z => c (by have := HL.out.2.mpr z; rw [HQ.out.1, HQ.out.2] at this; exact this)
      have hk' := HL.out.1 hz
      have HZ2 : Hid (V / 10 ^ (k + 1) ≠ 0) := hz
      have c' : ((qh == 0) = true ∧ (ql == 0) = false) ∨ (qh == 0) = false := by
        by_cases x : qh = 0
        · exact Or.inl ⟨by simpa using x, by simp; omega⟩
        · exact Or.inr (by simpa using x)
      clear c hz
      rcases c' with ⟨c1, c2⟩ | c1
      all_goals
        go_wp2
        go_roundw
        case rel =>
          refine ⟨k + 1, by rw [HV.out], by omega, Or.inr HZ2.out, ?_, (((bl.setCell (p := ⟨w.heap.size, 0, none⟩) (Nat.le_refl _) _).setCell (p := ⟨w.heap.size, 1, none⟩) (Nat.le_refl _) _)).alloc (by simp only [World.size_setCell]; omega) _, by simp only [World.size_setCell, World.size_alloc]; omega⟩
          rw [HQ.out.1, HQ.out.2]
          exact (Ba.both _ _).alloc (by simp only [World.size_setCell]; omega) _
        case measure =>
          have a : (new ++ strOfNums old).size = 1 + k := by rw [ByteArray.size_append, es, eo]
          simp only [lenOf, a, eo]
          omega

end Go.Proofs.YtghbngjjdeameaaGreatDoor
