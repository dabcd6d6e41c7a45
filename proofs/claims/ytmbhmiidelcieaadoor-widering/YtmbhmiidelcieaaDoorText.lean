/-
  What a call of wide.Text answers, for all numbers of two words: their decimal digits.
-/
import Derived.Test.YtmbhmiidelcieaaDoorTextM
namespace Go.Proofs.YtmbhmiidelcieaaDoor
open Go.RowKit

theorem w10 : Word 10 := ⟨by omega, by omega⟩

theorem size_digit (w : World) : (sizeOf (Tryd.prog.elem 61)).run Tryd.prog w = .ok 1 w := by kernel_rfl
theorem len_digits : Tryd.prog.arrayLen 61 = 39 := by kernel_rfl
theorem und_digits : Tryd.prog.underlying 61 = some (.array (Tryd.prog.arrayLen 61) (Tryd.prog.elem 61)) := by kernel_rfl
theorem und_bytes : Tryd.prog.underlying 62 = some (.slice 5) := by kernel_rfl
theorem und_byte : Tryd.prog.underlying 5 = some (.int .u8) := by kernel_rfl
theorem und_string : Tryd.prog.underlying 9 = some .string := by kernel_rfl

/-- The array, cut from a place on. -/
theorem slice_at (N k : Nat) (hk : k ≤ 38) (w : World) :
    (Instr.sliceAt 61 (.pointer (some ⟨N, 0, none⟩)) (some (.int .i64 (38 - (k : Int)))) none none).run Tryd.prog w = .ok (.slice (some ⟨N, 38 - k, none⟩) (k + 1) (k + 1)) w := by
  rw [run_sliceAt_array_l w 61 _ und_digits .i64 _ (by omega) (by rw [len_digits]; omega), size_digit, len_digits]
  have e : (38 - (k : Int)).toNat = 38 - k := by omega
  have e2 : 39 - (38 - k) = k + 1 := by omega
  simp only [Result.andThen, slicedAt, e, e2]
  rw [if_neg (by omega)]
  simp [Addr.add]
  omega

/-- The bytes that are laid, as a text. -/
theorem text_at {N : Nat} {w wr : World} {V k : Nat} {h l : Int} (I : TInv N w wr V (k + 1) h l) (hk : k ≤ 38) :
    (convert 62 9 (.slice (some ⟨N + 1, 38 - k, none⟩) (k + 1) (k + 1))).run Tryd.prog wr = .ok (.string (strOfNums (nums V k))) wr := by
  refine run_convert_bytes_arg wr 62 5 und_bytes und_byte (N + 1) (38 - k) (k + 1) (k + 1) (nums V k) (nums_len V k) ?_ 9 und_string
  intro i hi
  rw [nums_at V k i hi, show 38 - k + i = 38 - (k - i) by omega]
  exact I.digs (k - i) (by omega)

set_option maxHeartbeats 2000000 in
theorem wtext_any (ah al : Int) (V : Nat) (hV : ah * 18446744073709551616 + al = (V : Int)) (h1 : Word ah) (h2 : Word al) (w : World) :
    Calls Tryd.prog 21 #[.agg #[.int .u64 ah, .int .u64 al]] w fun e w' => e = .returned (.string (txt V)) ∧ Below w.heap.size w w' := by
  obtain ⟨s1, s2⟩ := divw_eq (h := ah) (l := al) (b := 10) (by omega)
  obtain ⟨s3, s4⟩ := divw_words h1 h2 w10 (by omega)
  rw [hV] at s1 s2
  have hVlt : V < 340282366920938463463374607431768211456 := by have := h1.2; have := h2.2; have := h1.1; omega
  have HS : Hid (ah / 10 * 18446744073709551616 + dvQ (ah % 10) al 10 = ((V / 10 ^ 1 : Nat) : Int) ∧ dvR (ah % 10) al 10 = ((V % 10 : Nat) : Int)) := ⟨by rw [s1]; omega, by rw [s2]; omega⟩
  have d0 : 0 ≤ dvR (ah % 10) al 10 := by omega
  have d9 : dvR (ah % 10) al 10 ≤ 9 := by omega
  have HV : Hid (ah * 18446744073709551616 + al = (V : Int)) := hV
  clear s1 s2 hV
  go_enter Tryd.func21, Tryd.ntmps21
  go_wp2_with (go_at_call 31; refine (wdivide_any ah al 10 h1 h2 w10 (by omega) _).mono ?_; rintro e wa ⟨rfl, hba⟩; obtain ⟨hca, hfa⟩ := bcell hba; have hza := hba.size; simp at hca hfa hza; have q0 : w.heap.size < wa.heap.size := (by omega); have q1 : w.heap.size + 1 < wa.heap.size := (by omega))
  go_loopw [4, 5] (fun f d wr => ∃ (k : Nat) (h l : Int), f = .int .i64 (38 - (k : Int)) ∧ k ≤ 38 ∧ TInv w.heap.size w wr V (k + 1) h l ∧ h * 18446744073709551616 + l = ((V / 10 ^ (k + 1) : Nat) : Int) ∧ Word h ∧ Word l ∧ (k = 0 ∨ V / 10 ^ k ≠ 0)) (fun f _ _ => (intOf f).toNat)
  case atStart =>
    refine ⟨0, ah / 10, dvQ (ah % 10) al 10, rfl, by omega, ?_, HS.out.1, s3, s4, Or.inl rfl⟩
    exact (TInv.init V ah al _ _ (by decide)).step hba (by omega) rfl (by rw [HS.out.2]; simp)
  case round =>
    obtain ⟨k, h, l, rfl, hk, I, hv, g1, g2, hnz⟩ := hrel
    have b0 := I.box0
    have b1 := I.box1
    have f0 := I.fz0
    have f1 := I.fz1
    have z0 := I.size
    have HI : Hid (TInv w.heap.size w wr V (k + 1) h l) := I
    have HN : Hid (k = 0 ∨ V / 10 ^ k ≠ 0) := hnz
    have HH : Hid (h * 18446744073709551616 + l = ((V / 10 ^ (k + 1) : Nat) : Int)) := hv
    clear I hnz hca hfa hza q0 q1 hba
    by_cases c : h = 0 ∧ l = 0
    · obtain ⟨rfl, rfl⟩ := c
      have hsl := slice_at (w.heap.size + 1) k hk
      have htx := text_at HI.out hk
      have hnd : Lib.nDigits V = k + 1 := count_digits (by have := HH.out; omega) HN.out
      rw [nums_txt hnd] at htx
      clear g1 g2 hv hnd
      go_wp2
      go_ret
      exact ⟨rfl, HI.out.below⟩
    · have hv10 : V / 10 ^ (k + 1) ≠ 0 := by have := HH.out; have := g1.1; have := g2.1; omega
      have hk' := few_digits hVlt hv10
      obtain ⟨s1, s2⟩ := divw_eq (h := h) (l := l) (b := 10) (by omega)
      obtain ⟨s5, s6⟩ := divw_words g1 g2 w10 (by omega)
      rw [HH.out] at s1 s2
      have HT : Hid (h / 10 * 18446744073709551616 + dvQ (h % 10) l 10 = ((V / 10 ^ (k + 1 + 1) : Nat) : Int) ∧ dvR (h % 10) l 10 = ((V / 10 ^ (k + 1) % 10 : Nat) : Int)) := ⟨by rw [s1, ← pow_div V (k + 1)]; omega, by rw [s2]; omega⟩
      have d0 : 0 ≤ dvR (h % 10) l 10 := by omega
      have d9 : dvR (h % 10) l 10 ≤ 9 := by omega
      obtain ⟨ov, hcl⟩ : ∃ v, wr.cell? ⟨w.heap.size + 1, 38 - k - 1, none⟩ = some v := Option.isSome_iff_exists.mp (HI.out.cells _ (by omega))
      have HZ : Hid (V / 10 ^ (k + 1) ≠ 0) := hv10
      have p0 : w.heap.size < wr.heap.size := by omega
      have p1 : w.heap.size + 1 < wr.heap.size := by omega
      clear s1 s2 hv hv10
      have c' : ((h == 0) = true ∧ (l == 0) = false) ∨ (h == 0) = false := by
        by_cases x : h = 0
        · exact Or.inl ⟨by simpa using x, by simp; omega⟩
        · exact Or.inr (by simpa using x)
      rcases c' with ⟨c1, c2⟩ | c1
      all_goals
        go_wp2_with (go_at_call 31; refine (wdivide_any h l 10 g1 g2 w10 (by omega) _).mono ?_; rintro e wb ⟨rfl, hbb⟩; obtain ⟨hcb, hfb⟩ := bcell hbb)
        go_roundw
        case rel =>
          refine ⟨k + 1, h / 10, dvQ (h % 10) l 10, by go_num, by omega, ?_, HT.out.1, s5, s6, Or.inr HZ.out⟩
          exact HI.out.step hbb (by omega) (by omega) (by rw [HT.out.2]; omega)
        case measure => simp [intOf]; omega

end Go.Proofs.YtmbhmiidelcieaaDoor
