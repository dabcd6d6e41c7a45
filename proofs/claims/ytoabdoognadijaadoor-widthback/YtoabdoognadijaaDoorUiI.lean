/-
  The document's Format, Pad and Group: what they answer for every input.
-/
import Derived.Test.YtoabdoognadijaaDoorUiJ
namespace Go.Proofs.YtoabdoognadijaaDoor
open Go.RowKit

set_option maxRecDepth 100000 in
set_option maxHeartbeats 1000000 in
theorem rformat_no (V b : Int) (h : b < 2 ∨ 36 < b) (w : World) :
    Calls Tryd.prog 41 #[.int .u64 V, .int .i64 b] w fun x w' => x = .returned (.tuple #[.string ⟨#[]⟩, .int .i64 7]) ∧ w' = w := by
  have BA := fun W => rbase_no b h W
  clear h
  go_enter Tryd.func41, Tryd.ntmps41
  go_wp2_with fail
  refine (BA _).mono ?_
  rintro e w ⟨rfl, rfl⟩
  go_wp2
  go_ret2
  exact ⟨rfl, rfl⟩
theorem dg_slice (d : Nat) (h : d < 36) : (⟨#[48, 49, 50, 51, 52, 53, 54, 55, 56, 57, 97, 98, 99, 100, 101, 102, 103, 104, 105, 106, 107, 108, 109, 110, 111, 112, 113, 114, 115, 116, 117, 118, 119, 120, 121, 122]⟩ : ByteArray).extract d (d + 1) = ⟨#[dg8 d]⟩ := by
  have : ∀ d : Fin 36, (⟨#[48, 49, 50, 51, 52, 53, 54, 55, 56, 57, 97, 98, 99, 100, 101, 102, 103, 104, 105, 106, 107, 108, 109, 110, 111, 112, 113, 114, 115, 116, 117, 118, 119, 120, 121, 122]⟩ : ByteArray).extract d.val (d.val + 1) = ⟨#[dg8 d.val]⟩ := by decide +kernel
  exact this ⟨d, h⟩
set_option maxRecDepth 100000 in
set_option maxHeartbeats 1000000 in
theorem rformat_yes (V b : Nat) (hV : V < 18446744073709551616) (h1 : 2 ≤ b) (h2 : b ≤ 36) (w : World) :
    Calls Tryd.prog 41 #[.int .u64 (V : Int), .int .i64 (b : Int)] w fun x w' => x = .returned (.tuple #[.string ⟨(fl b V).toArray⟩, .int .i64 0]) ∧ w' = w := by
  have BY := fun W => rbase_yes (b : Int) (by omega) (by omega) W
  have u1 : IntKind.u64.wrap (b : Int) = (b : Int) := by rw [IntKind.wrap_u64]; omega
  have d0 : ((b : Int) == 0) = false := beq_eq_false_iff_ne.mpr (by omega)
  have H64 : Hid ((fl b V).length ≤ 64) := fl_le64 h1 hV
  obtain ⟨S, hS⟩ : ∃ S, S = (⟨(fl b V).toArray⟩ : ByteArray) := ⟨_, rfl⟩
  rw [← hS]
  have HS : Hid (S = ⟨(fl b V).toArray⟩) := hS
  clear hS
  go_enter Tryd.func41, Tryd.ntmps41
  go_wp2_with fail
  refine (BY _).mono ?_
  rintro e w ⟨rfl, rfl⟩
  clear BY
  go_wp2
  go_loop [0, 6] (fun vv sv => ∃ (y : Nat) (o : List UInt8) (t : ByteArray), vv = .int .u64 (y : Int) ∧ sv = .string t ∧ y < 18446744073709551616 ∧ t.size ≤ 64 ∧ Hid (t = ⟨o.toArray⟩ ∧ fl b V = fl b y ++ o)) (fun vv _ => (intOf vv).toNat)
  case atStart => exact ⟨V, [], ⟨#[]⟩, rfl, rfl, hV, by decide, ⟨rfl, by simp⟩⟩
  case round =>
    clear hV
    obtain ⟨y, o, t, rfl, rfl, hy, ht, HI⟩ := hrel
    have hd : y % b < b := Nat.mod_lt _ (by omega)
    have hr : (y : Int) % (b : Int) = ((y % b : Nat) : Int) := by rw [Int.natCast_emod]
    have hq : (y : Int) / (b : Int) = ((y / b : Nat) : Int) := by rw [Int.natCast_ediv]
    have hsl := dg_slice (y % b) (by omega)
    have ha : ∀ x : UInt8, (⟨#[x]⟩ : ByteArray) ++ t = ⟨(x :: o).toArray⟩ := fun x => by rw [HI.out.1]; exact str_append [x] o
    have hts : t.size = o.length := by rw [HI.out.1]; exact str_size o
    by_cases c : b ≤ y
    · have hsm : y / b < y := Nat.div_lt_self (by omega) (by omega)
      have hzp : 0 < y / b := Nat.div_pos c (by omega)
      have HF : Hid (fl b V = fl b (y / b) ++ (dg8 (y % b) :: o)) := by
        show _ = _
        rw [HI.out.2, fl_big h1 c]; simp
      have HL : Hid (o.length + 2 ≤ 64) := by
        have a1 := H64.out
        have a2 := fl_pos b (y / b)
        rw [HF.out] at a1
        simp at a1
        show _ ≤ _
        omega
      have HA : Hid ((⟨#[dg8 (y % b)]⟩ : ByteArray) ++ t = ⟨(dg8 (y % b) :: o).toArray⟩) := ha _
      have hls : (⟨#[dg8 (y % b)]⟩ ++ t : ByteArray).size ≤ 64 := by rw [ha, str_size]; have := HL.out; simp; omega
      clear ha hts HI
      generalize y / b = z at *
      generalize y % b = d at *
      have x0 : IntKind.u64.wrap (d : Int) = (d : Int) := by rw [IntKind.wrap_u64]; omega
      have x1 : IntKind.u64.wrap ((d : Int) + 1) = (d : Int) + 1 := by rw [IntKind.wrap_u64]; omega
      have x2 : IntKind.u64.wrap (z : Int) = (z : Int) := by rw [IntKind.wrap_u64]; omega
      have x3 : ((z : Int) == 0) = false := beq_eq_false_iff_ne.mpr (by omega)
      have hlen : ¬ 9223372036854775807 < 1 + t.size := by omega
      go_wp2
      go_round
      case rel => exact ⟨z, dg8 d :: o, ⟨#[dg8 d]⟩ ++ t, rfl, rfl, by omega, hls, ⟨HA.out, HF.out⟩⟩
      case measure => simp [intOf] <;> omega
    · have hz : y / b = 0 := Nat.div_eq_of_lt (by omega)
      have hm : y % b = y := Nat.mod_eq_of_lt (by omega)
      rw [hz] at hq
      rw [hm] at hr hsl hd
      have HF : Hid ((⟨#[dg8 y]⟩ : ByteArray) ++ t = S) := by
        show _ = _
        rw [ha, HS.out, HI.out.2, fl_small (by omega)]; rfl
      clear ha hts HI HS hz hm c
      have x0 : IntKind.u64.wrap (y : Int) = (y : Int) := by rw [IntKind.wrap_u64]; omega
      have x1 : IntKind.u64.wrap ((y : Int) + 1) = (y : Int) + 1 := by rw [IntKind.wrap_u64]; omega
      have hlen : ¬ 9223372036854775807 < 1 + t.size := by omega
      go_wp2
      go_ret2
      exact ⟨by rw [← HF.out]; rfl, rfl⟩

/-! Pad. -/
/-! Group. -/
theorem one_at (s : ByteArray) {k : Nat} (h : k < s.size) : s.extract k (k + 1) = ⟨#[s[k]'h]⟩ := by
  apply ByteArray.ext
  apply Array.ext'
  rw [ls_slice s (Nat.le_succ _)]
  have hl : k < s.data.toList.length := by simpa using h
  rw [List.take_succ_eq_append_getElem hl, List.drop_append_of_le_length (by simp; omega), List.drop_eq_nil_of_le (by simp; omega)]
  rfl
end Go.Proofs.YtoabdoognadijaaDoor
