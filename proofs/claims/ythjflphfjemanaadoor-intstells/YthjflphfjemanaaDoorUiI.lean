/-
  The document's Format, Pad and Group: what they answer for every input.
-/
import Derived.Test.YthjflphfjemanaaDoorUiJ
namespace Go.Proofs.YthjflphfjemanaaDoor
open Go.RowKit

set_option maxRecDepth 100000 in
set_option maxHeartbeats 1000000 in
theorem rformat_no (V b : Int) (h : b < 2 ∨ 36 < b) (w : World) :
    Calls Tryd.prog 30 #[.int .u64 V, .int .i64 b] w fun x w' => x = .returned (.tuple #[.string ⟨#[]⟩, .int .i64 7]) ∧ w' = w := by
  have BA := fun W => rbase_no b h W
  clear h
  go_enter Tryd.func30, Tryd.ntmps30
  go_wp2_with fail
  refine (BA _).mono ?_
  rintro e w ⟨rfl, rfl⟩
  go_wp2
  go_ret2
  exact ⟨rfl, rfl⟩
theorem dg_slice (d : Nat) (h : d < 36) : (⟨#[48, 49, 50, 51, 52, 53, 54, 55, 56, 57, 97, 98, 99, 100, 101, 102, 103, 104, 105, 106, 107, 108, 109, 110, 111, 112, 113, 114, 115, 116, 117, 118, 119, 120, 121, 122]⟩ : ByteArray).extract d (d + 1) = ⟨#[dg8 d]⟩ := by
  have : ∀ d : Fin 36, (⟨#[48, 49, 50, 51, 52, 53, 54, 55, 56, 57, 97, 98, 99, 100, 101, 102, 103, 104, 105, 106, 107, 108, 109, 110, 111, 112, 113, 114, 115, 116, 117, 118, 119, 120, 121, 122]⟩ : ByteArray).extract d.val (d.val + 1) = ⟨#[dg8 d.val]⟩ := by decide +kernel
  exact this ⟨d, h⟩
set_option maxRecDepth 100000 in
set_option maxHeartbeats 1000000 in
theorem rformat_yes (V b : Nat) (hV : V < 18446744073709551616) (h1 : 2 ≤ b) (h2 : b ≤ 36) (w : World) :
    Calls Tryd.prog 30 #[.int .u64 (V : Int), .int .i64 (b : Int)] w fun x w' => x = .returned (.tuple #[.string ⟨(fl b V).toArray⟩, .int .i64 0]) ∧ w' = w := by
  have BY := fun W => rbase_yes (b : Int) (by omega) (by omega) W
  have u1 : IntKind.u64.wrap (b : Int) = (b : Int) := by rw [IntKind.wrap_u64]; omega
  have d0 : ((b : Int) == 0) = false := beq_eq_false_iff_ne.mpr (by omega)
  have H64 : Hid ((fl b V).length ≤ 64) := fl_le64 h1 hV
  obtain ⟨S, hS⟩ : ∃ S, S = (⟨(fl b V).toArray⟩ : ByteArray) := ⟨_, rfl⟩
  rw [← hS]
  have HS : Hid (S = ⟨(fl b V).toArray⟩) := hS
  clear hS
  go_enter Tryd.func30, Tryd.ntmps30
  go_wp2_with fail
  refine (BY _).mono ?_
  rintro e w ⟨rfl, rfl⟩
  clear BY
  go_wp2
  go_loop [0, 6] (fun vv sv => ∃ (y : Nat) (o : List UInt8) (t : ByteArray), vv = .int .u64 (y : Int) ∧ sv = .string t ∧ y < 18446744073709551616 ∧ t.size ≤ 64 ∧ Hid (t = ⟨o.toArray⟩ ∧ fl b V = fl b y ++ o)) (fun vv _ => (intOf vv).toNat)
  case atStart => exact ⟨V, [], ⟨#[]⟩, rfl, rfl, hV, by decide, ⟨rfl, by simp⟩⟩
  case round =>
    clear hV
    obtain ⟨y, o, t, rfl, rfl, hy, ht, HI⟩ := hrel
    have hd : y % b < b := Nat.mod_lt _ (by omega)
    have hr : (y : Int) % (b : Int) = ((y % b : Nat) : Int) := by rw [Int.natCast_emod]
    have hq : (y : Int) / (b : Int) = ((y / b : Nat) : Int) := by rw [Int.natCast_ediv]
    have hsl := dg_slice (y % b) (by omega)
    have ha : ∀ x : UInt8, (⟨#[x]⟩ : ByteArray) ++ t = ⟨(x :: o).toArray⟩ := fun x => by rw [HI.out.1]; exact str_append [x] o
    have hts : t.size = o.length := by rw [HI.out.1]; exact str_size o
    by_cases c : b ≤ y
    · have hsm : y / b < y := Nat.div_lt_self (by omega) (by omega)
      have hzp : 0 < y / b := Nat.div_pos c (by omega)
      have HF : Hid (fl b V = fl b (y / b) ++ (dg8 (y % b) :: o)) := by
        show _ = _
        rw [HI.out.2, fl_big h1 c]; simp
      have HL : Hid (o.length + 2 ≤ 64) := by
        have a1 := H64.out
        have a2 := fl_pos b (y / b)
        rw [HF.out] at a1
        simp at a1
        show _ ≤ _
        omega
      have HA : Hid ((⟨#[dg8 (y % b)]⟩ : ByteArray) ++ t = ⟨(dg8 (y % b) :: o).toArray⟩) := ha _
      have hls : (⟨#[dg8 (y % b)]⟩ ++ t : ByteArray).size ≤ 64 := by rw [ha, str_size]; have := HL.out; simp; omega
      clear ha hts HI
      generalize y / b = z at *
      generalize y % b = d at *
      have x0 : IntKind.u64.wrap (d : Int) = (d : Int) := by rw [IntKind.wrap_u64]; omega
      have x1 : IntKind.u64.wrap ((d : Int) + 1) = (d : Int) + 1 := by rw [IntKind.wrap_u64]; omega
      have x2 : IntKind.u64.wrap (z : Int) = (z : Int) := by rw [IntKind.wrap_u64]; omega
      have x3 : ((z : Int) == 0) = false := beq_eq_false_iff_ne.mpr (by omega)
      have hlen : ¬ 9223372036854775807 < 1 + t.size := by omega
      go_wp2
      go_round
      case rel => exact ⟨z, dg8 d :: o, ⟨#[dg8 d]⟩ ++ t, rfl, rfl, by omega, hls, ⟨HA.out, HF.out⟩⟩
      case measure => simp [intOf] <;> omega
    · have hz : y / b = 0 := Nat.div_eq_of_lt (by omega)
      have hm : y % b = y := Nat.mod_eq_of_lt (by omega)
      rw [hz] at hq
      rw [hm] at hr hsl hd
      have HF : Hid ((⟨#[dg8 y]⟩ : ByteArray) ++ t = S) := by
        show _ = _
        rw [ha, HS.out, HI.out.2, fl_small (by omega)]; rfl
      clear ha hts HI HS hz hm c
      have x0 : IntKind.u64.wrap (y : Int) = (y : Int) := by rw [IntKind.wrap_u64]; omega
      have x1 : IntKind.u64.wrap ((y : Int) + 1) = (y : Int) + 1 := by rw [IntKind.wrap_u64]; omega
      have hlen : ¬ 9223372036854775807 < 1 + t.size := by omega
      go_wp2
      go_ret2
      exact ⟨by rw [← HF.out]; rfl, rfl⟩

/-! Pad. -/
set_option maxRecDepth 100000 in
set_option maxHeartbeats 1000000 in
theorem rpad_no (V b n : Int) (h : b < 2 ∨ 36 < b) (w : World) :
    Calls Tryd.prog 39 #[.int .u64 V, .int .i64 b, .int .i64 n] w fun x w' => x = .returned (.tuple #[.string ⟨#[]⟩, .int .i64 7]) ∧ w' = w := by
  have F1 := fun W => rformat_no V b h W
  clear h
  go_enter Tryd.func39, Tryd.ntmps39
  go_wp2_with fail
  refine (F1 _).mono ?_
  rintro e w ⟨rfl, rfl⟩
  go_wp2
  go_ret2
  exact ⟨rfl, rfl⟩
set_option maxRecDepth 100000 in
set_option maxHeartbeats 1000000 in
theorem rpad_arg (V b : Nat) (n : Int) (hV : V < 18446744073709551616) (h1 : 2 ≤ b) (h2 : b ≤ 36) (h : n < 0 ∨ 1100 < n) (w : World) :
    Calls Tryd.prog 39 #[.int .u64 (V : Int), .int .i64 (b : Int), .int .i64 n] w fun x w' => x = .returned (.tuple #[.string ⟨#[]⟩, .int .i64 1]) ∧ w' = w := by
  have F1 := fun W => rformat_yes V b hV h1 h2 W
  have cs : n < 0 ∨ (¬ n < 0 ∧ 1100 < n) := by omega
  clear h
  rcases cs with l1 | ⟨l1, l2⟩
  all_goals
    go_enter Tryd.func39, Tryd.ntmps39
    go_wp2_with fail
    refine (F1 _).mono ?_
    rintro e w ⟨rfl, rfl⟩
    go_wp2
    go_ret2
    exact ⟨rfl, rfl⟩
set_option maxRecDepth 100000 in
set_option maxHeartbeats 1000000 in
theorem rpad_yes (V b n : Nat) (hV : V < 18446744073709551616) (h1 : 2 ≤ b) (h2 : b ≤ 36) (hn : n ≤ 1100) (w : World) :
    Calls Tryd.prog 39 #[.int .u64 (V : Int), .int .i64 (b : Int), .int .i64 (n : Int)] w fun x w' => x = .returned (.tuple #[.string ⟨(List.replicate (n - (fl b V).length) 48 ++ fl b V).toArray⟩, .int .i64 0]) ∧ w' = w := by
  have F1 := fun W => rformat_yes V b hV h1 h2 W
  obtain ⟨S, hS⟩ : ∃ S, S = (⟨(List.replicate (n - (fl b V).length) 48 ++ fl b V).toArray⟩ : ByteArray) := ⟨_, rfl⟩
  rw [← hS]
  have HS : Hid (S = ⟨(List.replicate (n - (fl b V).length) 48 ++ fl b V).toArray⟩) := hS
  have hl := fl_le64 h1 hV
  have hsz := str_size (fl b V)
  have h0 : ¬ (n : Int) < 0 := by omega
  have h11 : ¬ (1100 : Int) < (n : Int) := by omega
  clear hS hV
  obtain ⟨T, hT⟩ : ∃ T, T = (⟨(fl b V).toArray⟩ : ByteArray) := ⟨_, rfl⟩
  rw [← hT] at F1 hsz
  have HT : Hid (T = ⟨(fl b V).toArray⟩) := hT
  clear hT
  go_enter Tryd.func39, Tryd.ntmps39
  go_wp2_with fail
  refine (F1 _).mono ?_
  rintro e w ⟨rfl, rfl⟩
  clear F1
  go_wp2
  go_loop [8] (fun sv => ∃ (t : ByteArray) (j : Nat), sv = .string t ∧ t.size ≤ 1200 ∧ Hid (t = ⟨(List.replicate j 48 ++ fl b V).toArray⟩ ∧ t.size = j + (fl b V).length ∧ (j = 0 ∨ j + (fl b V).length ≤ n))) (fun sv => n - (match sv with | .string t => t.size | _ => 0))
  case atStart => exact ⟨T, 0, rfl, by omega, ⟨by rw [HT.out]; rfl, by omega, Or.inl rfl⟩⟩
  case round =>
    obtain ⟨t, j, rfl, ht, HI⟩ := hrel
    by_cases c : t.size < n
    · have c' : (t.size : Int) < (n : Int) := by omega
      have hlen : ¬ 9223372036854775807 < 1 + t.size := by omega
      have HA : Hid ((⟨#[48]⟩ : ByteArray) ++ t = ⟨(List.replicate (j + 1) 48 ++ fl b V).toArray⟩) := by
        show _ = _
        rw [HI.out.1, List.replicate_succ]; exact str_append [48] _
      have hsz2 : ((⟨#[48]⟩ : ByteArray) ++ t).size = t.size + 1 := by
        rw [ByteArray.size_append, Nat.add_comm]; rfl
      have HK : Hid (t.size = j + (fl b V).length) := HI.out.2.1
      obtain ⟨t2, ht2⟩ : ∃ t2, (⟨#[48]⟩ : ByteArray) ++ t = t2 := ⟨_, rfl⟩
      rw [ht2] at HA hsz2
      clear HI
      go_wp2
      go_round
      case rel => exact ⟨t2, j + 1, rfl, by omega, ⟨HA.out, by have := HK.out; omega, Or.inr (by have := HK.out; omega)⟩⟩
      case measure => show n - t2.size < n - t.size; omega
    · have c' : ¬ (t.size : Int) < (n : Int) := by omega
      have HF : Hid (t = S) := by
        show _ = _
        have e : n - (fl b V).length = j := by have a1 := HI.out.2.1; have a2 := HI.out.2.2; omega
        rw [HS.out, e]; exact HI.out.1
      clear HI HS
      go_wp2
      go_ret2
      exact ⟨by rw [← HF.out]; rfl, rfl⟩

/-! Group. -/
set_option maxRecDepth 100000 in
set_option maxHeartbeats 1000000 in
theorem rgroup_no (V b n : Int) (h : b < 2 ∨ 36 < b) (w : World) :
    Calls Tryd.prog 41 #[.int .u64 V, .int .i64 b, .int .i64 n] w fun x w' => x = .returned (.tuple #[.string ⟨#[]⟩, .int .i64 7]) ∧ w' = w := by
  have F1 := fun W => rformat_no V b h W
  clear h
  go_enter Tryd.func41, Tryd.ntmps41
  go_wp2_with fail
  refine (F1 _).mono ?_
  rintro e w ⟨rfl, rfl⟩
  go_wp2
  go_ret2
  exact ⟨rfl, rfl⟩
set_option maxRecDepth 100000 in
set_option maxHeartbeats 1000000 in
theorem rgroup_arg (V b : Nat) (n : Int) (hV : V < 18446744073709551616) (h1 : 2 ≤ b) (h2 : b ≤ 36) (h : n < 1) (w : World) :
    Calls Tryd.prog 41 #[.int .u64 (V : Int), .int .i64 (b : Int), .int .i64 n] w fun x w' => x = .returned (.tuple #[.string ⟨#[]⟩, .int .i64 1]) ∧ w' = w := by
  have F1 := fun W => rformat_yes V b hV h1 h2 W
  go_enter Tryd.func41, Tryd.ntmps41
  go_wp2_with fail
  refine (F1 _).mono ?_
  rintro e w ⟨rfl, rfl⟩
  go_wp2
  go_ret2
  exact ⟨rfl, rfl⟩
theorem one_at (s : ByteArray) {k : Nat} (h : k < s.size) : s.extract k (k + 1) = ⟨#[s[k]'h]⟩ := by
  apply ByteArray.ext
  apply Array.ext'
  rw [ls_slice s (Nat.le_succ _)]
  have hl : k < s.data.toList.length := by simpa using h
  rw [List.take_succ_eq_append_getElem hl, List.drop_append_of_le_length (by simp; omega), List.drop_eq_nil_of_le (by simp; omega)]
  rfl
set_option maxRecDepth 100000 in
set_option maxHeartbeats 1000000 in
theorem rgroup_yes (V b g : Nat) (hV : V < 18446744073709551616) (h1 : 2 ≤ b) (h2 : b ≤ 36) (hg : 1 ≤ g) (w : World) :
    Calls Tryd.prog 41 #[.int .u64 (V : Int), .int .i64 (b : Int), .int .i64 (g : Int)] w fun x w' => x = .returned (.tuple #[.string ⟨(gr g (fl b V)).toArray⟩, .int .i64 0]) ∧ w' = w := by
  have F1 := fun W => rformat_yes V b hV h1 h2 W
  have hl := fl_le64 h1 hV
  have hsz := str_size (fl b V)
  obtain ⟨s, hS⟩ : ∃ S, S = (⟨(fl b V).toArray⟩ : ByteArray) := ⟨_, rfl⟩
  have hsl : fl b V = s.data.toList := by rw [hS]
  rw [← hS] at F1 hsz
  have hs : s.size ≤ 64 := by omega
  rw [hsl]
  clear hS hsl hl hsz hV h1 h2
  have d0 : ((g : Int) == 0) = false := beq_eq_false_iff_ne.mpr (by omega)
  have g1 : ¬ (g : Int) < 1 := by omega
  obtain ⟨G, hG⟩ : ∃ G, G = (⟨(gr g s.data.toList).toArray⟩ : ByteArray) := ⟨_, rfl⟩
  rw [← hG]
  have HG : Hid (G = ⟨(gr g s.data.toList).toArray⟩) := hG
  clear hG
  go_enter Tryd.func41, Tryd.ntmps41
  go_wp2_with fail
  refine (F1 _).mono ?_
  rintro e w ⟨rfl, rfl⟩
  clear F1
  go_wp2
  go_loop [10, 11] (fun ov iv => ∃ (k : Nat) (o : List UInt8) (t : ByteArray), ov = .string t ∧ iv = .int .i64 (k : Int) ∧ k ≤ s.size ∧ t.size ≤ 2 * k ∧ Hid (t = ⟨o.toArray⟩ ∧ gr g s.data.toList = o ++ gr g (s.data.toList.drop k))) (fun _ iv => s.size - (intOf iv).toNat)
  case atStart => exact ⟨0, [], ⟨#[]⟩, rfl, rfl, Nat.zero_le _, Nat.le_refl _, ⟨rfl, by rw [List.drop_zero]; rfl⟩⟩
  case round =>
    obtain ⟨k, o, t, rfl, rfl, hk, ht, HI⟩ := hrel
    by_cases hlt : k < s.size
    · have hlt' : (k : Int) < (s.size : Int) := by omega
      have hone := one_at s hlt
      have HDR : Hid (s.data.toList.drop k = (s[k]'hlt) :: s.data.toList.drop (k + 1)) := drop_at s hlt
      have hrl : (s.data.toList.drop (k + 1)).length = s.size - 1 - k := by rw [List.length_drop]; simp; omega
      generalize s[k]'hlt = c at *
      obtain ⟨B, hB⟩ : ∃ B : Nat, s.size - 1 - k = B := ⟨_, rfl⟩
      have e1 : (s.size : Int) - 1 - (k : Int) = (B : Int) := by omega
      rw [hB] at hrl
      have ha : t ++ (⟨#[c]⟩ : ByteArray) = ⟨(o ++ [c]).toArray⟩ := by rw [HI.out.1]; exact str_append o [c]
      have hts : t.size = o.length := by rw [HI.out.1]; exact str_size o
      have hlen : ¬ 9223372036854775807 < t.size + 1 := by omega
      by_cases q : 0 < B
      · have q' : (0 : Int) < (B : Int) := by omega
        have t1 : (B : Int).tmod (g : Int) = ((B % g : Nat) : Int) := by rw [Int.tmod_eq_emod_of_nonneg (by omega), Int.natCast_emod]
        have t2 : (B : Int) % (g : Int) = ((B % g : Nat) : Int) := by rw [Int.natCast_emod]
        by_cases z : B % g = 0
        · have HN : Hid (gr g s.data.toList = ((o ++ [c]) ++ [95]) ++ gr g (s.data.toList.drop (k + 1))) := by
            show _ = _
            rw [HI.out.2, HDR.out, gr_yes (by rw [hrl]; exact ⟨q, z⟩)]; simp
          have z' : ((B % g : Nat) : Int) = 0 := by omega
          rw [z'] at t1 t2
          obtain ⟨ta, hta⟩ : ∃ x, t ++ (⟨#[c]⟩ : ByteArray) = x := ⟨_, rfl⟩
          rw [hta] at ha
          have hb : ta ++ (⟨#[95]⟩ : ByteArray) = ⟨((o ++ [c]) ++ [95]).toArray⟩ := by rw [ha]; exact str_append (o ++ [c]) [95]
          have hsa : ta.size = t.size + 1 := by rw [ha, str_size, hts]; simp
          have hlen2 : ¬ 9223372036854775807 < ta.size + 1 := by omega
          obtain ⟨tb, htb⟩ : ∃ x, ta ++ (⟨#[95]⟩ : ByteArray) = x := ⟨_, rfl⟩
          rw [htb] at hb
          have hsb : tb.size ≤ 2 * (k + 1) := by rw [hb, str_size]; simp; omega
          have HB : Hid (tb = ⟨((o ++ [c]) ++ [95]).toArray⟩) := hb
          clear HI HDR hrl hB z z' ha hb hts hsa
          go_wp2
          go_round
          case rel => exact ⟨k + 1, (o ++ [c]) ++ [95], tb, rfl, by go_num, by omega, hsb, ⟨HB.out, HN.out⟩⟩
          case measure => simp [intOf] <;> omega
        · have HN : Hid (gr g s.data.toList = (o ++ [c]) ++ gr g (s.data.toList.drop (k + 1))) := by
            show _ = _
            rw [HI.out.2, HDR.out, gr_no (by rw [hrl]; exact fun y => z y.2)]; simp
          have z' : (((B % g : Nat) : Int) == 0) = false := beq_eq_false_iff_ne.mpr (by omega)
          generalize B % g = m at *
          obtain ⟨ta, hta⟩ : ∃ x, t ++ (⟨#[c]⟩ : ByteArray) = x := ⟨_, rfl⟩
          rw [hta] at ha
          have hsb : ta.size ≤ 2 * (k + 1) := by rw [ha, str_size]; simp; omega
          have HB : Hid (ta = ⟨(o ++ [c]).toArray⟩) := ha
          clear HI HDR hrl hB z ha hts
          go_wp2
          go_round
          case rel => exact ⟨k + 1, o ++ [c], ta, rfl, by go_num, by omega, hsb, ⟨HB.out, HN.out⟩⟩
          case measure => simp [intOf] <;> omega
      · have HN : Hid (gr g s.data.toList = (o ++ [c]) ++ gr g (s.data.toList.drop (k + 1))) := by
          show _ = _
          rw [HI.out.2, HDR.out, gr_no (by rw [hrl]; exact fun y => q y.1)]; simp
        have q' : ¬ (0 : Int) < (B : Int) := by omega
        obtain ⟨ta, hta⟩ : ∃ x, t ++ (⟨#[c]⟩ : ByteArray) = x := ⟨_, rfl⟩
        rw [hta] at ha
        have hsb : ta.size ≤ 2 * (k + 1) := by rw [ha, str_size]; simp; omega
        have HB : Hid (ta = ⟨(o ++ [c]).toArray⟩) := ha
        clear HI HDR hrl hB ha hts q
        go_wp2
        go_round
        case rel => exact ⟨k + 1, o ++ [c], ta, rfl, by go_num, by omega, hsb, ⟨HB.out, HN.out⟩⟩
        case measure => simp [intOf] <;> omega
    · have HF : Hid (t = G) := by
        show _ = _
        have e := HI.out.2
        rw [drop_end s hlt] at e
        rw [HG.out, e, HI.out.1]; simp [gr]
      have hlt' : ¬ (k : Int) < (s.size : Int) := by omega
      clear HI HG
      go_wp2
      go_ret2
      exact ⟨by rw [← HF.out]; rfl, rfl⟩
end Go.Proofs.YthjflphfjemanaaDoor
