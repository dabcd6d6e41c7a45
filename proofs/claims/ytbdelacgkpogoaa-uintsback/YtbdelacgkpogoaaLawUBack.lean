/-
  The law UintsBack: the walk.
-/
import Derived.Test.YtbdelacgkpogoaaUiFp
namespace Go.Proofs.Ytbdelacgkpogoaa
open Go.RowKit

/-- Digits alone are parsed as their number. -/
theorem ps_digits {b : Nat} (h1 : 2 ≤ b) {l : List UInt8} (h0 : l ≠ []) (h : ∀ c ∈ l, isD b c = true) (hv : av b 0 l < 18446744073709551616) : psX b l = av b 0 l ∧ psE b l = 0 := by
  have z : b ≠ 0 := by omega
  have e := hdn_all l h
  have eL : bgL b l = l.length := by unfold bgL; rw [if_pos z]; exact e
  have eN : psN b l = av b 0 l := by
    unfold psN bgO bgA
    rw [if_pos z, if_pos z, List.drop_zero]
  have hl : 0 < bgL b l ∧ bgL b l = l.length := ⟨by rw [eL]; exact List.length_pos_iff.2 h0, eL⟩
  unfold psX psE
  rw [if_pos hl, if_pos hl, eN, if_pos hv, if_pos hv]
  exact ⟨rfl, rfl⟩
/-- What is parsed without an error is digits alone. -/
theorem ps_back {b : Nat} (h1 : 2 ≤ b) {l : List UInt8} (h : psE b l = 0) : l ≠ [] ∧ (∀ c ∈ l, isD b c = true) ∧ psX b l = av b 0 l ∧ av b 0 l < 18446744073709551616 := by
  have z : b ≠ 0 := by omega
  have eN : psN b l = av b 0 l := by
    unfold psN bgO bgA
    rw [if_pos z, if_pos z, List.drop_zero]
  have eL : bgL b l = hdn b l := by unfold bgL; rw [if_pos z]
  unfold psE at h
  by_cases q : 0 < bgL b l ∧ bgL b l = l.length
  · rw [if_pos q] at h
    by_cases y : psN b l < 18446744073709551616
    · refine ⟨fun e => ?_, hdn_mem l (eL ▸ q.2), ?_, eN ▸ y⟩
      · rw [e] at q; exact absurd q.1 (by rw [q.2]; simp)
      · unfold psX; rw [if_pos q, if_pos y, eN]
    · rw [if_neg y] at h; exact absurd h (by decide)
  · rw [if_neg q] at h; exact absurd h (by decide)
/-- Groups of four behind 0x are parsed as the number. -/
theorem ps_group {V : Nat} (hV : V < 18446744073709551616) : psX 0 (48 :: 120 :: gr 4 (fl 16 V)) = V ∧ psE 0 (48 :: 120 :: gr 4 (fl 16 V)) = 0 := by
  obtain ⟨l, hl⟩ : ∃ l, l = gr 4 (fl 16 V) := ⟨_, rfl⟩
  rw [← hl]
  have hN : aN (48 :: 120 :: l) = 2 := by
    unfold aN; rw [btl_zero, btl_one]; decide
  have hB : aB (48 :: 120 :: l) = 16 := by
    unfold aB; rw [btl_zero, btl_one]; decide
  have hd : ∀ c ∈ fl 16 V, isD 16 c = true := fl_digit (by decide) (by decide) V
  have hr : rch 16 true l = l.length := (rch_cgo l true).2 ⟨_, by rw [hl]; exact gr_cgo (by decide) _ true hd⟩
  have hp : 0 < l.length := by
    rw [hl]
    have := gr_hd (b := 16) (e := 4) (l := fl 16 V) (fl_pos 16 V) hd
    cases q : gr 4 (fl 16 V) with
    | nil => rw [q] at this; cases this
    | cons c r => simp
  have eR : bgR (48 :: 120 :: l) = l.length := by
    unfold bgR; rw [hB, hN]; exact hr
  have z : ¬ (0 : Nat) ≠ 0 := fun h => h rfl
  have q : ¬ (0 < aN (48 :: 120 :: l) ∧ bgR (48 :: 120 :: l) = 0) := by rw [eR]; omega
  have eL : bgL 0 (48 :: 120 :: l) = 2 + l.length := by unfold bgL; rw [if_neg z, if_neg q, hN, eR]
  have eO : bgO 0 (48 :: 120 :: l) = 16 := by unfold bgO; rw [if_neg z, if_neg q]; exact hB
  have eA : bgA 0 (48 :: 120 :: l) = 2 := by unfold bgA; rw [if_neg z, if_neg q]; exact hN
  have eN : psN 0 (48 :: 120 :: l) = V := by
    unfold psN
    rw [eO, eA]
    show av 16 0 l = V
    rw [hl, av_gr, av_fl (by decide) (by decide)]
  have hh : 0 < bgL 0 (48 :: 120 :: l) ∧ bgL 0 (48 :: 120 :: l) = (48 :: 120 :: l).length := by
    rw [eL]; simp; omega
  unfold psX psE
  rw [if_pos hh, if_pos hh, eN, if_pos hV, if_pos hV]
  exact ⟨rfl, rfl⟩
theorem pad_digit {b : Nat} (h1 : 2 ≤ b) (h2 : b ≤ 36) (V k : Nat) : ∀ c ∈ List.replicate k 48 ++ fl b V, isD b c = true := by
  intro c hc
  rcases List.mem_append.1 hc with q | q
  · rw [(List.mem_replicate.1 q).2]
    exact decide_eq_true (by show dv 48 < b; rw [show dv 48 = 0 by decide]; omega)
  · exact fl_digit h1 h2 V c q
theorem app_ne {l m : List UInt8} (h : 0 < m.length) : l ++ m ≠ [] := fun e => by
  have := congrArg List.length e
  simp at this
  rw [this.2] at h; simp at h
theorem ErV.none {w : World} {c t : ByteArray} {n : Int} {v : Value} (h : ErV w n c t v) (hn : n = 0) : v = .nilIface := by
  rcases h with q | q
  · exact q.2
  · exact absurd hn q.1

set_option maxRecDepth 100000 in
set_option maxHeartbeats 2000000 in
theorem back_no (V b : Int) (h : b < 2 ∨ 36 < b) (s : ByteArray) (w : World) :
    Calls Try.prog 3 #[.int .u64 V, .int .i64 b, .string s] w fun e w' => e = .returned (.bool true) ∧ Below w.heap.size w w' := by
  have F1 := fun W => format_no V b h W
  have S1 := fun W => sure_any W
  have cs : b < 2 ∨ (¬ b < 2 ∧ 36 < b) := by omega
  clear h
  rcases cs with l1 | ⟨l1, l2⟩
  all_goals
    go_enter Try.func3, Try.ntmps3
    go_wp2_with fail
    refine (F1 _).mono ?_
    rintro e w1 ⟨v, rfl, h1, b1⟩
    obtain ⟨T, x, rfl⟩ := h1.iface
    have B1 : Hid (Below w.heap.size w w1) := b1
    clear b1 h1
    go_wp2_with fail
    refine (S1 _).mono ?_
    rintro e w2 ⟨rfl, b2⟩
    have B2 : Hid (Below w.heap.size w w2) := B1.out.trans (b2.mono B1.out.size)
    clear b2
    go_wp2
    go_ret
    exact ⟨rfl, B2.out⟩
/-! The walk. -/
theorem arr_list (o : List UInt8) : (⟨o.toArray⟩ : ByteArray).data.toList = o := rfl
theorem head_at (s : ByteArray) (h : 0 < s.size) (hh : s.data.toList.head? = some 48) : ((s[0]'h).toNat : Int) = 48 := by
  have e := drop_at s h
  rw [List.drop_zero] at e
  rw [e] at hh
  simp at hh
  rw [hh]; rfl
set_option maxRecDepth 100000 in
set_option maxHeartbeats 4000000 in
theorem back_yes (V b : Nat) (hV : V < 18446744073709551616) (h1 : 2 ≤ b) (h2 : b ≤ 36) (s : ByteArray) (hs : s.size ≤ 140737488351232) (w : World) :
    Calls Try.prog 3 #[.int .u64 (V : Int), .int .i64 (b : Int), .string s] w fun e w' => e = .returned (.bool true) ∧ Below w.heap.size w w' := by
  have F1 := fun W => format_yes V b hV h1 h2 W
  have hd := fl_digit h1 h2 V
  have P1 := fun W => parse_yes ⟨(fl b V).toArray⟩ (by rw [str_size]; have := fl_le64 h1 hV; omega) b (Or.inr ⟨h1, h2⟩) W
  have e1 := ps_digits h1 (l := fl b V) (fun z => by have := fl_pos b V; rw [z] at this; simp at this) hd (by rw [av_fl h1 h2]; exact hV)
  rw [av_fl h1 h2] at e1
  rw [arr_list, e1.1, e1.2] at P1
  have PD := fun W => pad_yes V b 80 hV h1 h2 (by decide) W
  have P2 := fun W => parse_yes ⟨(List.replicate (80 - (fl b V).length) 48 ++ fl b V).toArray⟩ (by rw [str_size]; have := fl_le64 h1 hV; simp; omega) b (Or.inr ⟨h1, h2⟩) W
  have e2 := ps_digits h1 (app_ne (l := List.replicate (80 - (fl b V).length) 48) (fl_pos b V)) (pad_digit h1 h2 V _) (by rw [av_noughts, av_fl h1 h2]; exact hV)
  rw [av_noughts, av_fl h1 h2] at e2
  rw [arr_list, e2.1, e2.2] at P2
  have P3 := fun W => parse_yes s (by omega) b (Or.inr ⟨h1, h2⟩) W
  have HPB : Hid (psE b s.data.toList = 0 → s.data.toList ≠ [] ∧ (∀ c ∈ s.data.toList, isD b c = true) ∧ psX b s.data.toList = av b 0 s.data.toList ∧ av b 0 s.data.toList < 18446744073709551616) := ps_back h1
  have S1 := fun W => sure_any W
  clear e1 e2 hd
  generalize psX b s.data.toList = X at *
  generalize psE b s.data.toList = E at *
  obtain ⟨PP, hPP⟩ : ∃ P, P = (⟨(List.replicate (80 - (fl b V).length) 48 ++ fl b V).toArray⟩ : ByteArray) := ⟨_, rfl⟩
  rw [← hPP] at PD P2
  obtain ⟨FF, hFF⟩ : ∃ P, P = (⟨(fl b V).toArray⟩ : ByteArray) := ⟨_, rfl⟩
  rw [← hFF] at F1 P1
  clear hPP hFF
  have l0 : ¬ (b : Int) < 2 := by omega
  have l00 : ¬ (36 : Int) < (b : Int) := by omega
  have hs2 : s.size ≤ 9223372036854775805 := by omega
  by_cases h16 : b = 16
  · have GY := fun W => group_yes V 16 4 hV (by decide) (by decide) (by decide) W
    have P4 := fun W => parse_yes ⟨(48 :: 120 :: gr 4 (fl 16 V)).toArray⟩ (by rw [str_size]; have := gr_len 4 (fl 16 V); have := fl_le64 (b := 16) (by decide) hV; simp; omega) 0 (Or.inl rfl) W
    have e4 := ps_group hV
    rw [arr_list, e4.1, e4.2] at P4
    have HA : (⟨#[48, 120]⟩ : ByteArray) ++ ⟨(gr 4 (fl 16 V)).toArray⟩ = ⟨(48 :: 120 :: gr 4 (fl 16 V)).toArray⟩ := str_append [48, 120] _
    have hgs : (⟨(gr 4 (fl 16 V)).toArray⟩ : ByteArray).size ≤ 128 := by rw [str_size]; have := gr_len 4 (fl 16 V); have := fl_le64 (b := 16) (by decide) hV; omega
    rw [← HA] at P4
    obtain ⟨GG, hGG⟩ : ∃ P, P = (⟨(gr 4 (fl 16 V)).toArray⟩ : ByteArray) := ⟨_, rfl⟩
    rw [← hGG] at GY P4 hgs
    clear HA hGG e4 hV
    have hg2 : ¬ 9223372036854775807 < 2 + GG.size := by omega
    have h16' : ((b : Int) == 16) = true := by simp; omega
    clear h16
    go_enter Try.func3, Try.ntmps3
    go_wp2_with fail
    refine (F1 _).mono ?_
    rintro e w1 ⟨rfl, b1⟩
    have B1 : Hid (Below w.heap.size w w1) := b1
    clear b1
    go_wp2_with fail
    refine (P1 _).mono ?_
    rintro e w2 ⟨v2, rfl, hv2, b2⟩
    have B2 : Hid (Below w.heap.size w w2) := B1.out.trans (b2.mono B1.out.size)
    obtain rfl := hv2.none rfl
    clear b2 hv2
    go_wp2_with fail
    refine (PD _).mono ?_
    rintro e w3 ⟨rfl, b3⟩
    have B3 : Hid (Below w.heap.size w w3) := B2.out.trans (b3.mono B2.out.size)
    clear b3
    go_wp2_with fail
    refine (P2 _).mono ?_
    rintro e w4 ⟨v4, rfl, hv4, b4⟩
    have B4 : Hid (Below w.heap.size w w4) := B3.out.trans (b4.mono B3.out.size)
    obtain rfl := hv4.none rfl
    clear b4 hv4
    go_wp2_with fail
    refine (GY _).mono ?_
    rintro e w5 ⟨rfl, b5⟩
    have B5 : Hid (Below w.heap.size w w5) := B4.out.trans (b5.mono B4.out.size)
    clear b5
    go_wp2_with fail
    refine (P4 _).mono ?_
    rintro e w6 ⟨v6, rfl, hv6, b6⟩
    have B6 : Hid (Below w.heap.size w w6) := B5.out.trans (b6.mono B5.out.size)
    obtain rfl := hv6.none rfl
    clear b6 hv6
    go_wp2_with fail
    refine (P3 _).mono ?_
    rintro e w7 ⟨v7, rfl, hv7, b7⟩
    have B7 : Hid (Below w.heap.size w w7) := B6.out.trans (b7.mono B6.out.size)
    clear b7
    rcases hv7 with ⟨hz, rfl⟩ | ⟨hz, hw⟩
    · obtain ⟨g1, g2, g3, g4⟩ := HPB.out (by omega)
      have HX : Hid (X = av b 0 s.data.toList) := g3
      have F2 := fun W => format_yes X b (by rw [g3]; exact g4) h1 h2 W
      have HG : Hid (s.data.toList ≠ [] ∧ ∀ c ∈ s.data.toList, isD b c = true) := ⟨g1, g2⟩
      have h0 : 0 < s.size := by
        have := List.length_pos_iff.2 g1
        rw [ls_size] at this
        exact this
      clear g1 g2 g3 g4 hz
      by_cases q : 1 < s.size ∧ ((s[0]'h0).toNat : Int) = 48
      · obtain ⟨q1, q2⟩ := q
        have q1' : (1 : Int) < (s.size : Int) := by omega
        go_wp2_with fail
        refine (S1 _).mono ?_
        rintro e w8 ⟨rfl, b8⟩
        have B8 : Hid (Below w.heap.size w w8) := B7.out.trans (b8.mono B7.out.size)
        clear b8
        go_wp2
        go_ret
        exact ⟨rfl, B8.out⟩
      · have HQ : Hid (¬ (1 < s.size ∧ ((s[0]'h0).toNat : Int) = 48)) := q
        have cs : ¬ (1 : Int) < (s.size : Int) ∨ ((1 : Int) < (s.size : Int) ∧ (((s[0]'h0).toNat : Int) == 48) = false) := by
          by_cases z : 1 < s.size
          · exact Or.inr ⟨by omega, beq_eq_false_iff_ne.mpr (fun y => q ⟨z, y⟩)⟩
          · exact Or.inl (by omega)
        clear q
        rcases cs with l1 | ⟨l1, l2⟩
        all_goals
          go_wp2
          go_loop [21] (fun iv => ∃ k : Nat, iv = .int .i64 (k : Int) ∧ k ≤ s.size ∧ Hid (∀ c ∈ s.data.toList.take k, small c)) (fun iv => s.size - (intOf iv).toNat)
          case atStart => exact ⟨0, rfl, Nat.zero_le _, fun c hc => by simp at hc⟩
          case round =>
            obtain ⟨k, rfl, hk, HI⟩ := hrel
            by_cases hlt : k < s.size
            · have hlt' : (k : Int) < (s.size : Int) := by omega
              have HT : Hid (s.data.toList.take (k + 1) = s.data.toList.take k ++ [s[k]'hlt]) := by
                show _ = _
                have hl : k < s.data.toList.length := by simpa using hlt
                rw [List.take_succ_eq_append_getElem hl]; rfl
              by_cases q : 65 ≤ (s[k]'hlt).toNat ∧ (s[k]'hlt).toNat ≤ 90
              · obtain ⟨q1, q2⟩ := q
                have q1' : (65 : Int) ≤ ((s[k]'hlt).toNat : Int) := by omega
                have q2' : ((s[k]'hlt).toNat : Int) ≤ 90 := by omega
                clear HI HT q1 q2
                go_wp2_with fail
                refine (S1 _).mono ?_
                rintro e w8 ⟨rfl, b8⟩
                have B8 : Hid (Below w.heap.size w w8) := B7.out.trans (b8.mono B7.out.size)
                clear b8
                go_wp2
                go_ret
                exact ⟨rfl, B8.out⟩
              · have HN : Hid (∀ c ∈ s.data.toList.take (k + 1), small c) := by
                  intro c hc
                  rw [HT.out] at hc
                  rcases List.mem_append.1 hc with z | z
                  · exact HI.out c z
                  · rw [List.mem_singleton.1 z]; exact q
                have cs : ¬ (65 : Int) ≤ ((s[k]'hlt).toNat : Int) ∨ ((65 : Int) ≤ ((s[k]'hlt).toNat : Int) ∧ ¬ ((s[k]'hlt).toNat : Int) ≤ 90) := by omega
                clear HI HT q
                rcases cs with q1 | ⟨q1, q2⟩
                all_goals
                  go_wp2
                  go_round
                  case rel => exact ⟨k + 1, by go_num, by omega, HN⟩
                  case measure => simp [intOf] <;> omega
            · have hlt' : ¬ (k : Int) < (s.size : Int) := by omega
              have HF : (⟨(fl b X).toArray⟩ : ByteArray) = s := by
                have hk' : s.data.toList.take k = s.data.toList := List.take_of_length_le (by rw [ls_size]; omega)
                have hs := HI.out
                rw [hk'] at hs
                rw [HX.out, fl_av h1 h2 HG.out.1 (fun c hc => ⟨HG.out.2 c hc, hs c hc⟩) (fun z y => HQ.out ⟨by rw [ls_size] at z; exact z, head_at s h0 y⟩)]
              rw [HF] at F2
              clear HI HF HG HQ HX
              go_wp2_with fail
              refine (F2 _).mono ?_
              rintro e w8 ⟨rfl, b8⟩
              have B8 : Hid (Below w.heap.size w w8) := B7.out.trans (b8.mono B7.out.size)
              clear b8
              go_wp2_with fail
              refine (S1 _).mono ?_
              rintro e w9 ⟨rfl, b9⟩
              have B9 : Hid (Below w.heap.size w w9) := B8.out.trans (b9.mono B8.out.size)
              clear b9
              go_wp2
              go_ret
              exact ⟨rfl, B9.out⟩
    · obtain ⟨T, x, rfl⟩ := hw.iface
      clear hz hw
      go_wp2_with fail
      refine (S1 _).mono ?_
      rintro e w8 ⟨rfl, b8⟩
      have B8 : Hid (Below w.heap.size w w8) := B7.out.trans (b8.mono B7.out.size)
      clear b8
      go_wp2
      go_ret
      exact ⟨rfl, B8.out⟩
  · have h16' : ((b : Int) == 16) = false := beq_eq_false_iff_ne.mpr (by omega)
    clear h16 hV
    go_enter Try.func3, Try.ntmps3
    go_wp2_with fail
    refine (F1 _).mono ?_
    rintro e w1 ⟨rfl, b1⟩
    have B1 : Hid (Below w.heap.size w w1) := b1
    clear b1
    go_wp2_with fail
    refine (P1 _).mono ?_
    rintro e w2 ⟨v2, rfl, hv2, b2⟩
    have B2 : Hid (Below w.heap.size w w2) := B1.out.trans (b2.mono B1.out.size)
    obtain rfl := hv2.none rfl
    clear b2 hv2
    go_wp2_with fail
    refine (PD _).mono ?_
    rintro e w3 ⟨rfl, b3⟩
    have B3 : Hid (Below w.heap.size w w3) := B2.out.trans (b3.mono B2.out.size)
    clear b3
    go_wp2_with fail
    refine (P2 _).mono ?_
    rintro e w4 ⟨v4, rfl, hv4, b4⟩
    have B4 : Hid (Below w.heap.size w w4) := B3.out.trans (b4.mono B3.out.size)
    obtain rfl := hv4.none rfl
    clear b4 hv4
    go_wp2_with fail
    refine (P3 _).mono ?_
    rintro e w5 ⟨v5, rfl, hv5, b5⟩
    have B5 : Hid (Below w.heap.size w w5) := B4.out.trans (b5.mono B4.out.size)
    clear b5
    rcases hv5 with ⟨hz, rfl⟩ | ⟨hz, hw⟩
    · obtain ⟨g1, g2, g3, g4⟩ := HPB.out (by omega)
      have HX : Hid (X = av b 0 s.data.toList) := g3
      have F2 := fun W => format_yes X b (by rw [g3]; exact g4) h1 h2 W
      have HG : Hid (s.data.toList ≠ [] ∧ ∀ c ∈ s.data.toList, isD b c = true) := ⟨g1, g2⟩
      have h0 : 0 < s.size := by
        have := List.length_pos_iff.2 g1
        rw [ls_size] at this
        exact this
      clear g1 g2 g3 g4 hz
      by_cases q : 1 < s.size ∧ ((s[0]'h0).toNat : Int) = 48
      · obtain ⟨q1, q2⟩ := q
        have q1' : (1 : Int) < (s.size : Int) := by omega
        go_wp2_with fail
        refine (S1 _).mono ?_
        rintro e w6 ⟨rfl, b6⟩
        have B6 : Hid (Below w.heap.size w w6) := B5.out.trans (b6.mono B5.out.size)
        clear b6
        go_wp2
        go_ret
        exact ⟨rfl, B6.out⟩
      · have HQ : Hid (¬ (1 < s.size ∧ ((s[0]'h0).toNat : Int) = 48)) := q
        have cs : ¬ (1 : Int) < (s.size : Int) ∨ ((1 : Int) < (s.size : Int) ∧ (((s[0]'h0).toNat : Int) == 48) = false) := by
          by_cases z : 1 < s.size
          · exact Or.inr ⟨by omega, beq_eq_false_iff_ne.mpr (fun y => q ⟨z, y⟩)⟩
          · exact Or.inl (by omega)
        clear q
        rcases cs with l1 | ⟨l1, l2⟩
        all_goals
          go_wp2
          go_loop [21] (fun iv => ∃ k : Nat, iv = .int .i64 (k : Int) ∧ k ≤ s.size ∧ Hid (∀ c ∈ s.data.toList.take k, small c)) (fun iv => s.size - (intOf iv).toNat)
          case atStart => exact ⟨0, rfl, Nat.zero_le _, fun c hc => by simp at hc⟩
          case round =>
            obtain ⟨k, rfl, hk, HI⟩ := hrel
            by_cases hlt : k < s.size
            · have hlt' : (k : Int) < (s.size : Int) := by omega
              have HT : Hid (s.data.toList.take (k + 1) = s.data.toList.take k ++ [s[k]'hlt]) := by
                show _ = _
                have hl : k < s.data.toList.length := by simpa using hlt
                rw [List.take_succ_eq_append_getElem hl]; rfl
              by_cases q : 65 ≤ (s[k]'hlt).toNat ∧ (s[k]'hlt).toNat ≤ 90
              · obtain ⟨q1, q2⟩ := q
                have q1' : (65 : Int) ≤ ((s[k]'hlt).toNat : Int) := by omega
                have q2' : ((s[k]'hlt).toNat : Int) ≤ 90 := by omega
                clear HI HT q1 q2
                go_wp2_with fail
                refine (S1 _).mono ?_
                rintro e w6 ⟨rfl, b6⟩
                have B6 : Hid (Below w.heap.size w w6) := B5.out.trans (b6.mono B5.out.size)
                clear b6
                go_wp2
                go_ret
                exact ⟨rfl, B6.out⟩
              · have HN : Hid (∀ c ∈ s.data.toList.take (k + 1), small c) := by
                  intro c hc
                  rw [HT.out] at hc
                  rcases List.mem_append.1 hc with z | z
                  · exact HI.out c z
                  · rw [List.mem_singleton.1 z]; exact q
                have cs : ¬ (65 : Int) ≤ ((s[k]'hlt).toNat : Int) ∨ ((65 : Int) ≤ ((s[k]'hlt).toNat : Int) ∧ ¬ ((s[k]'hlt).toNat : Int) ≤ 90) := by omega
                clear HI HT q
                rcases cs with q1 | ⟨q1, q2⟩
                all_goals
                  go_wp2
                  go_round
                  case rel => exact ⟨k + 1, by go_num, by omega, HN⟩
                  case measure => simp [intOf] <;> omega
            · have hlt' : ¬ (k : Int) < (s.size : Int) := by omega
              have HF : (⟨(fl b X).toArray⟩ : ByteArray) = s := by
                have hk' : s.data.toList.take k = s.data.toList := List.take_of_length_le (by rw [ls_size]; omega)
                have hs := HI.out
                rw [hk'] at hs
                rw [HX.out, fl_av h1 h2 HG.out.1 (fun c hc => ⟨HG.out.2 c hc, hs c hc⟩) (fun z y => HQ.out ⟨by rw [ls_size] at z; exact z, head_at s h0 y⟩)]
              rw [HF] at F2
              clear HI HF HG HQ HX
              go_wp2_with fail
              refine (F2 _).mono ?_
              rintro e w6 ⟨rfl, b6⟩
              have B6 : Hid (Below w.heap.size w w6) := B5.out.trans (b6.mono B5.out.size)
              clear b6
              go_wp2_with fail
              refine (S1 _).mono ?_
              rintro e w7 ⟨rfl, b7⟩
              have B7 : Hid (Below w.heap.size w w7) := B6.out.trans (b7.mono B6.out.size)
              clear b7
              go_wp2
              go_ret
              exact ⟨rfl, B7.out⟩
    · obtain ⟨T, x, rfl⟩ := hw.iface
      clear hz hw
      go_wp2_with fail
      refine (S1 _).mono ?_
      rintro e w6 ⟨rfl, b6⟩
      have B6 : Hid (Below w.heap.size w w6) := B5.out.trans (b6.mono B5.out.size)
      clear b6
      go_wp2
      go_ret
      exact ⟨rfl, B6.out⟩
theorem back_law (V : Nat) (hV : V < 18446744073709551616) (b : Int) (s : ByteArray) (hs : s.size ≤ 140737488351232) (w : World) :
    Calls Try.prog 3 #[.int .u64 (V : Int), .int .i64 b, .string s] w fun e w' => e = .returned (.bool true) ∧ Below w.heap.size w w' := by
  by_cases h : b < 2 ∨ 36 < b
  · exact back_no V b h s w
  · obtain ⟨n, rfl⟩ : ∃ n : Nat, b = (n : Int) := ⟨b.toNat, by omega⟩
    exact back_yes V n hV (by omega) (by omega) s hs w
end Go.Proofs.Ytbdelacgkpogoaa
