/-
  The statement DecOrder, the middle part of it walked.
-/
import Derived.Test.YtladeppjccfbhaaDoorLawDOrderA
import Derived.Test.YtladeppjccfbhaaDoorDecOm
namespace Go.Proofs.YtladeppjccfbhaaDoor
open Go.RowKit

theorem one_byte (w : World) : (w.alloc (.cells #[.int .u8 48] 5)).cell? ((⟨w.heap.size, 0, none⟩ : Addr).add 0) = some (.int .u8 48) := by
  rw [Addr.add_lit]
  simp
/-- How long a slice in a slot is. -/
def lenS : Value → Nat | .slice _ n _ => n | _ => 0

set_option maxHeartbeats 8000000 in
set_option maxRecDepth 100000 in
theorem order_mu {s : ByteArray} {p : Int} (g0 : VN s p false) (hl : s.size ≤ 700) (hp0 : -1000 ≤ p) (hp1 : p ≤ 1000) {x : Int} {u n m : Nat} (e1 : IntKind.u64.wrap x = (u : Int)) (e2 : (u : Int) % 40 = (n : Int)) (hn : n < 40) (hs : n < s.size)
    {sl sh : ByteArray} (O : Ord s p n sl p sh p sh p (-1) (-1)) (zl : sl.size = m) (m0 : 0 < m) (hm : m ≤ n) (dl : ∀ j, j < sl.size → dgt sl j = dgt s j) (dz : ∀ j, m ≤ j → j < n → dgt s j = 48) (ne : sl ≠ sh)
    (CC : ∀ W, Calls Tryd.prog 8 #[dcV s p false, dcV (btw s n) p false] W fun e w' => e = .returned (.tuple #[.int .i64 1, .nilIface]) ∧ Below W.heap.size W w')
    {r : Int} (hr : ((dgt s (n - 1) : Int) - 48) % 2 = r) (w : World) (hA : AtoiV w) (hP : PowB w.heap.size w) :
    Calls Tryd.prog 6 #[dcV s p false, .int .i64 x] w fun e w' => e = .returned (.bool true) ∧ Below w.heap.size w w' := by
  obtain ⟨i0, hi, hz0, hz1, hz2⟩ := info_parts info_b8
  obtain ⟨DN, UP, RN, CA, CB, L1, L2⟩ := O
  have h : VD s p false := Or.inr g0
  obtain ⟨s2, p2, DB, HV⟩ := half_twice h hl hp0 hp1
  have VV := fun W => dvalid_yes h W
  have TX := fun W hW => dtext_vd h W hW
  have tz : (TXB s p false).size ≤ 140737488355328 := TXB_size h
  have RD := fun W a b => dread_yes tz h (TXB_list s p false) W a b
  have FS := fun W => sure_any W
  have MK := fun W => btw_make g0 hp0 hp1 (show 0 < n by omega) hn hs W
  generalize TXB s p false = T at *
  have HA : Hid (AtoiV w) := hA
  have HP : Hid (PowB w.heap.size w) := hP
  have c1 : ¬ (700 : Int) < (s.size : Int) := by omega
  have c2 : ¬ p < -1000 := by omega
  have c3 : ¬ 1000 < p := by omega
  have ew : IntKind.i64.wrap (n : Int) = (n : Int) := by unfold IntKind.wrap; simp [IntKind.bits, IntKind.signed]; omega
  have ss : (s.toList == s.toList) = true := beq_self_eq_true _
  have s1 : (sl.toList == sl.toList) = true := beq_self_eq_true _
  have s3 : (sh.toList == sh.toList) = true := beq_self_eq_true _
  have n1 : (sl.toList == sh.toList) = false := list_ne (fun q => ne (ba_list q))
  have n2 : (sh.toList == sl.toList) = false := list_ne (fun q => ne (ba_list q.symm))
  have hz : 0 < sl.size := by omega
  have HD : Hid (∀ j, m ≤ j → j < n → dgt s j = 48) := dz
  have HL : Hid (∀ j, j < sl.size → dgt sl j = dgt s j) := dl
  have zd := dgt_in g0.dg (n - 1)
  have HR : Hid (((dgt s (n - 1) : Int) - 48) % 2 = r ∧ 48 ≤ dgt s (n - 1) ∧ dgt s (n - 1) ≤ 57) := ⟨hr, zd⟩
  have pe : s.extract 0 n ++ (⟨#[53]⟩ : ByteArray) = btw s n := rfl
  have pz := pre_size (s := s) (k := n) (by omega)
  have q5 : ∀ W, (Op.stringOp .add (s.extract 0 n) ⟨#[53]⟩).run Tryd.prog W = .ok (.string (btw s n)) W := fun W => by rw [← pe]; exact run_string_add_sum W _ _ (by rw [show (⟨#[53]⟩ : ByteArray).size = 1 from rfl]; omega)
  have HT : Hid (∀ (N : Nat) (W : World) (v : Value) (g cap : Nat), Bs N W s v n g cap → (Go.convert 48 9 v).run Tryd.prog W = .ok (.string (s.extract 0 n)) W) := fun N W v g cap b => bs_text b (by omega)
  clear hA hP h hl hp0 hp1 tz g0 dz dl ne hr zd pe pz hs
  generalize btw s n = bt at *
  generalize s.extract 0 n = pre at *
  unfold dcV at *
  have X0 : Hid (BoxAt (w.alloc (.cells #[.string s, .int .i64 p, .bool false] 23)) w.heap.size s p false) := BoxAt.new w s p false
  have B0 : Hid (Below w.heap.size w (w.alloc (.cells #[.string s, .int .i64 p, .bool false] 23))) := (Below.refl _ _).alloc (Nat.le_refl _) _
  go_enter Tryd.func6, Tryd.ntmps6
  go_wp2_with fail
  refine (VV _).mono ?_
  rintro e w1 ⟨rfl, hb⟩
  have B1 : Hid (Below w.heap.size w w1) := B0.out.trans (hb.mono B0.out.size)
  replace X0 : Hid (BoxAt w1 w.heap.size s p false) := X0.out.step hb
  clear hb
  obtain ⟨_, y00, y01, y02⟩ := X0.out
  go_wp2_with fail
  refine (DN _).mono ?_
  rintro e w2 ⟨rfl, hb⟩
  clear y00 y01 y02
  have B2 : Hid (Below w.heap.size w (w2.alloc (.cells #[.string sl, .int .i64 p, .bool false] 23))) := (B1.out.trans (hb.mono B1.out.size)).alloc (Nat.le_trans B1.out.size hb.size) _
  replace X0 : Hid (BoxAt (w2.alloc (.cells #[.string sl, .int .i64 p, .bool false] 23)) w.heap.size s p false) := (X0.out.step hb).al _
  have X1 : Hid (BoxAt (w2.alloc (.cells #[.string sl, .int .i64 p, .bool false] 23)) w2.heap.size sl p false) := BoxAt.new w2 sl p false
  clear hb
  obtain ⟨_, y00, y01, y02⟩ := X0.out
  go_wp2_with fail
  refine (UP _).mono ?_
  rintro e w3 ⟨rfl, hb⟩
  clear y00 y01 y02
  have B3 : Hid (Below w.heap.size w (w3.alloc (.cells #[.string sh, .int .i64 p, .bool false] 23))) := (B2.out.trans (hb.mono B2.out.size)).alloc (Nat.le_trans B2.out.size hb.size) _
  replace X0 : Hid (BoxAt (w3.alloc (.cells #[.string sh, .int .i64 p, .bool false] 23)) w.heap.size s p false) := (X0.out.step hb).al _
  replace X1 : Hid (BoxAt (w3.alloc (.cells #[.string sh, .int .i64 p, .bool false] 23)) w2.heap.size sl p false) := (X1.out.step hb).al _
  have X2 : Hid (BoxAt (w3.alloc (.cells #[.string sh, .int .i64 p, .bool false] 23)) w3.heap.size sh p false) := BoxAt.new w3 sh p false
  clear hb
  obtain ⟨_, y00, y01, y02⟩ := X0.out
  go_wp2_with fail
  refine (RN _).mono ?_
  rintro e w4 ⟨rfl, hb⟩
  clear y00 y01 y02
  have B4 : Hid (Below w.heap.size w (w4.alloc (.cells #[.string sh, .int .i64 p, .bool false] 23))) := (B3.out.trans (hb.mono B3.out.size)).alloc (Nat.le_trans B3.out.size hb.size) _
  replace X0 : Hid (BoxAt (w4.alloc (.cells #[.string sh, .int .i64 p, .bool false] 23)) w.heap.size s p false) := (X0.out.step hb).al _
  replace X1 : Hid (BoxAt (w4.alloc (.cells #[.string sh, .int .i64 p, .bool false] 23)) w2.heap.size sl p false) := (X1.out.step hb).al _
  replace X2 : Hid (BoxAt (w4.alloc (.cells #[.string sh, .int .i64 p, .bool false] 23)) w3.heap.size sh p false) := (X2.out.step hb).al _
  have X3 : Hid (BoxAt (w4.alloc (.cells #[.string sh, .int .i64 p, .bool false] 23)) w4.heap.size sh p false) := BoxAt.new w4 sh p false
  clear hb
  obtain ⟨_, y00, y01, y02⟩ := X0.out
  obtain ⟨_, y10, y11, y12⟩ := X1.out
  obtain ⟨_, y20, y21, y22⟩ := X2.out
  go_wp2_with fail
  refine (CA _).mono ?_
  rintro e w5 ⟨rfl, hb⟩
  clear y00 y01 y02
  clear y10 y11 y12
  clear y20 y21 y22
  have B5 : Hid (Below w.heap.size w w5) := B4.out.trans (hb.mono B4.out.size)
  replace X0 : Hid (BoxAt w5 w.heap.size s p false) := X0.out.step hb
  replace X1 : Hid (BoxAt w5 w2.heap.size sl p false) := X1.out.step hb
  replace X2 : Hid (BoxAt w5 w3.heap.size sh p false) := X2.out.step hb
  replace X3 : Hid (BoxAt w5 w4.heap.size sh p false) := X3.out.step hb
  clear hb
  obtain ⟨_, y00, y01, y02⟩ := X0.out
  obtain ⟨_, y20, y21, y22⟩ := X2.out
  go_wp2_with fail
  refine (CB _).mono ?_
  rintro e w6 ⟨rfl, hb⟩
  clear y00 y01 y02
  clear y20 y21 y22
  have B6 : Hid (Below w.heap.size w w6) := B5.out.trans (hb.mono B5.out.size)
  replace X0 : Hid (BoxAt w6 w.heap.size s p false) := X0.out.step hb
  replace X1 : Hid (BoxAt w6 w2.heap.size sl p false) := X1.out.step hb
  replace X2 : Hid (BoxAt w6 w3.heap.size sh p false) := X2.out.step hb
  replace X3 : Hid (BoxAt w6 w4.heap.size sh p false) := X3.out.step hb
  clear hb
  obtain ⟨W1, C, hcv, hbc, BS0⟩ := bs_start w6 (s := s) (t := sl) HL.out
  have HC : Hid (Below w6.heap.size w6 W1) := hbc
  have HS0 : Hid (Bs w6.heap.size W1 s (.slice (some ⟨w6.heap.size, 0, none⟩) sl.size C) sl.size w6.heap.size C) := BS0
  clear hbc BS0
  obtain ⟨_, y00, y01, y02⟩ := X0.out
  obtain ⟨_, y10, y11, y12⟩ := X1.out
  obtain ⟨_, y20, y21, y22⟩ := X2.out
  obtain ⟨_, y30, y31, y32⟩ := X3.out
  go_wp2
  clear y00 y01 y02
  clear y10 y11 y12
  clear y20 y21 y22
  clear y30 y31 y32
  clear hcv
  go_loopw [15] (fun v wr => ∃ k : Nat, m ≤ k ∧ k ≤ n ∧ Bx w6.heap.size wr s v k ∧ Below w6.heap.size w6 wr) (fun v _ => n - lenS v)
  case atStart => exact ⟨m, Nat.le_refl _, hm, ⟨_, _, by rw [← zl]; exact HS0.out⟩, HC.out⟩
  case round =>
    obtain ⟨k, hmk, hkn, ⟨g, cap, BS⟩, hbl⟩ := hrel
    obtain rfl := BS.val
    have HS : Hid (Bs w6.heap.size wr s (.slice (some ⟨g, 0, none⟩) k cap) k g cap) := BS
    have HB : Hid (Below w6.heap.size w6 wr) := hbl
    clear BS hbl
    by_cases c : k < n
    · have dk : Hid (dgt s k = 48) := HD.out k hmk c
      have glt := HS.out.lt
      have sb := HB.out.size
      go_wp2_with (first
        | (at_builtin; refine wpList_append_arg _ rfl _ _ 48 rfl 5 i0 (.int .u8 0) 1 1 und_bytes48 hi hz0 hz1 hz2 rfl (by decide) g 0 k cap (dgV s k) rfl ?a1 ?a2 ⟨wr.heap.size, 0, none⟩ 1 1 [.int .u8 48] rfl rfl ?a3 ?a4 ?a5 ?a6 ?a7 ?a8 ?a9)
        | go_in)
      case a1 => rw [dgV_len]; omega
      case a2 =>
        intro j u hj
        obtain ⟨hj', rfl⟩ := dgV_at hj
        rw [Nat.zero_add, World.cell?_alloc_lt _ _ ⟨g, j, none⟩ glt]
        exact HS.out.cells j hj'
      case a3 =>
        intro j u hj
        match j, hj with
        | 0, hj =>
          obtain rfl := Option.some.inj hj
          exact one_byte wr
        | j + 1, hj => simp at hj
      case a4 =>
        intro u hu
        obtain rfl := List.mem_singleton.1 hu
        rfl
      case a5 =>
        intro hc j hj
        have hj' : j = 0 := by have : j < 1 := hj; omega
        subst hj'
        have sp := ((HS.out.step ((Below.refl wr.heap.size wr).alloc (Nat.le_refl _) (.cells #[.int .u8 48] 5)))).spare k (Nat.le_refl _) (by omega)
        rw [show 0 + k * 1 + 0 = k by omega]
        exact sp
      case a6 => unfold maxLen; omega
      case a7 => omega
      case a8 =>
        intro hc
        have HS2 : Hid (Bs w6.heap.size ((wr.alloc (.cells #[.int .u8 48] 5)).setCells g k [.int .u8 48]) s (.slice (some ⟨g, 0, none⟩) (k + 1) cap) (k + 1) g cap) := by
          have q := (HS.out.step ((Below.refl wr.heap.size wr).alloc (Nat.le_refl _) (.cells #[.int .u8 48] 5))).room hc dk.out
          rw [show 0 + k * 1 = k by omega] at q
          exact q
        have HB2 : Hid (Below w6.heap.size w6 ((wr.alloc (.cells #[.int .u8 48] 5)).setCells g k [.int .u8 48])) := setCells_below (HB.out.alloc sb _) HS.out.lo _
        go_wp2
        go_roundw
        case rel => exact ⟨k + 1, by omega, by omega, ⟨_, _, HS2.out⟩, HB2.out⟩
        case measure => simp [lenS]; omega
      case a9 =>
        intro hc v' W2 hown hgrow
        have HB2 : Hid (Below w6.heap.size w6 W2) := (HB.out.alloc sb _).grown hgrow (by first | omega | (rw [World.size_alloc]; omega)) (fun q hq => by cases hq)
        obtain ⟨g2, cap2, BS2⟩ := bs_grown (N := w6.heap.size) hown (by first | omega | (rw [World.size_alloc]; omega)) dk.out
        obtain rfl := BS2.val
        have HS2 : Hid (Bs w6.heap.size W2 s (.slice (some ⟨g2, 0, none⟩) (k + 1) cap2) (k + 1) g2 cap2) := BS2
        clear BS2 hown hgrow
        go_wp2
        go_roundw
        case rel => exact ⟨k + 1, by omega, by omega, ⟨_, _, HS2.out⟩, HB2.out⟩
        case measure => simp [lenS]; omega
    · obtain rfl : n = k := by omega
      have B7 : Hid (Below w.heap.size w wr) := B6.out.trans (HB.out.mono B6.out.size)
      replace X0 : Hid (BoxAt wr w.heap.size s p false) := X0.out.step HB.out
      replace X1 : Hid (BoxAt wr w2.heap.size sl p false) := X1.out.step HB.out
      replace X2 : Hid (BoxAt wr w3.heap.size sh p false) := X2.out.step HB.out
      replace X3 : Hid (BoxAt wr w4.heap.size sh p false) := X3.out.step HB.out
      have hct := HT.out _ _ _ _ _ HS.out
      obtain ⟨_, y10, y11, y12⟩ := X1.out
      go_wp2_with fail
      refine (MK _).mono ?_
      rintro e w8 ⟨rfl, hb⟩
      clear y10 y11 y12
      have B8 : Hid (Below w.heap.size w (w8.alloc (.cells #[.string bt, .int .i64 p, .bool false] 23))) := (B7.out.trans (hb.mono B7.out.size)).alloc (Nat.le_trans B7.out.size hb.size) _
      replace X0 : Hid (BoxAt (w8.alloc (.cells #[.string bt, .int .i64 p, .bool false] 23)) w.heap.size s p false) := (X0.out.step hb).al _
      replace X1 : Hid (BoxAt (w8.alloc (.cells #[.string bt, .int .i64 p, .bool false] 23)) w2.heap.size sl p false) := (X1.out.step hb).al _
      replace X2 : Hid (BoxAt (w8.alloc (.cells #[.string bt, .int .i64 p, .bool false] 23)) w3.heap.size sh p false) := (X2.out.step hb).al _
      replace X3 : Hid (BoxAt (w8.alloc (.cells #[.string bt, .int .i64 p, .bool false] 23)) w4.heap.size sh p false) := (X3.out.step hb).al _
      have X4 : Hid (BoxAt (w8.alloc (.cells #[.string bt, .int .i64 p, .bool false] 23)) w8.heap.size bt p false) := BoxAt.new w8 bt p false
      replace HS : Hid (Bs w6.heap.size (w8.alloc (.cells #[.string bt, .int .i64 p, .bool false] 23)) s (.slice (some ⟨g, 0, none⟩) n cap) n g cap) := (HS.out.step hb).step ((Below.refl _ _).alloc (Nat.le_refl _) _)
      clear hb
      clear hct
      obtain ⟨_, y00, y01, y02⟩ := X0.out
      obtain ⟨_, y40, y41, y42⟩ := X4.out
      go_wp2_with fail
      refine (CC _).mono ?_
      rintro e w9 ⟨rfl, hb⟩
      clear y00 y01 y02
      clear y40 y41 y42
      have B9 : Hid (Below w.heap.size w w9) := B8.out.trans (hb.mono B8.out.size)
      replace X0 : Hid (BoxAt w9 w.heap.size s p false) := X0.out.step hb
      replace X1 : Hid (BoxAt w9 w2.heap.size sl p false) := X1.out.step hb
      replace X2 : Hid (BoxAt w9 w3.heap.size sh p false) := X2.out.step hb
      replace X3 : Hid (BoxAt w9 w4.heap.size sh p false) := X3.out.step hb
      replace X4 : Hid (BoxAt w9 w8.heap.size bt p false) := X4.out.step hb
      replace HS : Hid (Bs w6.heap.size w9 s (.slice (some ⟨g, 0, none⟩) n cap) n g cap) := HS.out.step hb
      clear hb
      have ce := HS.out.cells (n - 1) (by omega)
      have ix : ((n : Int) - 1).toNat = n - 1 := by omega
      have i9 : (0 : Int) < (n : Int) := by omega
      obtain ⟨z, hz9⟩ : ∃ z, dgt s (n - 1) = z := ⟨_, rfl⟩
      have hr9 := HR.out
      rw [hz9] at ce hr9
      obtain ⟨hr1, hr2, hr3⟩ := hr9
      have w8z : IntKind.u8.wrap ((z : Int) - 48) = (z : Int) - 48 := by unfold IntKind.wrap; simp [IntKind.bits, IntKind.signed]; omega
      clear hz9
      obtain ⟨_, y00, y01, y02⟩ := X0.out
      obtain ⟨_, y10, y11, y12⟩ := X1.out
      obtain ⟨_, y20, y21, y22⟩ := X2.out
      obtain ⟨_, y30, y31, y32⟩ := X3.out
      go_wp2_with fail
      refine (DB _).mono ?_
      rintro e w10 ⟨rfl, hb⟩
      clear y00 y01 y02
      clear y10 y11 y12
      clear y20 y21 y22
      clear y30 y31 y32
      have B10 : Hid (Below w.heap.size w (w10.alloc (.cells #[.string s2, .int .i64 p2, .bool false] 23))) := (B9.out.trans (hb.mono B9.out.size)).alloc (Nat.le_trans B9.out.size hb.size) _
      replace X0 : Hid (BoxAt (w10.alloc (.cells #[.string s2, .int .i64 p2, .bool false] 23)) w.heap.size s p false) := (X0.out.step hb).al _
      replace X1 : Hid (BoxAt (w10.alloc (.cells #[.string s2, .int .i64 p2, .bool false] 23)) w2.heap.size sl p false) := (X1.out.step hb).al _
      replace X2 : Hid (BoxAt (w10.alloc (.cells #[.string s2, .int .i64 p2, .bool false] 23)) w3.heap.size sh p false) := (X2.out.step hb).al _
      replace X3 : Hid (BoxAt (w10.alloc (.cells #[.string s2, .int .i64 p2, .bool false] 23)) w4.heap.size sh p false) := (X3.out.step hb).al _
      replace X4 : Hid (BoxAt (w10.alloc (.cells #[.string s2, .int .i64 p2, .bool false] 23)) w8.heap.size bt p false) := (X4.out.step hb).al _
      have X5 : Hid (BoxAt (w10.alloc (.cells #[.string s2, .int .i64 p2, .bool false] 23)) w10.heap.size s2 p2 false) := BoxAt.new w10 s2 p2 false
      clear hb
      clear ce
      obtain ⟨_, y50, y51, y52⟩ := X5.out
      go_wp2_with fail
      refine (HV _).mono ?_
      rintro e w11 ⟨rfl, hb⟩
      clear y50 y51 y52
      have B11 : Hid (Below w.heap.size w (w11.alloc (.cells #[.string s, .int .i64 p, .bool false] 23))) := (B10.out.trans (hb.mono B10.out.size)).alloc (Nat.le_trans B10.out.size hb.size) _
      replace X0 : Hid (BoxAt (w11.alloc (.cells #[.string s, .int .i64 p, .bool false] 23)) w.heap.size s p false) := (X0.out.step hb).al _
      replace X1 : Hid (BoxAt (w11.alloc (.cells #[.string s, .int .i64 p, .bool false] 23)) w2.heap.size sl p false) := (X1.out.step hb).al _
      replace X2 : Hid (BoxAt (w11.alloc (.cells #[.string s, .int .i64 p, .bool false] 23)) w3.heap.size sh p false) := (X2.out.step hb).al _
      replace X3 : Hid (BoxAt (w11.alloc (.cells #[.string s, .int .i64 p, .bool false] 23)) w4.heap.size sh p false) := (X3.out.step hb).al _
      replace X4 : Hid (BoxAt (w11.alloc (.cells #[.string s, .int .i64 p, .bool false] 23)) w8.heap.size bt p false) := (X4.out.step hb).al _
      replace X5 : Hid (BoxAt (w11.alloc (.cells #[.string s, .int .i64 p, .bool false] 23)) w10.heap.size s2 p2 false) := (X5.out.step hb).al _
      have X6 : Hid (BoxAt (w11.alloc (.cells #[.string s, .int .i64 p, .bool false] 23)) w11.heap.size s p false) := BoxAt.new w11 s p false
      clear hb
      obtain ⟨_, y00, y01, y02⟩ := X0.out
      go_wp2_with fail
      refine (TX _ (HP.out.step B11.out)).mono ?_
      rintro e w12 ⟨rfl, hb⟩
      clear y00 y01 y02
      have B12 : Hid (Below w.heap.size w w12) := B11.out.trans (hb.mono B11.out.size)
      replace X0 : Hid (BoxAt w12 w.heap.size s p false) := X0.out.step hb
      replace X1 : Hid (BoxAt w12 w2.heap.size sl p false) := X1.out.step hb
      replace X2 : Hid (BoxAt w12 w3.heap.size sh p false) := X2.out.step hb
      replace X3 : Hid (BoxAt w12 w4.heap.size sh p false) := X3.out.step hb
      replace X4 : Hid (BoxAt w12 w8.heap.size bt p false) := X4.out.step hb
      replace X5 : Hid (BoxAt w12 w10.heap.size s2 p2 false) := X5.out.step hb
      replace X6 : Hid (BoxAt w12 w11.heap.size s p false) := X6.out.step hb
      clear hb
      go_wp2_with fail
      refine (RD _ (HA.out.step HA.out.lt B12.out) (HP.out.step B12.out)).mono ?_
      rintro e w13 ⟨rfl, hb⟩
      have B13 : Hid (Below w.heap.size w (w13.alloc (.cells #[.string s, .int .i64 p, .bool false] 23))) := (B12.out.trans (hb.mono B12.out.size)).alloc (Nat.le_trans B12.out.size hb.size) _
      replace X0 : Hid (BoxAt (w13.alloc (.cells #[.string s, .int .i64 p, .bool false] 23)) w.heap.size s p false) := (X0.out.step hb).al _
      replace X1 : Hid (BoxAt (w13.alloc (.cells #[.string s, .int .i64 p, .bool false] 23)) w2.heap.size sl p false) := (X1.out.step hb).al _
      replace X2 : Hid (BoxAt (w13.alloc (.cells #[.string s, .int .i64 p, .bool false] 23)) w3.heap.size sh p false) := (X2.out.step hb).al _
      replace X3 : Hid (BoxAt (w13.alloc (.cells #[.string s, .int .i64 p, .bool false] 23)) w4.heap.size sh p false) := (X3.out.step hb).al _
      replace X4 : Hid (BoxAt (w13.alloc (.cells #[.string s, .int .i64 p, .bool false] 23)) w8.heap.size bt p false) := (X4.out.step hb).al _
      replace X5 : Hid (BoxAt (w13.alloc (.cells #[.string s, .int .i64 p, .bool false] 23)) w10.heap.size s2 p2 false) := (X5.out.step hb).al _
      replace X6 : Hid (BoxAt (w13.alloc (.cells #[.string s, .int .i64 p, .bool false] 23)) w11.heap.size s p false) := (X6.out.step hb).al _
      have X7 : Hid (BoxAt (w13.alloc (.cells #[.string s, .int .i64 p, .bool false] 23)) w13.heap.size s p false) := BoxAt.new w13 s p false
      clear hb
      obtain ⟨_, y00, y01, y02⟩ := X0.out
      obtain ⟨_, y60, y61, y62⟩ := X6.out
      obtain ⟨_, y70, y71, y72⟩ := X7.out
      go_wp2_with fail
      refine (FS _).mono ?_
      rintro e w14 ⟨rfl, hb⟩
      clear y00 y01 y02
      clear y60 y61 y62
      clear y70 y71 y72
      have B14 : Hid (Below w.heap.size w w14) := B13.out.trans (hb.mono B13.out.size)
      replace X0 : Hid (BoxAt w14 w.heap.size s p false) := X0.out.step hb
      replace X1 : Hid (BoxAt w14 w2.heap.size sl p false) := X1.out.step hb
      replace X2 : Hid (BoxAt w14 w3.heap.size sh p false) := X2.out.step hb
      replace X3 : Hid (BoxAt w14 w4.heap.size sh p false) := X3.out.step hb
      replace X4 : Hid (BoxAt w14 w8.heap.size bt p false) := X4.out.step hb
      replace X5 : Hid (BoxAt w14 w10.heap.size s2 p2 false) := X5.out.step hb
      replace X6 : Hid (BoxAt w14 w11.heap.size s p false) := X6.out.step hb
      replace X7 : Hid (BoxAt w14 w13.heap.size s p false) := X7.out.step hb
      clear hb
      go_wp2
      go_ret
      exact ⟨rfl, B14.out⟩

end Go.Proofs.YtladeppjccfbhaaDoor
