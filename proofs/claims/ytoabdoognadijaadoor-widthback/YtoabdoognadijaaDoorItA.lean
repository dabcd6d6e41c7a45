/-
  ints' calls: what they answer for every input.
-/
import Derived.Test.YtoabdoognadijaaDoorItM
import Derived.Test.YtoabdoognadijaaDoorUiH
namespace Go.Proofs.YtoabdoognadijaaDoor
open Go.RowKit Go.Extern.Stop Go.Stop Go.Extern

set_option maxRecDepth 100000 in
set_option maxHeartbeats 1000000 in
theorem iabs_any (v : Int) (h1 : -9223372036854775808 ≤ v) (h2 : v ≤ 9223372036854775807) (w : World) :
    Calls Tryd.prog 62 #[.int .i64 v] w fun e w' => e = .returned (.int .u64 (v.natAbs : Int)) ∧ w' = w := by
  by_cases q : v < 0
  · have e1 : IntKind.u64.wrap v = v + 18446744073709551616 := by rw [IntKind.wrap_u64]; omega
    have e2 : IntKind.u64.wrap (-(v + 18446744073709551616)) = (v.natAbs : Int) := by rw [IntKind.wrap_u64]; omega
    have HE : Hid (IntKind.u64.wrap v = v + 18446744073709551616 ∧ IntKind.u64.wrap (-(v + 18446744073709551616)) = (v.natAbs : Int)) := ⟨e1, e2⟩
    clear e1 e2 h1 h2
    go_enter Tryd.func62, Tryd.ntmps62
    go_wp2
    go_ret
    exact ⟨by rw [HE.out.1, HE.out.2]; rfl, rfl⟩
  · have e1 : IntKind.u64.wrap v = (v.natAbs : Int) := by rw [IntKind.wrap_u64]; omega
    have HE : Hid (IntKind.u64.wrap v = (v.natAbs : Int)) := e1
    clear e1 h1 h2
    go_enter Tryd.func62, Tryd.ntmps62
    go_wp2
    go_ret
    exact ⟨by rw [HE.out]; rfl, rfl⟩
set_option maxRecDepth 100000 in
set_option maxHeartbeats 1000000 in
theorem imake_any (neg : Bool) (n : Nat) (hn : n < 18446744073709551616) (w : World) :
    Calls Tryd.prog 83 #[.bool neg, .int .u64 (n : Int)] w fun e w' => e = .returned (.tuple #[.int .i64 (mkX neg n), .bool (mkB neg n)]) ∧ w' = w := by
  cases neg
  · by_cases q : n < 9223372036854775808
    · have HE : Hid (mkB false n = true ∧ mkX false n = (n : Int)) := mkX_pos q
      have q' : (n : Int) < 9223372036854775808 := by omega
      clear hn q
      go_enter Tryd.func83, Tryd.ntmps83
      go_wp2
      go_ret2
      exact ⟨by rw [HE.out.1, HE.out.2]; rfl, rfl⟩
    · have hb : mkB false n = false := by rw [mkB_pos]; exact decide_eq_false q
      have HE : Hid (mkB false n = false ∧ mkX false n = 0) := ⟨hb, mkX_no hb⟩
      have q' : ¬ (n : Int) < 9223372036854775808 := by omega
      clear hn q hb
      go_enter Tryd.func83, Tryd.ntmps83
      go_wp2
      go_ret2
      exact ⟨by rw [HE.out.1, HE.out.2]; rfl, rfl⟩
  · by_cases q : n ≤ 9223372036854775808
    · have HE : Hid (mkB true n = true ∧ mkX true n = wrap64 (IntKind.u64.wrap (-(n : Int)))) := ⟨(mkX_neg q).1, by rw [(mkX_neg q).2, IntKind.wrap_u64]; unfold wrap64; omega⟩
      have q' : (n : Int) ≤ 9223372036854775808 := by omega
      clear hn q
      go_enter Tryd.func83, Tryd.ntmps83
      go_wp2
      go_ret2
      exact ⟨by rw [HE.out.1, HE.out.2]; rfl, rfl⟩
    · have hb : mkB true n = false := by rw [mkB_neg]; exact decide_eq_false q
      have HE : Hid (mkB true n = false ∧ mkX true n = 0) := ⟨hb, mkX_no hb⟩
      have q' : ¬ (n : Int) ≤ 9223372036854775808 := by omega
      clear hn q hb
      go_enter Tryd.func83, Tryd.ntmps83
      go_wp2
      go_ret2
      exact ⟨by rw [HE.out.1, HE.out.2]; rfl, rfl⟩
set_option maxRecDepth 100000 in
set_option maxHeartbeats 1000000 in
theorem imark_any (v : Int) (p : Bool) (w : World) :
    Calls Tryd.prog 64 #[.int .i64 v, .bool p] w fun e w' => e = .returned (.string ⟨(mrk v p).toArray⟩) ∧ w' = w := by
  by_cases q : v < 0
  · have HE : Hid (mrk v p = [45]) := mrk_neg q p
    go_enter Tryd.func64, Tryd.ntmps64
    go_wp2
    go_ret
    exact ⟨by rw [HE.out]; rfl, rfl⟩
  · cases p
    · have HE : Hid (mrk v false = []) := mrk_none q
      go_enter Tryd.func64, Tryd.ntmps64
      go_wp2
      go_ret
      exact ⟨by rw [HE.out]; rfl, rfl⟩
    · have HE : Hid (mrk v true = [43]) := mrk_plus q
      go_enter Tryd.func64, Tryd.ntmps64
      go_wp2
      go_ret
      exact ⟨by rw [HE.out]; rfl, rfl⟩
set_option maxRecDepth 100000 in
set_option maxHeartbeats 1000000 in
theorem itold_nil (c : ByteArray) (l m : List UInt8) (hl : l.length ≤ 1) (hm : m.length ≤ 10000) (w : World) :
    Calls Tryd.prog 63 #[.string c, .string ⟨l.toArray⟩, .string ⟨m.toArray⟩, .nilIface] w fun e w' => e = .returned (.tuple #[.string ⟨(l ++ m).toArray⟩, .nilIface]) ∧ w' = w := by
  have hz : ¬ 9223372036854775807 < (⟨l.toArray⟩ : ByteArray).size + (⟨m.toArray⟩ : ByteArray).size := by rw [str_size, str_size]; omega
  have HA : Hid ((⟨l.toArray⟩ : ByteArray) ++ ⟨m.toArray⟩ = ⟨(l ++ m).toArray⟩) := str_append _ _
  generalize (⟨l.toArray⟩ : ByteArray) = S at *
  generalize (⟨m.toArray⟩ : ByteArray) = D at *
  go_enter Tryd.func63, Tryd.ntmps63
  go_wp2
  go_ret2
  exact ⟨by rw [← HA.out]; rfl, rfl⟩
set_option maxRecDepth 100000 in
set_option maxHeartbeats 1000000 in
theorem itold_err {c : ByteArray} (hc : c.size ≤ 281474976710656) (s d : ByteArray) {c0 t0 : ByteArray} {n : Int} {v : Value} {w : World} (h : Wr w c0 t0 n v) (hg : ErrT w) :
    Calls Tryd.prog 63 #[.string c, .string s, .string d, v] w fun e w' => ∃ x, e = .returned (.tuple #[.string ⟨#[]⟩, x]) ∧ Wr w' c ⟨#[]⟩ n x ∧ Below w.heap.size w w' := by
  have WY := why_ch (ls := [(c0, t0)]) h hg
  have WR := fun W => wrap_err (c := c) (t := ⟨#[]⟩) hc (by decide) n W
  obtain ⟨T, y, rfl⟩ := h.iface
  clear h hg
  go_enter Tryd.func63, Tryd.ntmps63
  go_wp2_with fail
  refine WY.mono ?_
  rintro e w1 ⟨rfl, b1⟩
  have B1 : Hid (Below w.heap.size w w1) := b1
  clear b1
  go_wp2_with fail
  refine (WR _).mono ?_
  rintro e w2 ⟨x, rfl, h2, b2⟩
  have H2 : Hid (Wr w2 c ⟨#[]⟩ n x ∧ Below w.heap.size w w2) := ⟨h2, B1.out.trans (b2.mono B1.out.size)⟩
  clear h2 b2
  go_wp2
  go_ret2
  exact ⟨x, rfl, H2.out.1, H2.out.2⟩
set_option maxRecDepth 100000 in
set_option maxHeartbeats 1000000 in
theorem iformat_yes (v : Int) (h1 : -9223372036854775808 ≤ v) (h2 : v ≤ 9223372036854775807) (b : Nat) (hb1 : 2 ≤ b) (hb2 : b ≤ 36) (w : World) :
    Calls Tryd.prog 42 #[.int .i64 v, .int .i64 (b : Int)] w fun x w' => x = .returned (.tuple #[.string ⟨(mrk v false ++ fl b v.natAbs).toArray⟩, .nilIface]) ∧ Below w.heap.size w w' := by
  have A1 := fun W => iabs_any v h1 h2 W
  have F1 := fun W => format_yes v.natAbs b (abs_lt h1 h2) hb1 hb2 W
  have M1 := fun W => imark_any v false W
  have T1 := fun W => itold_nil ⟨#[70, 111, 114, 109, 97, 116]⟩ (mrk v false) (fl b v.natAbs) (mrk_len _ _) (by have := fl_le64 hb1 (abs_lt h1 h2); omega) W
  clear h1 h2
  generalize (⟨(fl b v.natAbs).toArray⟩ : ByteArray) = D at *
  generalize (⟨(mrk v false).toArray⟩ : ByteArray) = S at *
  generalize (⟨(mrk v false ++ fl b v.natAbs).toArray⟩ : ByteArray) = R at *
  generalize (v.natAbs : Int) = V at *
  go_enter Tryd.func42, Tryd.ntmps42
  go_wp2_with fail
  refine (A1 _).mono ?_
  rintro e w ⟨rfl, rfl⟩
  go_wp2_with fail
  refine (F1 _).mono ?_
  rintro e w1 ⟨rfl, b1⟩
  have B1 : Hid (Below w.heap.size w w1) := b1
  clear b1
  go_wp2_with fail
  refine (M1 _).mono ?_
  rintro e w1 ⟨rfl, rfl⟩
  go_wp2_with fail
  refine (T1 _).mono ?_
  rintro e w1 ⟨rfl, rfl⟩
  go_wp2
  go_ret2
  exact ⟨rfl, B1.out⟩
set_option maxRecDepth 100000 in
set_option maxHeartbeats 1000000 in
theorem iformat_err (v : Int) (h1 : -9223372036854775808 ≤ v) (h2 : v ≤ 9223372036854775807) (b : Int) {n : Int}
    (F1 : ∀ W, Calls Tryd.prog 39 #[.int .u64 (v.natAbs : Int), .int .i64 b] W fun x w' => ∃ y, x = .returned (.tuple #[.string ⟨#[]⟩, y]) ∧ Wr w' ⟨#[70, 111, 114, 109, 97, 116]⟩ ⟨#[]⟩ n y ∧ Below W.heap.size W w') (w : World) (hg : ErrT w) :
    Calls Tryd.prog 42 #[.int .i64 v, .int .i64 b] w fun x w' => ∃ y, x = .returned (.tuple #[.string ⟨#[]⟩, y]) ∧ Wr w' ⟨#[70, 111, 114, 109, 97, 116]⟩ ⟨#[]⟩ n y ∧ Below w.heap.size w w' := by
  have A1 := fun W => iabs_any v h1 h2 W
  have M1 := fun W => imark_any v false W
  have T1 := fun W y (h : Wr W ⟨#[70, 111, 114, 109, 97, 116]⟩ ⟨#[]⟩ n y) (hg : ErrT W) => itold_err (c := ⟨#[70, 111, 114, 109, 97, 116]⟩) (by decide) ⟨(mrk v false).toArray⟩ ⟨#[]⟩ h hg
  have HG : Hid (ErrT w) := hg
  clear h1 h2 hg
  generalize (⟨(mrk v false).toArray⟩ : ByteArray) = S at *
  generalize (v.natAbs : Int) = V at *
  go_enter Tryd.func42, Tryd.ntmps42
  go_wp2_with fail
  refine (A1 _).mono ?_
  rintro e w ⟨rfl, rfl⟩
  go_wp2_with fail
  refine (F1 _).mono ?_
  rintro e w1 ⟨y, rfl, h1, b1⟩
  have H1 : Hid (Wr w1 ⟨#[70, 111, 114, 109, 97, 116]⟩ ⟨#[]⟩ n y ∧ Below w.heap.size w w1) := ⟨h1, b1⟩
  clear b1 h1
  go_wp2_with fail
  refine (M1 _).mono ?_
  rintro e w1 ⟨rfl, rfl⟩
  go_wp2_with fail
  refine (T1 _ _ H1.out.1 (HG.out.below H1.out.2 HG.out.pos)).mono ?_
  rintro e w2 ⟨z, rfl, h2, b2⟩
  have H2 : Hid (Wr w2 ⟨#[70, 111, 114, 109, 97, 116]⟩ ⟨#[]⟩ n z ∧ Below w.heap.size w w2) := ⟨h2, H1.out.2.trans (b2.mono H1.out.2.size)⟩
  clear h2 b2
  go_wp2
  go_ret2
  exact ⟨z, rfl, H2.out.1, H2.out.2⟩
end Go.Proofs.YtoabdoognadijaaDoor
