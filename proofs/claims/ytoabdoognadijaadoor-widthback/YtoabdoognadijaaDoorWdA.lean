/-
  width's calls: what they answer for every input.
-/
import Derived.Test.YtoabdoognadijaaDoorWdN
import Derived.Test.YtoabdoognadijaaDoorItB
namespace Go.Proofs.YtoabdoognadijaaDoor
open Go.RowKit Go.Extern.Stop Go.Stop Go.Extern

set_option maxRecDepth 100000 in
set_option maxHeartbeats 1000000 in
theorem wvalid_no {w : Int} (h : Wn w) (W : World) :
    Calls Tryd.prog 15 #[.int .i64 w] W fun e w' => ∃ v, e = .returned v ∧ Wr w' ⟨#[86, 97, 108, 105, 100]⟩ ⟨#[]⟩ 6 v ∧ Below W.heap.size W w' := by
  obtain ⟨h1, h2, h3, h4⟩ := h
  have WR := fun W => wrap_err (c := ⟨#[86, 97, 108, 105, 100]⟩) (t := ⟨#[]⟩) (by decide) (by decide) 6 W
  have p1 : (w == 8) = false := beq_eq_false_iff_ne.mpr h1
  have p2 : (w == 16) = false := beq_eq_false_iff_ne.mpr h2
  have p3 : (w == 32) = false := beq_eq_false_iff_ne.mpr h3
  have p4 : (w == 64) = false := beq_eq_false_iff_ne.mpr h4
  clear h1 h2 h3 h4
  go_enter Tryd.func15, Tryd.ntmps15
  go_wp2_with fail
  refine (WR _).mono ?_
  rintro e w1 ⟨v, rfl, h1, b1⟩
  have H1 : Hid (Wr w1 ⟨#[86, 97, 108, 105, 100]⟩ ⟨#[]⟩ 6 v ∧ Below W.heap.size W w1) := ⟨h1, b1⟩
  clear h1 b1
  go_wp2
  go_ret
  exact ⟨v, rfl, H1.out.1, H1.out.2⟩
set_option maxRecDepth 100000 in
set_option maxHeartbeats 1000000 in
theorem again_nil (c t : ByteArray) (W : World) :
    Calls Tryd.prog 25 #[.string c, .string t, .nilIface] W fun e w' => e = .returned .nilIface ∧ w' = W := by
  go_enter Tryd.func25, Tryd.ntmps25
  go_wp2
  go_ret
  exact ⟨rfl, rfl⟩
set_option maxRecDepth 100000 in
set_option maxHeartbeats 1000000 in
theorem again_err {c t : ByteArray} (hc : c.size ≤ 281474976710656) (ht : t.size ≤ 281474976710656) {c0 t0 : ByteArray} {n : Int} {v : Value} {w : World} (h : Wr w c0 t0 n v) (hg : ErrT w) :
    Calls Tryd.prog 25 #[.string c, .string t, v] w fun e w' => ∃ x, e = .returned x ∧ Wr w' c t n x ∧ Below w.heap.size w w' := by
  have WY := why_ch (ls := [(c0, t0)]) h hg
  have WR := fun W => wrap_err (c := c) (t := t) hc ht n W
  obtain ⟨T, y, rfl⟩ := h.iface
  clear h hg hc ht
  go_enter Tryd.func25, Tryd.ntmps25
  go_wp2_with fail
  refine WY.mono ?_
  rintro e w1 ⟨rfl, b1⟩
  have B1 : Hid (Below w.heap.size w w1) := b1
  clear b1
  go_wp2_with fail
  refine (WR _).mono ?_
  rintro e w2 ⟨x, rfl, h2, b2⟩
  have H2 : Hid (Wr w2 c t n x ∧ Below w.heap.size w w2) := ⟨h2, B1.out.trans (b2.mono B1.out.size)⟩
  clear h2 b2
  go_wp2
  go_ret
  exact ⟨x, rfl, H2.out.1, H2.out.2⟩
theorem again_any {c t : ByteArray} (hc : c.size ≤ 281474976710656) (ht : t.size ≤ 281474976710656) {c0 t0 : ByteArray} {n : Int} {v : Value} {w : World} (h : ErV w n c0 t0 v) (hg : ErrT w) :
    Calls Tryd.prog 25 #[.string c, .string t, v] w fun e w' => ∃ x, e = .returned x ∧ ErV w' n c t x ∧ Below w.heap.size w w' := by
  rcases h with ⟨h1, rfl⟩ | ⟨h1, h2⟩
  · refine (again_nil c t w).mono ?_
    rintro e w ⟨rfl, rfl⟩
    exact ⟨_, rfl, Or.inl ⟨h1, rfl⟩, Below.refl _ _⟩
  · refine (again_err hc ht h2 hg).mono ?_
    rintro e w1 ⟨x, rfl, h3, b3⟩
    exact ⟨x, rfl, Or.inr ⟨h1, h3⟩, b3⟩
set_option maxRecDepth 100000 in
set_option maxHeartbeats 1000000 in
theorem wbounds_no {w : Int} (h : Wn w) (W : World) (hg : ErrT W) :
    Calls Tryd.prog 7 #[.int .i64 w] W fun e w' => ∃ x, e = .returned (.tuple #[.int .i64 0, .int .i64 0, .int .u64 0, x]) ∧ Wr w' ⟨#[66, 111, 117, 110, 100, 115]⟩ ⟨#[]⟩ 6 x ∧ Below W.heap.size W w' := by
  have VN := fun W => wvalid_no h W
  have AG := fun W v (h : Wr W ⟨#[86, 97, 108, 105, 100]⟩ ⟨#[]⟩ 6 v) (hg : ErrT W) => again_err (c := ⟨#[66, 111, 117, 110, 100, 115]⟩) (t := ⟨#[]⟩) (by decide) (by decide) h hg
  have HG : Hid (ErrT W) := hg
  clear h hg
  go_enter Tryd.func7, Tryd.ntmps7
  go_wp2_with fail
  refine (VN _).mono ?_
  rintro e w1 ⟨y, rfl, h1, b1⟩
  have H1 : Hid (Wr w1 ⟨#[86, 97, 108, 105, 100]⟩ ⟨#[]⟩ 6 y ∧ Below W.heap.size W w1) := ⟨h1, b1⟩
  obtain ⟨T, z, rfl⟩ := h1.iface
  clear h1 b1
  go_wp2_with fail
  refine (AG _ _ H1.out.1 (HG.out.below H1.out.2 HG.out.pos)).mono ?_
  rintro e w2 ⟨x, rfl, h2, b2⟩
  have H2 : Hid (Wr w2 ⟨#[66, 111, 117, 110, 100, 115]⟩ ⟨#[]⟩ 6 x ∧ Below W.heap.size W w2) := ⟨h2, H1.out.2.trans (b2.mono H1.out.2.size)⟩
  clear h2 b2
  go_wp2
  (try simp only [Exit.inBlock, Exit.then])
  refine bodyPost_ret (results_tmp4 rfl _ _ _) rfl ?_
  exact ⟨x, rfl, H2.out.1, H2.out.2⟩
set_option maxRecDepth 100000 in
set_option maxHeartbeats 1000000 in
theorem wunsigned_no {w : Int} (h : Wn w) (s : ByteArray) (hs : s.size ≤ 140737488355328) (b : Int) (W : World) (hg : ErrT W) :
    Calls Tryd.prog 17 #[.string s, .int .i64 b, .int .i64 w] W fun e w' => ∃ x, e = .returned (.tuple #[.int .u64 0, x]) ∧ Wr w' ⟨#[85, 110, 115, 105, 103, 110, 101, 100]⟩ s 6 x ∧ Below W.heap.size W w' := by
  have VN := fun W => wvalid_no h W
  have AG := fun W v (h : Wr W ⟨#[86, 97, 108, 105, 100]⟩ ⟨#[]⟩ 6 v) (hg : ErrT W) => again_err (c := ⟨#[85, 110, 115, 105, 103, 110, 101, 100]⟩) (t := s) (by decide) (by omega) h hg
  have HG : Hid (ErrT W) := hg
  clear h hg
  go_enter Tryd.func17, Tryd.ntmps17
  go_wp2_with fail
  refine (VN _).mono ?_
  rintro e w1 ⟨y, rfl, h1, b1⟩
  have H1 : Hid (Wr w1 ⟨#[86, 97, 108, 105, 100]⟩ ⟨#[]⟩ 6 y ∧ Below W.heap.size W w1) := ⟨h1, b1⟩
  obtain ⟨T, z, rfl⟩ := h1.iface
  clear h1 b1
  go_wp2_with fail
  refine (AG _ _ H1.out.1 (HG.out.below H1.out.2 HG.out.pos)).mono ?_
  rintro e w2 ⟨x, rfl, h2, b2⟩
  have H2 : Hid (Wr w2 ⟨#[85, 110, 115, 105, 103, 110, 101, 100]⟩ s 6 x ∧ Below W.heap.size W w2) := ⟨h2, H1.out.2.trans (b2.mono H1.out.2.size)⟩
  clear h2 b2
  go_wp2
  go_ret2
  exact ⟨x, rfl, H2.out.1, H2.out.2⟩
set_option maxRecDepth 100000 in
set_option maxHeartbeats 1000000 in
theorem wsigned_no {w : Int} (h : Wn w) (s : ByteArray) (hs : s.size ≤ 140737488355328) (b : Int) (W : World) (hg : ErrT W) :
    Calls Tryd.prog 19 #[.string s, .int .i64 b, .int .i64 w] W fun e w' => ∃ x, e = .returned (.tuple #[.int .i64 0, x]) ∧ Wr w' ⟨#[83, 105, 103, 110, 101, 100]⟩ s 6 x ∧ Below W.heap.size W w' := by
  have VN := fun W => wvalid_no h W
  have AG := fun W v (h : Wr W ⟨#[86, 97, 108, 105, 100]⟩ ⟨#[]⟩ 6 v) (hg : ErrT W) => again_err (c := ⟨#[83, 105, 103, 110, 101, 100]⟩) (t := s) (by decide) (by omega) h hg
  have HG : Hid (ErrT W) := hg
  clear h hg
  go_enter Tryd.func19, Tryd.ntmps19
  go_wp2_with fail
  refine (VN _).mono ?_
  rintro e w1 ⟨y, rfl, h1, b1⟩
  have H1 : Hid (Wr w1 ⟨#[86, 97, 108, 105, 100]⟩ ⟨#[]⟩ 6 y ∧ Below W.heap.size W w1) := ⟨h1, b1⟩
  obtain ⟨T, z, rfl⟩ := h1.iface
  clear h1 b1
  go_wp2_with fail
  refine (AG _ _ H1.out.1 (HG.out.below H1.out.2 HG.out.pos)).mono ?_
  rintro e w2 ⟨x, rfl, h2, b2⟩
  have H2 : Hid (Wr w2 ⟨#[83, 105, 103, 110, 101, 100]⟩ s 6 x ∧ Below W.heap.size W w2) := ⟨h2, H1.out.2.trans (b2.mono H1.out.2.size)⟩
  clear h2 b2
  go_wp2
  go_ret2
  exact ⟨x, rfl, H2.out.1, H2.out.2⟩
set_option maxRecDepth 100000 in
set_option maxHeartbeats 1000000 in
theorem wtell_no {w : Int} (h : Wn w) (v b : Int) (W : World) (hg : ErrT W) :
    Calls Tryd.prog 21 #[.int .u64 v, .int .i64 b, .int .i64 w] W fun e w' => ∃ x, e = .returned (.tuple #[.string ⟨#[]⟩, x]) ∧ Wr w' ⟨#[84, 101, 108, 108]⟩ ⟨#[]⟩ 6 x ∧ Below W.heap.size W w' := by
  have VN := fun W => wvalid_no h W
  have AG := fun W v (h : Wr W ⟨#[86, 97, 108, 105, 100]⟩ ⟨#[]⟩ 6 v) (hg : ErrT W) => again_err (c := ⟨#[84, 101, 108, 108]⟩) (t := ⟨#[]⟩) (by decide) (by decide) h hg
  have HG : Hid (ErrT W) := hg
  clear h hg
  go_enter Tryd.func21, Tryd.ntmps21
  go_wp2_with fail
  refine (VN _).mono ?_
  rintro e w1 ⟨y, rfl, h1, b1⟩
  have H1 : Hid (Wr w1 ⟨#[86, 97, 108, 105, 100]⟩ ⟨#[]⟩ 6 y ∧ Below W.heap.size W w1) := ⟨h1, b1⟩
  obtain ⟨T, z, rfl⟩ := h1.iface
  clear h1 b1
  go_wp2_with fail
  refine (AG _ _ H1.out.1 (HG.out.below H1.out.2 HG.out.pos)).mono ?_
  rintro e w2 ⟨x, rfl, h2, b2⟩
  have H2 : Hid (Wr w2 ⟨#[84, 101, 108, 108]⟩ ⟨#[]⟩ 6 x ∧ Below W.heap.size W w2) := ⟨h2, H1.out.2.trans (b2.mono H1.out.2.size)⟩
  clear h2 b2
  go_wp2
  go_ret2
  exact ⟨x, rfl, H2.out.1, H2.out.2⟩
set_option maxRecDepth 100000 in
set_option maxHeartbeats 1000000 in
theorem wtellsigned_no {w : Int} (h : Wn w) (v b : Int) (W : World) (hg : ErrT W) :
    Calls Tryd.prog 23 #[.int .i64 v, .int .i64 b, .int .i64 w] W fun e w' => ∃ x, e = .returned (.tuple #[.string ⟨#[]⟩, x]) ∧ Wr w' ⟨#[84, 101, 108, 108, 83, 105, 103, 110, 101, 100]⟩ ⟨#[]⟩ 6 x ∧ Below W.heap.size W w' := by
  have VN := fun W => wvalid_no h W
  have AG := fun W v (h : Wr W ⟨#[86, 97, 108, 105, 100]⟩ ⟨#[]⟩ 6 v) (hg : ErrT W) => again_err (c := ⟨#[84, 101, 108, 108, 83, 105, 103, 110, 101, 100]⟩) (t := ⟨#[]⟩) (by decide) (by decide) h hg
  have HG : Hid (ErrT W) := hg
  clear h hg
  go_enter Tryd.func23, Tryd.ntmps23
  go_wp2_with fail
  refine (VN _).mono ?_
  rintro e w1 ⟨y, rfl, h1, b1⟩
  have H1 : Hid (Wr w1 ⟨#[86, 97, 108, 105, 100]⟩ ⟨#[]⟩ 6 y ∧ Below W.heap.size W w1) := ⟨h1, b1⟩
  obtain ⟨T, z, rfl⟩ := h1.iface
  clear h1 b1
  go_wp2_with fail
  refine (AG _ _ H1.out.1 (HG.out.below H1.out.2 HG.out.pos)).mono ?_
  rintro e w2 ⟨x, rfl, h2, b2⟩
  have H2 : Hid (Wr w2 ⟨#[84, 101, 108, 108, 83, 105, 103, 110, 101, 100]⟩ ⟨#[]⟩ 6 x ∧ Below W.heap.size W w2) := ⟨h2, H1.out.2.trans (b2.mono H1.out.2.size)⟩
  clear h2 b2
  go_wp2
  go_ret2
  exact ⟨x, rfl, H2.out.1, H2.out.2⟩
set_option maxRecDepth 100000 in
set_option maxHeartbeats 1000000 in
theorem wcut_no {w : Int} (h : Wn w) (v : Int) (W : World) (hg : ErrT W) :
    Calls Tryd.prog 9 #[.int .u64 v, .int .i64 w] W fun e w' => ∃ x, e = .returned (.tuple #[.int .u64 0, .int .i64 0, x]) ∧ Wr w' ⟨#[67, 117, 116]⟩ ⟨#[]⟩ 6 x ∧ Below W.heap.size W w' := by
  have VN := fun W => wvalid_no h W
  have AG := fun W v (h : Wr W ⟨#[86, 97, 108, 105, 100]⟩ ⟨#[]⟩ 6 v) (hg : ErrT W) => again_err (c := ⟨#[67, 117, 116]⟩) (t := ⟨#[]⟩) (by decide) (by decide) h hg
  have HG : Hid (ErrT W) := hg
  clear h hg
  go_enter Tryd.func9, Tryd.ntmps9
  go_wp2_with fail
  refine (VN _).mono ?_
  rintro e w1 ⟨y, rfl, h1, b1⟩
  have H1 : Hid (Wr w1 ⟨#[86, 97, 108, 105, 100]⟩ ⟨#[]⟩ 6 y ∧ Below W.heap.size W w1) := ⟨h1, b1⟩
  obtain ⟨T, z, rfl⟩ := h1.iface
  clear h1 b1
  go_wp2_with fail
  refine (AG _ _ H1.out.1 (HG.out.below H1.out.2 HG.out.pos)).mono ?_
  rintro e w2 ⟨x, rfl, h2, b2⟩
  have H2 : Hid (Wr w2 ⟨#[67, 117, 116]⟩ ⟨#[]⟩ 6 x ∧ Below W.heap.size W w2) := ⟨h2, H1.out.2.trans (b2.mono H1.out.2.size)⟩
  clear h2 b2
  go_wp2
  go_ret3
  exact ⟨x, rfl, H2.out.1, H2.out.2⟩
set_option maxRecDepth 100000 in
set_option maxHeartbeats 1000000 in
theorem wclamp_no {w : Int} (h : Wn w) (v : Int) (W : World) (hg : ErrT W) :
    Calls Tryd.prog 11 #[.int .i64 v, .int .i64 w] W fun e w' => ∃ x, e = .returned (.tuple #[.int .i64 0, x]) ∧ Wr w' ⟨#[67, 108, 97, 109, 112]⟩ ⟨#[]⟩ 6 x ∧ Below W.heap.size W w' := by
  have VN := fun W => wvalid_no h W
  have AG := fun W v (h : Wr W ⟨#[86, 97, 108, 105, 100]⟩ ⟨#[]⟩ 6 v) (hg : ErrT W) => again_err (c := ⟨#[67, 108, 97, 109, 112]⟩) (t := ⟨#[]⟩) (by decide) (by decide) h hg
  have HG : Hid (ErrT W) := hg
  clear h hg
  go_enter Tryd.func11, Tryd.ntmps11
  go_wp2_with fail
  refine (VN _).mono ?_
  rintro e w1 ⟨y, rfl, h1, b1⟩
  have H1 : Hid (Wr w1 ⟨#[86, 97, 108, 105, 100]⟩ ⟨#[]⟩ 6 y ∧ Below W.heap.size W w1) := ⟨h1, b1⟩
  obtain ⟨T, z, rfl⟩ := h1.iface
  clear h1 b1
  go_wp2_with fail
  refine (AG _ _ H1.out.1 (HG.out.below H1.out.2 HG.out.pos)).mono ?_
  rintro e w2 ⟨x, rfl, h2, b2⟩
  have H2 : Hid (Wr w2 ⟨#[67, 108, 97, 109, 112]⟩ ⟨#[]⟩ 6 x ∧ Below W.heap.size W w2) := ⟨h2, H1.out.2.trans (b2.mono H1.out.2.size)⟩
  clear h2 b2
  go_wp2
  go_ret2
  exact ⟨x, rfl, H2.out.1, H2.out.2⟩
set_option maxRecDepth 100000 in
set_option maxHeartbeats 1000000 in
theorem wtold_err {c : ByteArray} (hc : c.size ≤ 281474976710656) (s : ByteArray) (q : Bool) {c0 t0 : ByteArray} {n : Int} {v : Value} {w : World} (h : Wr w c0 t0 n v) (hg : ErrT w) :
    Calls Tryd.prog 40 #[.string c, .string s, v, .bool q] w fun e w' => ∃ x, e = .returned (.tuple #[.string ⟨#[]⟩, x]) ∧ Wr w' c ⟨#[]⟩ n x ∧ Below w.heap.size w w' := by
  have AG := again_err (c := c) (t := ⟨#[]⟩) hc (by decide) h hg
  obtain ⟨T, z, rfl⟩ := h.iface
  clear h hg hc
  go_enter Tryd.func40, Tryd.ntmps40
  go_wp2_with fail
  refine AG.mono ?_
  rintro e w2 ⟨x, rfl, h2, b2⟩
  have H2 : Hid (Wr w2 c ⟨#[]⟩ n x ∧ Below w.heap.size w w2) := ⟨h2, b2⟩
  clear h2 b2
  go_wp2
  go_ret2
  exact ⟨x, rfl, H2.out.1, H2.out.2⟩
set_option maxRecDepth 100000 in
set_option maxHeartbeats 1000000 in
theorem wtold_in (c s : ByteArray) (w : World) :
    Calls Tryd.prog 40 #[.string c, .string s, .nilIface, .bool true] w fun e w' => e = .returned (.tuple #[.string s, .nilIface]) ∧ w' = w := by
  go_enter Tryd.func40, Tryd.ntmps40
  go_wp2
  go_ret2
  exact ⟨rfl, rfl⟩
set_option maxRecDepth 100000 in
set_option maxHeartbeats 1000000 in
theorem wtold_out {c : ByteArray} (hc : c.size ≤ 281474976710656) (s : ByteArray) (w : World) :
    Calls Tryd.prog 40 #[.string c, .string s, .nilIface, .bool false] w fun e w' => ∃ x, e = .returned (.tuple #[.string ⟨#[]⟩, x]) ∧ Wr w' c ⟨#[]⟩ 4 x ∧ Below w.heap.size w w' := by
  have WR := fun W => wrap_err (c := c) (t := ⟨#[]⟩) hc (by decide) 4 W
  clear hc
  go_enter Tryd.func40, Tryd.ntmps40
  go_wp2_with fail
  refine (WR _).mono ?_
  rintro e w2 ⟨x, rfl, h2, b2⟩
  have H2 : Hid (Wr w2 c ⟨#[]⟩ 4 x ∧ Below w.heap.size w w2) := ⟨h2, b2⟩
  clear h2 b2
  go_wp2
  go_ret2
  exact ⟨x, rfl, H2.out.1, H2.out.2⟩
end Go.Proofs.YtoabdoognadijaaDoor
