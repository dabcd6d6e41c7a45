/-
  told and works of the laws of ints.
-/
import Derived.Test.YthjflphfjemanaaDoorItB
namespace Go.Proofs.YthjflphfjemanaaDoor
open Go.RowKit Go.Extern.Stop Go.Stop Go.Extern

set_option maxRecDepth 100000 in
set_option maxHeartbeats 1000000 in
theorem itold8_nil (c t : ByteArray) (w : World) : Calls Tryd.prog 13 #[.nilIface, .string c, .string t, .int .i64 0] w fun e w' => e = .returned (.bool true) ∧ Below w.heap.size w w' := by
  go_enter Tryd.func13, Tryd.ntmps13
  go_wp2
  go_ret
  exact ⟨rfl, Below.refl _ _⟩
set_option maxRecDepth 100000 in
set_option maxHeartbeats 1000000 in
theorem itold8_wr {c t : ByteArray} {n : Int} (hn : n ≠ 0) {v : Value} {w : World} (h : Wr w c t n v) (hg : ErrT w) :
    Calls Tryd.prog 13 #[v, .string c, .string t, .int .i64 n] w fun e w' => e = .returned (.bool true) ∧ Below w.heap.size w w' := by
  have h' : Ch w [(c, t)] n v := h
  have B0 : Below w.heap.size w (w.alloc (.cells #[.pointer none] 65)) := (Below.refl _ _).alloc (Nat.le_refl _) _
  have A1 := AsF_ch (w := w.alloc (.cells #[.pointer none] 65)) h' B0 (t := ⟨w.heap.size, 0, none⟩) (old := .pointer none) (hg.below B0 hg.pos) (by simp) (World.frozen?_alloc_new _ _ _ _)
  have N1 := fun W (h : Ch W [(c, t)] n v) (hg : ErrT W) => num_ch h hg
  have I1 := fun W (h : Ch W [(c, t)] n v) => Is_ch n h
  rw [show (n == n) = true from beq_self_eq_true n] at I1
  have HB : Hid (Below w.heap.size w (w.alloc (.cells #[.pointer none] 65))) := B0
  have H0 : Hid (Ch w [(c, t)] n v ∧ ErrT w) := ⟨h', hg⟩
  have hn' : (n == 0) = false := beq_eq_false_iff_ne.mpr hn
  obtain ⟨T, y, rfl⟩ := h'.iface
  clear h h' hg hn B0
  go_enter Tryd.func13, Tryd.ntmps13
  go_wp2_with fail
  refine A1.mono ?_
  rintro e w1 hr
  rcases hr with ⟨a1, _, _⟩ | ⟨c', x', b, z, a1, rfl, a3, a4, a5⟩
  · cases a1
  · have a1' : some (c, t) = some (c', x') := a1
    cases a1'
    have B1 : Hid (Below w.heap.size w w1) := HB.out.trans a5
    have a6 : w1.heap[b]? = some (.cells #[.string c, .string t, z] 69 (0, 0)) := (B1.out.block b (lt_of_heap a4)).trans a4
    have k0 : w1.cell? ⟨b, 0, none⟩ = some (.string c) := by simp [World.cell?, a6]
    have k1 : w1.cell? ⟨b, 1, none⟩ = some (.string t) := by simp [World.cell?, a6]
    have H1 : Hid (Ch w1 [(c, t)] n (.iface T y) ∧ ErrT w1) := ⟨H0.out.1.below B1.out (Nat.le_refl _), H0.out.2.below B1.out H0.out.2.pos⟩
    clear a1 a4 a5 a6
    go_wp2_with fail
    refine (N1 _ H1.out.1 H1.out.2).mono ?_
    rintro e w2 ⟨rfl, b2⟩
    have B2 : Hid (Below w.heap.size w w2) := B1.out.trans (b2.mono B1.out.size)
    have H2 : Hid (Ch w2 [(c, t)] n (.iface T y)) := H1.out.1.below b2 (Nat.le_refl _)
    clear b2
    go_wp2_with fail
    refine (I1 _ H2.out).mono ?_
    rintro e w2 ⟨rfl, rfl⟩
    go_wp2
    go_ret
    exact ⟨rfl, B2.out⟩
theorem itold8_any {c t : ByteArray} {n : Int} {v : Value} {w : World} (h : ErV w n c t v) (hg : ErrT w) :
    Calls Tryd.prog 13 #[v, .string c, .string t, .int .i64 n] w fun e w' => e = .returned (.bool true) ∧ Below w.heap.size w w' := by
  rcases h with ⟨rfl, rfl⟩ | ⟨h1, h2⟩
  · exact itold8_nil c t w
  · exact itold8_wr h1 h2 hg
theorem works_f : mrk (-255) false ++ fl 16 (-255 : Int).natAbs = [45, 102, 102] := by
  rw [show (-255 : Int).natAbs = 255 from rfl, fl_ff, mrk_neg (by decide)]; rfl
theorem works_p : ipX 10 [45, 57, 50, 50, 51, 51, 55, 50, 48, 51, 54, 56, 53, 52, 55, 55, 53, 56, 48, 56] = -9223372036854775808 ∧ ipE 10 [45, 57, 50, 50, 51, 51, 55, 50, 48, 51, 54, 56, 53, 52, 55, 55, 53, 56, 48, 56] = 0 := by decide +kernel
theorem works_q : ipX 10 [57, 50, 50, 51, 51, 55, 50, 48, 51, 54, 56, 53, 52, 55, 55, 53, 56, 48, 56] = 9223372036854775807 ∧ ipE 10 [57, 50, 50, 51, 51, 55, 50, 48, 51, 54, 56, 53, 52, 55, 55, 53, 56, 48, 56] = 4 := by decide +kernel
theorem works_x : iqX 10 [45, 49, 50, 120] = -12 ∧ iqL 10 [45, 49, 50, 120] = 3 ∧ iqE 10 [45, 49, 50, 120] = 0 := by decide +kernel
set_option maxRecDepth 100000 in
set_option maxHeartbeats 1000000 in
theorem works_any (w : World) (hg : ErrT w) : Calls Tryd.prog 16 #[] w fun x w' => x = .returned (.bool true) ∧ Below w.heap.size w w' := by
  have F1 := fun W => iformat_yes (-255) (by decide) (by decide) 16 (by decide) (by decide) W
  rw [works_f] at F1
  have P1 := fun W (hg : ErrT W) => iparse_yes ⟨#[45, 57, 50, 50, 51, 51, 55, 50, 48, 51, 54, 56, 53, 52, 55, 55, 53, 56, 48, 56]⟩ (by decide) 10 (Or.inr ⟨by decide, by decide⟩) W hg
  rw [show ipX 10 (⟨#[45, 57, 50, 50, 51, 51, 55, 50, 48, 51, 54, 56, 53, 52, 55, 55, 53, 56, 48, 56]⟩ : ByteArray).data.toList = -9223372036854775808 from works_p.1, show ipE 10 (⟨#[45, 57, 50, 50, 51, 51, 55, 50, 48, 51, 54, 56, 53, 52, 55, 55, 53, 56, 48, 56]⟩ : ByteArray).data.toList = 0 from works_p.2] at P1
  have P2 := fun W (hg : ErrT W) => iparse_yes ⟨#[57, 50, 50, 51, 51, 55, 50, 48, 51, 54, 56, 53, 52, 55, 55, 53, 56, 48, 56]⟩ (by decide) 10 (Or.inr ⟨by decide, by decide⟩) W hg
  rw [show ipX 10 (⟨#[57, 50, 50, 51, 51, 55, 50, 48, 51, 54, 56, 53, 52, 55, 55, 53, 56, 48, 56]⟩ : ByteArray).data.toList = 9223372036854775807 from works_q.1, show ipE 10 (⟨#[57, 50, 50, 51, 51, 55, 50, 48, 51, 54, 56, 53, 52, 55, 55, 53, 56, 48, 56]⟩ : ByteArray).data.toList = 4 from works_q.2] at P2
  have P3 := fun W (hg : ErrT W) => iprefix_yes ⟨#[45, 49, 50, 120]⟩ (by decide) 10 (Or.inr ⟨by decide, by decide⟩) W hg
  rw [show iqX 10 (⟨#[45, 49, 50, 120]⟩ : ByteArray).data.toList = -12 from works_x.1, show iqL 10 (⟨#[45, 49, 50, 120]⟩ : ByteArray).data.toList = 3 from works_x.2.1, show iqE 10 (⟨#[45, 49, 50, 120]⟩ : ByteArray).data.toList = 0 from works_x.2.2] at P3
  have N1 := fun W v (h : Wr W ⟨#[80, 97, 114, 115, 101]⟩ ⟨#[57, 50, 50, 51, 51, 55, 50, 48, 51, 54, 56, 53, 52, 55, 55, 53, 56, 48, 56]⟩ 4 v) (hg : ErrT W) => num_ch (ls := [(⟨#[80, 97, 114, 115, 101]⟩, ⟨#[57, 50, 50, 51, 51, 55, 50, 48, 51, 54, 56, 53, 52, 55, 55, 53, 56, 48, 56]⟩)]) h hg
  have HG : Hid (ErrT w) := hg
  clear hg
  go_enter Tryd.func16, Tryd.ntmps16
  go_wp2_with fail
  refine (F1 _).mono ?_
  rintro e w1 ⟨rfl, b1⟩
  have B1 : Hid (Below w.heap.size w w1) := b1
  clear b1
  go_wp2_with fail
  refine (P1 _ (HG.out.below B1.out HG.out.pos)).mono ?_
  rintro e w2 ⟨v2, rfl, h2, b2⟩
  have B2 : Hid (Below w.heap.size w w2) := B1.out.trans (b2.mono B1.out.size)
  clear b2
  rcases h2 with ⟨_, rfl⟩ | ⟨z, _⟩
  case inr => exact absurd rfl z
  go_wp2_with fail
  refine (P2 _ (HG.out.below B2.out HG.out.pos)).mono ?_
  rintro e w3 ⟨v3, rfl, h3, b3⟩
  have B3 : Hid (Below w.heap.size w w3) := B2.out.trans (b3.mono B2.out.size)
  clear b3
  rcases h3 with ⟨z, _⟩ | ⟨_, h3⟩
  case inl => exact absurd z (by decide)
  have H3 : Hid (Wr w3 ⟨#[80, 97, 114, 115, 101]⟩ ⟨#[57, 50, 50, 51, 51, 55, 50, 48, 51, 54, 56, 53, 52, 55, 55, 53, 56, 48, 56]⟩ 4 v3) := h3
  clear h3
  go_wp2_with fail
  refine (P3 _ (HG.out.below B3.out HG.out.pos)).mono ?_
  rintro e w4 ⟨v4, rfl, h4, b4⟩
  have B4 : Hid (Below w.heap.size w w4) := B3.out.trans (b4.mono B3.out.size)
  have H4 : Hid (Wr w4 ⟨#[80, 97, 114, 115, 101]⟩ ⟨#[57, 50, 50, 51, 51, 55, 50, 48, 51, 54, 56, 53, 52, 55, 55, 53, 56, 48, 56]⟩ 4 v3) := H3.out.below b4 (Nat.le_refl _)
  clear b4
  rcases h4 with ⟨_, rfl⟩ | ⟨z, _⟩
  case inr => exact absurd rfl z
  go_wp2_with fail
  refine (N1 _ _ H4.out (HG.out.below B4.out HG.out.pos)).mono ?_
  rintro e w5 ⟨rfl, b5⟩
  have B5 : Hid (Below w.heap.size w w5) := B4.out.trans (b5.mono B4.out.size)
  clear b5
  go_wp2
  go_ret
  exact ⟨rfl, B5.out⟩
end Go.Proofs.YthjflphfjemanaaDoor
