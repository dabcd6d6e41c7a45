/-
  The law BitsConverts: all floats of 32 bits widened, all of 64 narrowed, or the error.
-/
import Derived.Test.YtdejfjlcknfbbaaDoorBtCv
namespace Go.Proofs.YtdejfjlcknfbbaaDoor
open Go.RowKit

set_option maxRecDepth 100000 in
set_option maxHeartbeats 1000000 in
theorem bconverts_walk {b y k u : Int} {bb : Bool} {V : Value}
    (W1 : (∀ W, Tab W → Calls Tryd.prog 34 #[.int .u64 b] W fun e w' => e = .returned (.tuple #[.int .u64 y, V]) ∧ Below W.heap.size W w')) (W2 : (∀ W, Calls Tryd.prog 35 #[.int .u64 b] W fun e w' => e = .returned (.tuple #[.int .u64 y, .int .i64 k]) ∧ Below W.heap.size W w'))
    (N1 : (∀ W, Tab W → Calls Tryd.prog 36 #[.int .u64 b] W fun e w' => e = .returned (.tuple #[.int .u64 u, .bool bb, .nilIface]) ∧ Below W.heap.size W w')) (N2 : (∀ W, Calls Tryd.prog 37 #[.int .u64 b] W fun e w' => e = .returned (.tuple #[.int .u64 u, .bool bb]) ∧ Below W.heap.size W w'))
    (N : (∀ W, ErrT W → Calls Tryd.prog 13 #[V] W fun e w' => e = .returned (.int .i64 k) ∧ Below W.heap.size W w')) (w : World) (hE : ErrT w) (hT : Tab w) : Calls Tryd.prog 7 #[.int .u64 b] w fun e w' => e = .returned (.bool true) ∧ Below w.heap.size w w' := by
  have S := fun W => sure_any W
  have HG : Hid (ErrT w) := hE
  have HT : Hid (Tab w) := hT
  clear hE hT
  go_enter Tryd.func7, Tryd.ntmps7
  have B0 : Hid (Below w.heap.size w w) := Below.refl _ _
  go_wp2_with fail
  refine (W1 _ (HT.out.below B0.out HT.out.pos)).mono ?_
  rintro e w1 ⟨rfl, hb⟩
  have B1 : Hid (Below w.heap.size w w1) := B0.out.trans (hb.mono B0.out.size)
  clear hb
  go_wp2_with fail
  refine (W2 _).mono ?_
  rintro e w2 ⟨rfl, hb⟩
  have B2 : Hid (Below w.heap.size w w2) := B1.out.trans (hb.mono B1.out.size)
  clear hb
  go_wp2_with fail
  refine (N1 _ (HT.out.below B2.out HT.out.pos)).mono ?_
  rintro e w3 ⟨rfl, hb⟩
  have B3 : Hid (Below w.heap.size w w3) := B2.out.trans (hb.mono B2.out.size)
  clear hb
  go_wp2_with fail
  refine (N2 _).mono ?_
  rintro e w4 ⟨rfl, hb⟩
  have B4 : Hid (Below w.heap.size w w4) := B3.out.trans (hb.mono B3.out.size)
  clear hb
  go_wp2_with fail
  refine (N _ (HG.out.below B4.out HG.out.pos)).mono ?_
  rintro e w5 ⟨rfl, hb⟩
  have B5 : Hid (Below w.heap.size w w5) := B4.out.trans (hb.mono B4.out.size)
  clear hb
  go_wp2_with fail
  refine (S _).mono ?_
  rintro e w6 ⟨rfl, hb⟩
  have B6 : Hid (Below w.heap.size w w6) := B5.out.trans (hb.mono B5.out.size)
  clear hb
  go_wp2
  go_ret
  exact ⟨rfl, B6.out⟩

theorem law_bconverts (b : Nat) (hb : b < 18446744073709551616) (w : World) (hE : ErrT w) (hT : Tab w) : Calls Tryd.prog 7 #[.int .u64 (b : Int)] w fun e w' => e = .returned (.bool true) ∧ Below w.heap.size w w' := by
  obtain ⟨N1, N2⟩ := narrow_both hb
  by_cases h : b < 4294967296
  · obtain ⟨W1, W2⟩ := widen_both_ok h
    exact bconverts_walk W1 W2 N1 N2 (fun W _ => num_nil W) w hE hT
  · have h : 4294967296 ≤ b := by omega
    exact bconverts_walk (fun W _ => widen_big h W) (fun W => rwiden_big h W) N1 N2 (fun W g => num_errno 1 W g) w hE hT
end Go.Proofs.YtdejfjlcknfbbaaDoor
