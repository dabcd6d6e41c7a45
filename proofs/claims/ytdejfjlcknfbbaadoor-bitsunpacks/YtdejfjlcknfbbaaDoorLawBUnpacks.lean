/-
  The law BitsUnpacks: the parts and the class of all bits, or the errors.
-/
import Derived.Test.YtdejfjlcknfbbaaDoorBtL
namespace Go.Proofs.YtdejfjlcknfbbaaDoor
open Go.RowKit

set_option maxRecDepth 100000 in
set_option maxHeartbeats 1000000 in
theorem bunpacks_walk {b s x1 x2 x3 c k : Int} {x0 : Bool} {V : Value}
    (U1 : (∀ W, Calls Tryd.prog 9 #[.int .u64 b, .int .i64 s] W fun e w' => e = .returned (.tuple #[.agg #[.bool x0, .int .i64 x1, .int .u64 x2, .int .i64 x3], V]) ∧ Below W.heap.size W w'))
    (U2 : (∀ W, Calls Tryd.prog 10 #[.int .u64 b, .int .i64 s] W fun e w' => e = .returned (.tuple #[.agg #[.bool x0, .int .i64 x1, .int .u64 x2, .int .i64 x3], .int .i64 k]) ∧ Below W.heap.size W w'))
    (C1 : (∀ W, Calls Tryd.prog 11 #[.int .u64 b, .int .i64 s] W fun e w' => e = .returned (.tuple #[.int .i64 c, V]) ∧ Below W.heap.size W w'))
    (C2 : (∀ W, Calls Tryd.prog 12 #[.int .u64 b, .int .i64 s] W fun e w' => e = .returned (.tuple #[.int .i64 c, .int .i64 k]) ∧ Below W.heap.size W w'))
    (K1 : (∀ W, Calls Tryd.prog 14 #[.int .u64 b, .int .i64 s] W fun e w' => e = .returned (V) ∧ Below W.heap.size W w'))
    (K2 : (∀ W, Calls Tryd.prog 15 #[.int .u64 b, .int .i64 s] W fun e w' => e = .returned (.int .i64 k) ∧ Below W.heap.size W w'))
    (N : ∀ W, ErrT W → Calls Tryd.prog 13 #[V] W fun e w' => e = .returned (.int .i64 k) ∧ Below W.heap.size W w')
    (w : World) (hE : ErrT w) : Calls Tryd.prog 3 #[.int .u64 b, .int .i64 s] w fun e w' => e = .returned (.bool true) ∧ Below w.heap.size w w' := by
  have S := fun W => sure_any W
  have HG : Hid (ErrT w) := hE
  clear hE
  go_enter Tryd.func3, Tryd.ntmps3
  have B0 : Hid (Below w.heap.size w w) := Below.refl _ _
  go_wp2_with fail
  refine (U1 _).mono ?_
  rintro e w1 ⟨rfl, hb⟩
  have B1 : Hid (Below w.heap.size w w1) := B0.out.trans (hb.mono B0.out.size)
  clear hb
  go_wp2_with fail
  refine (U2 _).mono ?_
  rintro e w2 ⟨rfl, hb⟩
  have B2 : Hid (Below w.heap.size w w2) := (B1.out.alloc B1.out.size _).trans (hb.mono (by have := B1.out.size; simp; omega))
  have X0 : Hid (FlB w2 _ _ _ _ _) := (FlB.new w1 _ _ _ _ _).step hb
  clear hb
  go_wp2_with fail
  refine (C1 _).mono ?_
  rintro e w3 ⟨rfl, hb⟩
  have B3 : Hid (Below w.heap.size w w3) := (B2.out.alloc B2.out.size _).trans (hb.mono (by have := B2.out.size; simp; omega))
  have X0n : Hid (FlB w3 _ _ _ _ _) := (X0.out.al _).step hb
  clear X0
  have X0 := X0n
  clear X0n
  have X1 : Hid (FlB w3 _ _ _ _ _) := (FlB.new w2 _ _ _ _ _).step hb
  clear hb
  go_wp2_with fail
  refine (C2 _).mono ?_
  rintro e w4 ⟨rfl, hb⟩
  have B4 : Hid (Below w.heap.size w w4) := B3.out.trans (hb.mono B3.out.size)
  have X0n : Hid (FlB w4 _ _ _ _ _) := X0.out.step hb
  clear X0
  have X0 := X0n
  clear X0n
  have X1n : Hid (FlB w4 _ _ _ _ _) := X1.out.step hb
  clear X1
  have X1 := X1n
  clear X1n
  clear hb
  obtain ⟨l0, x00, x01, x02, x03, _, _, _, _⟩ := X0.out
  obtain ⟨l1, x10, x11, x12, x13, _, _, _, _⟩ := X1.out
  go_wp2_with fail
  refine (N _ (HG.out.below B4.out HG.out.pos)).mono ?_
  rintro e w5 ⟨rfl, hb⟩
  have B5 : Hid (Below w.heap.size w w5) := B4.out.trans (hb.mono B4.out.size)
  have X0n : Hid (FlB w5 _ _ _ _ _) := X0.out.step hb
  clear X0
  have X0 := X0n
  clear X0n
  have X1n : Hid (FlB w5 _ _ _ _ _) := X1.out.step hb
  clear X1
  have X1 := X1n
  clear X1n
  clear hb
  go_wp2_with fail
  refine (N _ (HG.out.below B5.out HG.out.pos)).mono ?_
  rintro e w6 ⟨rfl, hb⟩
  have B6 : Hid (Below w.heap.size w w6) := B5.out.trans (hb.mono B5.out.size)
  have X0n : Hid (FlB w6 _ _ _ _ _) := X0.out.step hb
  clear X0
  have X0 := X0n
  clear X0n
  have X1n : Hid (FlB w6 _ _ _ _ _) := X1.out.step hb
  clear X1
  have X1 := X1n
  clear X1n
  clear hb
  go_wp2_with fail
  refine (K1 _).mono ?_
  rintro e w7 ⟨rfl, hb⟩
  have B7 : Hid (Below w.heap.size w w7) := B6.out.trans (hb.mono B6.out.size)
  have X0n : Hid (FlB w7 _ _ _ _ _) := X0.out.step hb
  clear X0
  have X0 := X0n
  clear X0n
  have X1n : Hid (FlB w7 _ _ _ _ _) := X1.out.step hb
  clear X1
  have X1 := X1n
  clear X1n
  clear hb
  go_wp2_with fail
  refine (N _ (HG.out.below B7.out HG.out.pos)).mono ?_
  rintro e w8 ⟨rfl, hb⟩
  have B8 : Hid (Below w.heap.size w w8) := B7.out.trans (hb.mono B7.out.size)
  have X0n : Hid (FlB w8 _ _ _ _ _) := X0.out.step hb
  clear X0
  have X0 := X0n
  clear X0n
  have X1n : Hid (FlB w8 _ _ _ _ _) := X1.out.step hb
  clear X1
  have X1 := X1n
  clear X1n
  clear hb
  go_wp2_with fail
  refine (K2 _).mono ?_
  rintro e w9 ⟨rfl, hb⟩
  have B9 : Hid (Below w.heap.size w w9) := B8.out.trans (hb.mono B8.out.size)
  have X0n : Hid (FlB w9 _ _ _ _ _) := X0.out.step hb
  clear X0
  have X0 := X0n
  clear X0n
  have X1n : Hid (FlB w9 _ _ _ _ _) := X1.out.step hb
  clear X1
  have X1 := X1n
  clear X1n
  clear hb
  go_wp2_with fail
  refine (S _).mono ?_
  rintro e w10 ⟨rfl, hb⟩
  have B10 : Hid (Below w.heap.size w w10) := B9.out.trans (hb.mono B9.out.size)
  have X0n : Hid (FlB w10 _ _ _ _ _) := X0.out.step hb
  clear X0
  have X0 := X0n
  clear X0n
  have X1n : Hid (FlB w10 _ _ _ _ _) := X1.out.step hb
  clear X1
  have X1 := X1n
  clear X1n
  clear hb
  go_wp2
  go_ret
  exact ⟨rfl, B10.out⟩

theorem law_bunpacks (b : Nat) (hb : b < 18446744073709551616) (s : Int) (w : World) (hE : ErrT w) :
    Calls Tryd.prog 3 #[.int .u64 (b : Int), .int .i64 s] w fun e w' => e = .returned (.bool true) ∧ Below w.heap.size w w' := by
  by_cases h1 : s = 32
  · subst h1
    by_cases h : b < 4294967296
    · exact bunpacks_walk (fun W => unp_32 h W) (fun W => runp_32 h W) (fun W => cls_32 h W) (toB' fun W => rcls_32 h W) (fun W => check_32 h W) (toB' fun W => rcheck_32 h W) (fun W _ => num_nil W) w hE
    · have h : 4294967296 ≤ b := by omega
      exact bunpacks_walk (fun W => unp_big h W) (fun W => runp_big h W) (fun W => cls_big h W) (toB' fun W => rcls_big h W) (fun W => check_big h W) (toB' fun W => rcheck_big h W) (fun W g => num_errno 1 W g) w hE
  · by_cases h2 : s = 64
    · subst h2
      exact bunpacks_walk (fun W => unp_64 hb W) (fun W => runp_64 hb W) (fun W => cls_64 hb W) (toB' fun W => rcls_64 hb W) (fun W => check_64 hb W) (toB' fun W => rcheck_64 _ W) (fun W _ => num_nil W) w hE
    · have h : Sn s := ⟨h1, h2⟩
      exact bunpacks_walk (fun W => unp_no h _ W) (fun W => runp_no h _ W) (fun W => cls_no h _ W) (toB' fun W => rcls_no h _ W) (fun W => check_no h _ W) (toB' fun W => rcheck_no h _ W) (fun W g => num_errno 5 W g) w hE
end Go.Proofs.YtdejfjlcknfbbaaDoor
