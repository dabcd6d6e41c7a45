/-
  The law BitsSpecials: infinities, noughts, the NaN, the greatest and the least float of every size, or the error.
-/
import Derived.Test.YtdejfjlcknfbbaaDoorBtL
namespace Go.Proofs.YtdejfjlcknfbbaaDoor
open Go.RowKit

set_option maxRecDepth 100000 in
set_option maxHeartbeats 1000000 in
theorem bspecials_no {s : Int} (h : Sn s) (c : Bool) (w : World) (hE : ErrT w) : Calls Tryd.prog 5 #[.bool c, .int .i64 s] w fun e w' => e = .returned (.bool true) ∧ Below w.heap.size w w' := by
  have I1 := fun W => binf_no c h W
  have Z1 := fun W => bzero_no c h W
  have N1 := fun W => bnan_no h W
  have M1 := fun W => bmost_no h W
  have L1 := fun W => bleast_no h W
  have R1 := toB' fun W => rsize_no h W
  have N := fun W (g : ErrT W) => num_errno 5 W g
  have S := fun W => sure_any W
  have HG : Hid (ErrT w) := hE
  clear hE h
  go_enter Tryd.func5, Tryd.ntmps5
  have B0 : Hid (Below w.heap.size w w) := Below.refl _ _
  go_wp2_with fail
  refine (I1 _).mono ?_
  rintro e w1 ⟨rfl, hb⟩
  have B1 : Hid (Below w.heap.size w w1) := B0.out.trans (hb.mono B0.out.size)
  clear hb
  go_wp2_with fail
  refine (Z1 _).mono ?_
  rintro e w2 ⟨rfl, hb⟩
  have B2 : Hid (Below w.heap.size w w2) := B1.out.trans (hb.mono B1.out.size)
  clear hb
  go_wp2_with fail
  refine (N1 _).mono ?_
  rintro e w3 ⟨rfl, hb⟩
  have B3 : Hid (Below w.heap.size w w3) := B2.out.trans (hb.mono B2.out.size)
  clear hb
  go_wp2_with fail
  refine (M1 _).mono ?_
  rintro e w4 ⟨rfl, hb⟩
  have B4 : Hid (Below w.heap.size w w4) := B3.out.trans (hb.mono B3.out.size)
  clear hb
  go_wp2_with fail
  refine (L1 _).mono ?_
  rintro e w5 ⟨rfl, hb⟩
  have B5 : Hid (Below w.heap.size w w5) := B4.out.trans (hb.mono B4.out.size)
  clear hb
  go_wp2_with fail
  refine (R1 _).mono ?_
  rintro e w6 ⟨rfl, hb⟩
  have B6 : Hid (Below w.heap.size w w6) := B5.out.trans (hb.mono B5.out.size)
  clear hb
  go_wp2_with fail
  refine (N _ (HG.out.below B6.out HG.out.pos)).mono ?_
  rintro e w7 ⟨rfl, hb⟩
  have B7 : Hid (Below w.heap.size w w7) := B6.out.trans (hb.mono B6.out.size)
  clear hb
  go_wp2_with fail
  refine (N _ (HG.out.below B7.out HG.out.pos)).mono ?_
  rintro e w8 ⟨rfl, hb⟩
  have B8 : Hid (Below w.heap.size w w8) := B7.out.trans (hb.mono B7.out.size)
  clear hb
  go_wp2_with fail
  refine (N _ (HG.out.below B8.out HG.out.pos)).mono ?_
  rintro e w9 ⟨rfl, hb⟩
  have B9 : Hid (Below w.heap.size w w9) := B8.out.trans (hb.mono B8.out.size)
  clear hb
  go_wp2_with fail
  refine (N _ (HG.out.below B9.out HG.out.pos)).mono ?_
  rintro e w10 ⟨rfl, hb⟩
  have B10 : Hid (Below w.heap.size w w10) := B9.out.trans (hb.mono B9.out.size)
  clear hb
  go_wp2_with fail
  refine (N _ (HG.out.below B10.out HG.out.pos)).mono ?_
  rintro e w11 ⟨rfl, hb⟩
  have B11 : Hid (Below w.heap.size w w11) := B10.out.trans (hb.mono B10.out.size)
  clear hb
  go_wp2_with fail
  refine (S _).mono ?_
  rintro e w12 ⟨rfl, hb⟩
  have B12 : Hid (Below w.heap.size w w12) := B11.out.trans (hb.mono B11.out.size)
  clear hb
  go_wp2
  go_ret
  exact ⟨rfl, B12.out⟩
set_option maxRecDepth 100000 in
set_option maxHeartbeats 1000000 in
theorem bspecials_32 (c : Bool) (w : World) : Calls Tryd.prog 5 #[.bool c, .int .i64 32] w fun e w' => e = .returned (.bool true) ∧ Below w.heap.size w w' := by
  have I1 := fun W => binf_32 c W
  have Z1 := fun W => bzero_32 c W
  have N1 := fun W => bnan_32 W
  have M1 := fun W => bmost_32 W
  have L1 := fun W => bleast_32 W
  have R1 := toB' fun W => rsize_32 W
  have R2 := toB' fun W => rInf_32 W
  have R3 := toB' fun W => rnan_32 W
  have G1 := toB' fun W => rsigned_32 (x := 2139095040) (by decide) c W
  have G2 := toB' fun W => rsigned_32 (x := 0) (by decide) c W
  rw [show ((2139095040 : Nat) : Int) = 2139095040 from rfl] at G1
  rw [show ((0 : Nat) : Int) = 0 from rfl] at G2
  have S := fun W => sure_any W
  generalize sgd 2147483648 c 2139095040 = a1 at *
  generalize sgd 2147483648 c 0 = a2 at *
  go_enter Tryd.func5, Tryd.ntmps5
  have B0 : Hid (Below w.heap.size w w) := Below.refl _ _
  go_wp2_with fail
  refine (I1 _).mono ?_
  rintro e w1 ⟨rfl, hb⟩
  have B1 : Hid (Below w.heap.size w w1) := B0.out.trans (hb.mono B0.out.size)
  clear hb
  go_wp2_with fail
  refine (Z1 _).mono ?_
  rintro e w2 ⟨rfl, hb⟩
  have B2 : Hid (Below w.heap.size w w2) := B1.out.trans (hb.mono B1.out.size)
  clear hb
  go_wp2_with fail
  refine (N1 _).mono ?_
  rintro e w3 ⟨rfl, hb⟩
  have B3 : Hid (Below w.heap.size w w3) := B2.out.trans (hb.mono B2.out.size)
  clear hb
  go_wp2_with fail
  refine (M1 _).mono ?_
  rintro e w4 ⟨rfl, hb⟩
  have B4 : Hid (Below w.heap.size w w4) := B3.out.trans (hb.mono B3.out.size)
  clear hb
  go_wp2_with fail
  refine (L1 _).mono ?_
  rintro e w5 ⟨rfl, hb⟩
  have B5 : Hid (Below w.heap.size w w5) := B4.out.trans (hb.mono B4.out.size)
  clear hb
  go_wp2_with fail
  refine (R1 _).mono ?_
  rintro e w6 ⟨rfl, hb⟩
  have B6 : Hid (Below w.heap.size w w6) := B5.out.trans (hb.mono B5.out.size)
  clear hb
  go_wp2_with fail
  refine (R2 _).mono ?_
  rintro e w7 ⟨rfl, hb⟩
  have B7 : Hid (Below w.heap.size w w7) := B6.out.trans (hb.mono B6.out.size)
  clear hb
  go_wp2_with fail
  refine (G1 _).mono ?_
  rintro e w8 ⟨rfl, hb⟩
  have B8 : Hid (Below w.heap.size w w8) := B7.out.trans (hb.mono B7.out.size)
  clear hb
  go_wp2_with fail
  refine (G2 _).mono ?_
  rintro e w9 ⟨rfl, hb⟩
  have B9 : Hid (Below w.heap.size w w9) := B8.out.trans (hb.mono B8.out.size)
  clear hb
  go_wp2_with fail
  refine (R3 _).mono ?_
  rintro e w10 ⟨rfl, hb⟩
  have B10 : Hid (Below w.heap.size w w10) := B9.out.trans (hb.mono B9.out.size)
  clear hb
  go_wp2_with fail
  refine (S _).mono ?_
  rintro e w11 ⟨rfl, hb⟩
  have B11 : Hid (Below w.heap.size w w11) := B10.out.trans (hb.mono B10.out.size)
  clear hb
  go_wp2
  go_ret
  exact ⟨rfl, B11.out⟩
set_option maxRecDepth 100000 in
set_option maxHeartbeats 1000000 in
theorem bspecials_64 (c : Bool) (w : World) : Calls Tryd.prog 5 #[.bool c, .int .i64 64] w fun e w' => e = .returned (.bool true) ∧ Below w.heap.size w w' := by
  have I1 := fun W => binf_64 c W
  have Z1 := fun W => bzero_64 c W
  have N1 := fun W => bnan_64 W
  have M1 := fun W => bmost_64 W
  have L1 := fun W => bleast_64 W
  have R1 := toB' fun W => rsize_64 W
  have R2 := toB' fun W => rInf_64 W
  have R3 := toB' fun W => rnan_64 W
  have G1 := toB' fun W => rsigned_64 (x := 9218868437227405312) (by decide) c W
  have G2 := toB' fun W => rsigned_64 (x := 0) (by decide) c W
  rw [show ((9218868437227405312 : Nat) : Int) = 9218868437227405312 from rfl] at G1
  rw [show ((0 : Nat) : Int) = 0 from rfl] at G2
  have S := fun W => sure_any W
  generalize sgd 9223372036854775808 c 9218868437227405312 = a1 at *
  generalize sgd 9223372036854775808 c 0 = a2 at *
  go_enter Tryd.func5, Tryd.ntmps5
  have B0 : Hid (Below w.heap.size w w) := Below.refl _ _
  go_wp2_with fail
  refine (I1 _).mono ?_
  rintro e w1 ⟨rfl, hb⟩
  have B1 : Hid (Below w.heap.size w w1) := B0.out.trans (hb.mono B0.out.size)
  clear hb
  go_wp2_with fail
  refine (Z1 _).mono ?_
  rintro e w2 ⟨rfl, hb⟩
  have B2 : Hid (Below w.heap.size w w2) := B1.out.trans (hb.mono B1.out.size)
  clear hb
  go_wp2_with fail
  refine (N1 _).mono ?_
  rintro e w3 ⟨rfl, hb⟩
  have B3 : Hid (Below w.heap.size w w3) := B2.out.trans (hb.mono B2.out.size)
  clear hb
  go_wp2_with fail
  refine (M1 _).mono ?_
  rintro e w4 ⟨rfl, hb⟩
  have B4 : Hid (Below w.heap.size w w4) := B3.out.trans (hb.mono B3.out.size)
  clear hb
  go_wp2_with fail
  refine (L1 _).mono ?_
  rintro e w5 ⟨rfl, hb⟩
  have B5 : Hid (Below w.heap.size w w5) := B4.out.trans (hb.mono B4.out.size)
  clear hb
  go_wp2_with fail
  refine (R1 _).mono ?_
  rintro e w6 ⟨rfl, hb⟩
  have B6 : Hid (Below w.heap.size w w6) := B5.out.trans (hb.mono B5.out.size)
  clear hb
  go_wp2_with fail
  refine (R2 _).mono ?_
  rintro e w7 ⟨rfl, hb⟩
  have B7 : Hid (Below w.heap.size w w7) := B6.out.trans (hb.mono B6.out.size)
  clear hb
  go_wp2_with fail
  refine (G1 _).mono ?_
  rintro e w8 ⟨rfl, hb⟩
  have B8 : Hid (Below w.heap.size w w8) := B7.out.trans (hb.mono B7.out.size)
  clear hb
  go_wp2_with fail
  refine (G2 _).mono ?_
  rintro e w9 ⟨rfl, hb⟩
  have B9 : Hid (Below w.heap.size w w9) := B8.out.trans (hb.mono B8.out.size)
  clear hb
  go_wp2_with fail
  refine (R3 _).mono ?_
  rintro e w10 ⟨rfl, hb⟩
  have B10 : Hid (Below w.heap.size w w10) := B9.out.trans (hb.mono B9.out.size)
  clear hb
  go_wp2_with fail
  refine (S _).mono ?_
  rintro e w11 ⟨rfl, hb⟩
  have B11 : Hid (Below w.heap.size w w11) := B10.out.trans (hb.mono B10.out.size)
  clear hb
  go_wp2
  go_ret
  exact ⟨rfl, B11.out⟩
theorem law_bspecials (c : Bool) (s : Int) (w : World) (hE : ErrT w) :
    Calls Tryd.prog 5 #[.bool c, .int .i64 s] w fun e w' => e = .returned (.bool true) ∧ Below w.heap.size w w' := by
  by_cases h1 : s = 32
  · subst h1; exact bspecials_32 c w
  · by_cases h2 : s = 64
    · subst h2; exact bspecials_64 c w
    · exact bspecials_no ⟨h1, h2⟩ c w hE
end Go.Proofs.YtdejfjlcknfbbaaDoor
