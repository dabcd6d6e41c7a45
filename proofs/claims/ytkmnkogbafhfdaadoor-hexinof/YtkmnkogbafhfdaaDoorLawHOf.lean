/-
  The law HexinOf: the float of every hexadecimal text's parts, or the error.
-/
import Derived.Test.YtkmnkogbafhfdaaDoorHxE
import Derived.Test.YtkmnkogbafhfdaaDoorHxS
namespace Go.Proofs.YtkmnkogbafhfdaaDoor
open Go.RowKit

set_option maxRecDepth 100000 in
set_option maxHeartbeats 1000000 in
theorem hof_walk {c : Bool} {k : Int} {d : ByteArray} {q : Int} {u : Bool} {m e : Int} {r : Bool} {s y kk : Int} {V : Value}
    (U1 : ∀ W, Tab W → Calls Tryd.prog 5 #[ptV c k d q u m e r, .int .i64 s] W fun x w' => x = .returned (.tuple #[.int .u64 y, V]) ∧ Below W.heap.size W w')
    (U2 : ∀ W, Calls Tryd.prog 6 #[ptV c k d q u m e r, .int .i64 s] W fun x w' => x = .returned (.tuple #[.int .u64 y, .int .i64 kk]) ∧ Below W.heap.size W w')
    (N : ∀ W, ErrT W → Calls Tryd.prog 7 #[V] W fun x w' => x = .returned (.int .i64 kk) ∧ Below W.heap.size W w') (w : World) (hE : ErrT w) (hT : Tab w) :
    Calls Tryd.prog 3 #[ptV c k d q u m e r, .int .i64 s] w fun x w' => x = .returned (.bool true) ∧ Below w.heap.size w w' := by
  have S := fun W hW => sure17 W hW
  have HG : Hid (ErrT w) := hE
  have HT : Hid (Tab w) := hT
  have B0 : Hid (Below w.heap.size w (w.alloc (.cells #[.bool c, .int .i64 k, .string d, .int .i64 q, .bool u, .int .u64 m, .int .i64 e, .bool r] 26))) := (Below.refl _ _).alloc (Nat.le_refl _) _
  have G0 : Hid (PtB (w.alloc (.cells #[.bool c, .int .i64 k, .string d, .int .i64 q, .bool u, .int .u64 m, .int .i64 e, .bool r] 26)) w.heap.size c k d q u m e r) := PtB.new w c k d q u m e r _
  clear hE hT
  unfold ptV at *
  go_enter Tryd.func3, Tryd.ntmps3
  go_wp2_with fail
  refine (U1 _ (HT.out.below B0.out HT.out.pos)).mono ?_
  rintro x w1 ⟨rfl, hb⟩
  have B1 : Hid (Below w.heap.size w w1) := B0.out.trans (hb.mono B0.out.size)
  have G1 : Hid (PtB w1 w.heap.size c k d q u m e r) := G0.out.step hb
  clear hb G0 B0
  obtain ⟨_, a0, a1, a2, a3, a4, a5, a6, a7⟩ := G1.out
  go_wp2_with fail
  refine (U2 _).mono ?_
  rintro x w2 ⟨rfl, hb⟩
  have B2 : Hid (Below w.heap.size w w2) := B1.out.trans (hb.mono B1.out.size)
  clear hb a0 a1 a2 a3 a4 a5 a6 a7
  go_wp2_with fail
  refine (N _ (HG.out.below B2.out HG.out.pos)).mono ?_
  rintro x w3 ⟨rfl, hb⟩
  have B3 : Hid (Below w.heap.size w w3) := B2.out.trans (hb.mono B2.out.size)
  clear hb
  go_wp2_with fail
  refine (S _ (HT.out.below B3.out HT.out.pos)).mono ?_
  rintro x w4 ⟨rfl, hb⟩
  have B4 : Hid (Below w.heap.size w w4) := B3.out.trans (hb.mono B3.out.size)
  clear hb
  go_wp2
  go_ret
  exact ⟨rfl, B4.out⟩
theorem law_hof (c : Bool) (k : Int) (d : ByteArray) (q : Int) (u : Bool) (m : Nat) (hm : m < 18446744073709551616) (e : Int) (r : Bool) (s : Int) (w : World) (hE : ErrT w) (hT : Tab w) :
    Calls Tryd.prog 3 #[ptV c k d q u (m : Int) e r, .int .i64 s] w fun x w' => x = .returned (.bool true) ∧ Below w.heap.size w w' := by
  by_cases hs : Sn s
  · exact hof_walk (fun W _ => hof_no hs c k d q u m e r W) (fun W => rof_no hs c k d q u m e r W) (fun W hW => num_errno 5 W hW) w hE hT
  · obtain ⟨g, n, f, T, L, hz⟩ : ∃ g n f T L, Fz s g n f T L := by
      by_cases h1 : s = 32
      · exact ⟨_, _, _, _, _, .inl ⟨h1, rfl, rfl, rfl, rfl, rfl⟩⟩
      · by_cases h2 : s = 64
        · exact ⟨_, _, _, _, _, .inr ⟨h2, rfl, rfl, rfl, rfl, rfl⟩⟩
        · exact absurd ⟨h1, h2⟩ hs
    by_cases hk : k = 2
    · subst hk
      have U1 := fun W hW => hof_ok hz c d q u hm e r W hW
      have U2 := fun W => rof_ok hz c d q u hm e r W
      cases hA : hxA f T L m e r with
      | none =>
        rw [hA] at U1 U2
        exact hof_walk U1 U2 (fun W hW => num_errno 1 W hW) w hE hT
      | some p =>
        obtain ⟨b, ov⟩ := p
        rw [hA] at U1 U2
        cases ov
        · exact hof_walk U1 U2 (fun W _ => num_nil W) w hE hT
        · exact hof_walk U1 U2 (fun W hW => num_errno 4 W hW) w hE hT
    · exact hof_walk (fun W _ => hof_kind hz c hk d q u m e r W) (fun W => rof_kind hz c hk d q u m e r W) (fun W hW => num_errno 1 W hW) w hE hT
end Go.Proofs.YtkmnkogbafhfdaaDoor
