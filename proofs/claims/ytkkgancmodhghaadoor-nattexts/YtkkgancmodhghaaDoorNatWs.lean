/-
  What the document's Small answers: a word as a number.
-/
import Derived.Test.YtkkgancmodhghaaDoorBigO
namespace Go.Proofs.YtkkgancmodhghaaDoor
open Go.RowKit

theorem wrap_lo32 {t : Nat} (h : t < Big.B) : IntKind.u32.wrap (t : Int) = (t : Int) := by rw [IntKind.wrap_u32]; unfold Big.B at h; omega

theorem small_nat (x : Nat) (hx : x < B) (w : World) :
    Calls Tryd.prog 61 #[.int .u64 (x : Int)] w fun e w' => ∃ v, e = .returned v ∧ Big.NatV w' v x ∧ Below w.heap.size w w' := by
  have e1 := lo32 x
  have e2 := hi32 hx
  have h1 : x % Big.B < Big.B := Nat.mod_lt _ Big.B_pos
  have h2 : x / Big.B < Big.B := half_lt hx
  have hS : ∀ W : World, Big.Sl (W.alloc (.cells #[.int .u32 ((x % Big.B : Nat) : Int), .int .u32 ((x / Big.B : Nat) : Int)] 116)) (some ⟨W.heap.size, 0, none⟩) 2 2 W.heap.size 0 (halves (fun _ => x)) := fun W =>
    ⟨Nat.le_refl _, by unfold maxLen; omega, fun _ => rfl, fun _ => by simp, fun i hi => by
      rcases (by omega : i = 0 ∨ i = 1) with rfl | rfl
      · simp [halves]
      · simp [halves], halves_Ws (fun _ => hx)⟩
  have hV : Big.V (halves (fun _ => x)) 2 = x := by
    have := halves_V (fun _ => x) 1
    rw [this, V_succ, V_zero, Nat.pow_zero]; omega
  have HS : Hid (∀ W : World, Big.Sl (W.alloc (.cells #[.int .u32 ((x % Big.B : Nat) : Int), .int .u32 ((x / Big.B : Nat) : Int)] 116)) (some ⟨W.heap.size, 0, none⟩) 2 2 W.heap.size 0 (halves (fun _ => x))) := hS
  have HV : Hid (Big.V (halves (fun _ => x)) 2 = x) := hV
  clear hS hV
  generalize x % Big.B = lo at *
  generalize x / Big.B = hi at *
  have T := Big.trim_any (HS.out w)
  have NV := (HS.out w).trimmed
  rw [HV.out] at NV
  go_enter Tryd.func61, Tryd.ntmps61
  go_wp2_with fail
  refine T.mono ?_
  rintro e wa ⟨rfl, rfl⟩
  go_wp2
  go_ret
  exact ⟨_, rfl, NV, (Below.refl _ _).alloc (Nat.le_refl _) _⟩

end Go.Proofs.YtkkgancmodhghaaDoor
