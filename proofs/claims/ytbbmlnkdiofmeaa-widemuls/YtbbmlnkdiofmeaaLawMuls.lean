/-
  The statement WideMuls: for all words a, b and all numbers c of two words the call of WideMuls returns true.
-/
import Derived.Test.YtbbmlnkdiofmeaaSure
import Derived.Deep.RegionHeld3
namespace Go.Proofs.Ytbbmlnkdiofmeaa
open Go.RowKit

set_option maxHeartbeats 1000000 in
theorem law_muls (a b h l : Int) (h1 : Word a) (h2 : Word b) (h3 : Word h) (h4 : Word l) (w : World) :
    Calls Try.prog 3 #[.int .u64 a, .int .u64 b, .agg #[.int .u64 h, .int .u64 l]] w fun e w' => e = .returned (.bool true) ∧ Below w.heap.size w w' := by
  go_enter Try.func3, Try.ntmps3
  go_wp2_with (first
    | (go_at_call 5; refine (wmulw_any h l b h3 h4 h2 _).mono ?_; rintro e wa ⟨rfl, hba⟩; obtain ⟨hca, hfa⟩ := bcell hba; have sa := hba.size; simp at hca hfa sa; have q0 : w.heap.size < wa.heap.size := (by omega))
    | (go_at_call 6; refine (rmulw_any h l b h3 h4 h2 _).mono ?_; rintro e wb ⟨rfl, hbb⟩; obtain ⟨hcb, hfb⟩ := bcell hbb; have sb := hbb.size; simp at hcb hfb sb; have q1 : wa.heap.size < wb.heap.size := (by omega))
    | (go_at_call 7; refine (wmul_any a b h1 h2 _).mono ?_; rintro e wc ⟨rfl, hbc⟩; obtain ⟨hcc, hfc⟩ := bcell hbc; have sc := hbc.size; simp at hcc hfc sc; have q2 : wa.heap.size < wc.heap.size := (by omega); have q3 : wb.heap.size < wc.heap.size := (by omega))
    | (go_at_call 8; refine (rmul_any a b h1 h2 _).mono ?_; rintro e wd ⟨rfl, hbd⟩; obtain ⟨hcd, hfd⟩ := bcell hbd; have sd := hbd.size; have q4 : wa.heap.size < wd.heap.size := (by omega); have q5 : wb.heap.size < wd.heap.size := (by omega))
    | (go_at_call 9; refine (sure_any _).mono ?_; rintro e we ⟨rfl, hbe⟩))
  go_ret
  have b1 : Below w.heap.size w wb := ((((Below.refl _ _).alloc (Nat.le_refl _) _).trans (hba.mono (by simp))).alloc (by omega) _).trans (hbb.mono (by simp; omega))
  have b2 : Below w.heap.size w wc := (b1.alloc (by omega) _).trans (hbc.mono (by simp; omega))
  exact ⟨rfl, (b2.trans (hbd.mono (by omega))).trans (hbe.mono (by omega))⟩

end Go.Proofs.Ytbbmlnkdiofmeaa
