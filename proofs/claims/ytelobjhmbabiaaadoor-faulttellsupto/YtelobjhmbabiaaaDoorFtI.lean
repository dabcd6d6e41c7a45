/-
  Why, Call, Text and LineOf, of rows of links and of no error; nil links; nothing is wrapped round no error.
-/
import Derived.Test.YtelobjhmbabiaaaDoorFtH
import Derived.Test.YtelobjhmbabiaaaDoorFtS
namespace Go.Proofs.YtelobjhmbabiaaaDoor
open Go.RowKit

set_option maxRecDepth 100000 in
theorem why_ch {ls : List Lk} {n : Int} {v : Value} {w : World} (h : Ch w ls n v) (hg : ErrT w) :
    Calls Tryd.prog 26 #[v] w fun e w' => e = .returned (.int .i64 n) ∧ Below w.heap.size w w' := by
  have F := firstN_ch h hg
  go_enter Tryd.func26, Tryd.ntmps26
  go_wp2_with fail
  refine F.mono ?_
  rintro e w1 ⟨rfl, hb⟩
  go_wp2
  go_ret
  exact ⟨rfl, hb⟩
set_option maxRecDepth 100000 in
theorem why_nil (w : World) : Calls Tryd.prog 26 #[.nilIface] w fun e w' => e = .returned (.int .i64 0) ∧ Below w.heap.size w w' := by
  have F := firstN_nil w
  go_enter Tryd.func26, Tryd.ntmps26
  go_wp2_with fail
  refine F.mono ?_
  rintro e w1 ⟨rfl, hb⟩
  go_wp2
  go_ret
  exact ⟨rfl, hb⟩
set_option maxRecDepth 100000 in
theorem call_nil (w : World) : Calls Tryd.prog 21 #[.nilIface] w fun e w' => e = .returned (.tuple #[.string ⟨#[]⟩, .bool false]) ∧ Below w.heap.size w w' := by
  have F := firstF_nil w
  go_enter Tryd.func21, Tryd.ntmps21
  go_wp2_with fail
  refine F.mono ?_
  rintro e w1 ⟨rfl, hb⟩
  go_wp2
  go_ret2
  exact ⟨rfl, hb⟩
set_option maxRecDepth 100000 in
theorem lineof_nil (w : World) : Calls Tryd.prog 23 #[.nilIface] w fun e w' => e = .returned (.tuple #[.int .i64 0, .bool false]) ∧ Below w.heap.size w w' := by
  have F := firstP_nil w
  go_enter Tryd.func23, Tryd.ntmps23
  go_wp2_with fail
  refine F.mono ?_
  rintro e w1 ⟨rfl, hb⟩
  go_wp2
  go_ret2
  exact ⟨rfl, hb⟩

/-- What Call and Text tell. -/
def callR (ls : List Lk) : ByteArray × Bool := match ffst ls with | some (c, _) => (c, true) | none => (⟨#[]⟩, false)
def textR (ls : List Lk) : ByteArray × Bool := match ffst ls with | some (_, t) => (t, true) | none => (⟨#[]⟩, false)
def lineR (ls : List Lk) : Int × Bool := match pfst ls with | some l => (l, true) | none => (0, false)

set_option maxRecDepth 100000 in
set_option maxHeartbeats 1000000 in
theorem call_ch {ls : List Lk} {n : Int} {v : Value} {w : World} (h : Ch w ls n v) (hg : ErrT w) (hz : ∀ c t, ffst ls = some (c, t) → c.size ≤ 281474976710656) :
    Calls Tryd.prog 21 #[v] w fun e w' => e = .returned (.tuple #[.string (callR ls).1, .bool (callR ls).2]) ∧ Below w.heap.size w w' := by
  have F := firstF_ch h hg
  have HZ : Hid (∀ c t, ffst ls = some (c, t) → c.size ≤ 281474976710656) := hz
  clear h hg hz
  go_enter Tryd.func21, Tryd.ntmps21
  go_wp2_with fail
  refine F.mono ?_
  rintro e w1 hr
  rcases hr with ⟨a1, rfl, a3⟩ | ⟨c, x, b, y, a1, rfl, a3, a4⟩
  · have HR : Hid (callR ls = (⟨#[]⟩, false)) := by unfold callR; rw [a1]; rfl
    clear a1
    go_wp2
    go_ret2
    exact ⟨by rw [HR.out]; rfl, a3⟩
  · have HR : Hid (callR ls = (c, true)) := by unfold callR; rw [a1]; rfl
    have c0 : w1.cell? ⟨b, 0, none⟩ = some (.string c) := by simp [World.cell?, a3]
    have CL := clone_any c (HZ.out c x a1) w1
    have HB : Hid (Below w.heap.size w w1) := a4
    clear a1 a3 a4
    go_wp2_with fail
    refine CL.mono ?_
    rintro e w2 ⟨rfl, b2⟩
    have HB2 : Hid (Below w.heap.size w w2) := HB.out.trans (b2.mono HB.out.size)
    clear b2
    go_wp2
    go_ret2
    exact ⟨by rw [HR.out]; rfl, HB2.out⟩
set_option maxRecDepth 100000 in
set_option maxHeartbeats 1000000 in
theorem text_ch {ls : List Lk} {n : Int} {v : Value} {w : World} (h : Ch w ls n v) (hg : ErrT w) (hz : ∀ c t, ffst ls = some (c, t) → t.size ≤ 281474976710656) :
    Calls Tryd.prog 22 #[v] w fun e w' => e = .returned (.tuple #[.string (textR ls).1, .bool (textR ls).2]) ∧ Below w.heap.size w w' := by
  have F := firstF_ch h hg
  have HZ : Hid (∀ c t, ffst ls = some (c, t) → t.size ≤ 281474976710656) := hz
  clear h hg hz
  go_enter Tryd.func22, Tryd.ntmps22
  go_wp2_with fail
  refine F.mono ?_
  rintro e w1 hr
  rcases hr with ⟨a1, rfl, a3⟩ | ⟨c, x, b, y, a1, rfl, a3, a4⟩
  · have HR : Hid (textR ls = (⟨#[]⟩, false)) := by unfold textR; rw [a1]; rfl
    clear a1
    go_wp2
    go_ret2
    exact ⟨by rw [HR.out]; rfl, a3⟩
  · have HR : Hid (textR ls = (x, true)) := by unfold textR; rw [a1]; rfl
    have c0 : w1.cell? ⟨b, 1, none⟩ = some (.string x) := by simp [World.cell?, a3]
    have CL := clone_any x (HZ.out c x a1) w1
    have HB : Hid (Below w.heap.size w w1) := a4
    clear a1 a3 a4
    go_wp2_with fail
    refine CL.mono ?_
    rintro e w2 ⟨rfl, b2⟩
    have HB2 : Hid (Below w.heap.size w w2) := HB.out.trans (b2.mono HB.out.size)
    clear b2
    go_wp2
    go_ret2
    exact ⟨by rw [HR.out]; rfl, HB2.out⟩
set_option maxRecDepth 100000 in
set_option maxHeartbeats 1000000 in
theorem lineof_ch {ls : List Lk} {n : Int} {v : Value} {w : World} (h : Ch w ls n v) (hg : ErrT w) :
    Calls Tryd.prog 23 #[v] w fun e w' => e = .returned (.tuple #[.int .i64 (lineR ls).1, .bool (lineR ls).2]) ∧ Below w.heap.size w w' := by
  have F := firstP_ch h hg
  clear h hg
  go_enter Tryd.func23, Tryd.ntmps23
  go_wp2_with fail
  refine F.mono ?_
  rintro e w1 hr
  rcases hr with ⟨a1, rfl, a3⟩ | ⟨l, b, y, a1, rfl, a3, a4⟩
  · have HR : Hid (lineR ls = (0, false)) := by unfold lineR; rw [a1]; rfl
    clear a1
    go_wp2
    go_ret2
    exact ⟨by rw [HR.out]; rfl, a3⟩
  · have HR : Hid (lineR ls = (l, true)) := by unfold lineR; rw [a1]; rfl
    have c0 : w1.cell? ⟨b, 0, none⟩ = some (.int .i64 l) := by simp [World.cell?, a3]
    have HB : Hid (Below w.heap.size w w1) := a4
    clear a1 a3 a4
    go_wp2
    go_ret2
    exact ⟨by rw [HR.out]; rfl, HB.out⟩

/-! Nil links; no error. -/
set_option maxRecDepth 100000 in
theorem ferr_nil (w : World) : Calls Tryd.prog 29 #[.pointer none] w fun e w' => e = .returned (.string ⟨#[]⟩) ∧ w' = w := by
  go_enter Tryd.func29, Tryd.ntmps29
  go_wp2
  go_ret
  exact ⟨rfl, rfl⟩
set_option maxRecDepth 100000 in
theorem perr_nil (w : World) : Calls Tryd.prog 31 #[.pointer none] w fun e w' => e = .returned (.string ⟨#[]⟩) ∧ w' = w := by
  go_enter Tryd.func31, Tryd.ntmps31
  go_wp2
  go_ret
  exact ⟨rfl, rfl⟩
set_option maxRecDepth 100000 in
theorem funw_nil (w : World) : Calls Tryd.prog 30 #[.pointer none] w fun e w' => e = .returned .nilIface ∧ w' = w := by
  go_enter Tryd.func30, Tryd.ntmps30
  go_wp2
  go_ret
  exact ⟨rfl, rfl⟩
set_option maxRecDepth 100000 in
theorem punw_nil (w : World) : Calls Tryd.prog 32 #[.pointer none] w fun e w' => e = .returned .nilIface ∧ w' = w := by
  go_enter Tryd.func32, Tryd.ntmps32
  go_wp2
  go_ret
  exact ⟨rfl, rfl⟩
set_option maxRecDepth 100000 in
theorem wrap_nil (c t : ByteArray) (w : World) : Calls Tryd.prog 27 #[.string c, .string t, .nilIface] w fun e w' => e = .returned .nilIface ∧ w' = w := by
  go_enter Tryd.func27, Tryd.ntmps27
  go_wp2
  go_ret
  exact ⟨rfl, rfl⟩
set_option maxRecDepth 100000 in
theorem line_nil (l : Int) (w : World) : Calls Tryd.prog 28 #[.int .i64 l, .nilIface] w fun e w' => e = .returned .nilIface ∧ w' = w := by
  go_enter Tryd.func28, Tryd.ntmps28
  go_wp2
  go_ret
  exact ⟨rfl, rfl⟩
end Go.Proofs.YtelobjhmbabiaaaDoor
