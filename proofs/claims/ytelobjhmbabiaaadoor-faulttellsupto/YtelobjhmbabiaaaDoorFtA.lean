/-
  Rows of links that end in a number, as they lie in memory; errors.Is goes through them.
-/
import Derived.Test.YtelobjhmbabiaaaDoorChecked
import Derived.WalkKit
import Derived.LaidEql
import Derived.Stop.Asserts
import Derived.RowKitTokens
import Derived.Deep.LoopGhost
namespace Go.Proofs.YtelobjhmbabiaaaDoor
open Go.RowKit Go.Extern.Stop Go.Stop Go.Extern

/-- A link: a call's fault, or a line's. -/
abbrev Lk : Type := (ByteArray × ByteArray) ⊕ Int

/-- The value v is, in the world w, a row of links that ends in the number n. -/
def Ch (w : World) : List Lk → Int → Value → Prop
  | [], n, v => v = .iface 32 (.int .i64 n)
  | .inl (c, t) :: ls, n, v => ∃ b e, v = .iface 54 (.pointer (some ⟨b, 0, none⟩)) ∧ w.heap[b]? = some (.cells #[.string c, .string t, e] 80 (0, 0)) ∧ Ch w ls n e
  | .inr l :: ls, n, v => ∃ b e, v = .iface 55 (.pointer (some ⟨b, 0, none⟩)) ∧ w.heap[b]? = some (.cells #[.int .i64 l, e] 83 (0, 0)) ∧ Ch w ls n e
theorem lt_of_heap {w : World} {b : Nat} {o : Obj} (h : w.heap[b]? = some o) : b < w.heap.size := by
  rcases Nat.lt_or_ge b w.heap.size with a | a
  · exact a
  · simp [Array.getElem?_eq_none a] at h
theorem Ch.below {w w' : World} {B : Nat} (hb : Below B w w') (hB : w.heap.size ≤ B) : ∀ {ls : List Lk} {n : Int} {v : Value}, Ch w ls n v → Ch w' ls n v
  | [], _, _, h => h
  | .inl (_, _) :: _, _, _, ⟨b, e, hv, hh, hc⟩ => ⟨b, e, hv, (hb.block b (Nat.lt_of_lt_of_le (lt_of_heap hh) hB)).trans hh, Ch.below hb hB hc⟩
  | .inr _ :: _, _, _, ⟨b, e, hv, hh, hc⟩ => ⟨b, e, hv, (hb.block b (Nat.lt_of_lt_of_le (lt_of_heap hh) hB)).trans hh, Ch.below hb hB hc⟩
theorem Ch.iface {w : World} : ∀ {ls : List Lk} {n : Int} {v : Value}, Ch w ls n v → ∃ T x, v = .iface T x
  | [], _, _, h => ⟨_, _, h⟩
  | .inl (_, _) :: _, _, _, ⟨_, _, hv, _⟩ => ⟨_, _, hv⟩
  | .inr _ :: _, _, _, ⟨_, _, hv, _⟩ => ⟨_, _, hv⟩

theorem isTypeOf (v : Value) (w : World) : (ReflectliteType.typeOf #[.iface 32 v]).run Tryd.prog w = .ok (.iface 104 (.agg #[.pointer (some ⟨5, 32, none⟩)])) w := by kernel_rfl
theorem isComparable (w : World) : (callFunc 106 #[.agg #[.pointer (some ⟨5, 32, none⟩)]]).run Tryd.prog w = .ok (.value (.bool true)) w := by kernel_rfl
theorem isMethodComparable (v : Value) (w : World) : (Go.method 263 104 v "Comparable").run Tryd.prog w = .ok (106, v) w := by kernel_rfl
theorem noIsN (v : Value) (xT : TypeId) (w : World) : (Instr.typeAssert (.iface 32 v) xT 106 true).run Tryd.prog w = .ok (.tuple #[.nilIface, .bool false]) w := run_typeAssert_lacksB Tryd.underlying106 (by kernel_rfl) (by kernel_rfl) v xT w
theorem noUnwrapN (v : Value) (xT : TypeId) (w : World) : (Instr.typeAssert (.iface 32 v) xT 109 true).run Tryd.prog w = .ok (.tuple #[.nilIface, .bool false]) w := run_typeAssert_lacksB Tryd.underlying109 (by kernel_rfl) (by kernel_rfl) v xT w
theorem noUnwrapsN (v : Value) (xT : TypeId) (w : World) : (Instr.typeAssert (.iface 32 v) xT 110 true).run Tryd.prog w = .ok (.tuple #[.nilIface, .bool false]) w := run_typeAssert_lacksB Tryd.underlying110 (by kernel_rfl) (by kernel_rfl) v xT w
theorem noIsF (v : Value) (xT : TypeId) (w : World) : (Instr.typeAssert (.iface 54 v) xT 106 true).run Tryd.prog w = .ok (.tuple #[.nilIface, .bool false]) w := run_typeAssert_lacksB Tryd.underlying106 (by kernel_rfl) (by kernel_rfl) v xT w
theorem hasUnwrapF (v : Value) (xT : TypeId) (w : World) : (Instr.typeAssert (.iface 54 v) xT 109 true).run Tryd.prog w = .ok (.tuple #[.iface 54 v, .bool true]) w := run_typeAssert_hasB Tryd.underlying109 (by kernel_rfl) v xT w
theorem noIsP (v : Value) (xT : TypeId) (w : World) : (Instr.typeAssert (.iface 55 v) xT 106 true).run Tryd.prog w = .ok (.tuple #[.nilIface, .bool false]) w := run_typeAssert_lacksB Tryd.underlying106 (by kernel_rfl) (by kernel_rfl) v xT w
theorem hasUnwrapP (v : Value) (xT : TypeId) (w : World) : (Instr.typeAssert (.iface 55 v) xT 109 true).run Tryd.prog w = .ok (.tuple #[.iface 55 v, .bool true]) w := run_typeAssert_hasB Tryd.underlying109 (by kernel_rfl) v xT w
theorem methodUnwrapF (v : Value) (w : World) : (Go.method 263 54 v "Unwrap").run Tryd.prog w = .ok (30, v) w := by kernel_rfl
theorem methodUnwrapP (v : Value) (w : World) : (Go.method 263 55 v "Unwrap").run Tryd.prog w = .ok (32, v) w := by kernel_rfl
theorem eql_errno (n m : Int) (w : World) : (binOp .eql 23 (.iface 32 (.int .i64 n)) (.iface 32 (.int .i64 m))).run Tryd.prog w = .ok (.bool (n == m)) w := by kernel_rfl

theorem unwrapF {c t : ByteArray} {e : Value} {b : Nat} {w : World} (hh : w.heap[b]? = some (.cells #[.string c, .string t, e] 80 (0, 0))) :
    Calls Tryd.prog 30 #[.pointer (some ⟨b, 0, none⟩)] w fun x w' => x = .returned e ∧ w' = w := by
  have c2 : w.cell? ⟨b, 2, none⟩ = some e := by simp [World.cell?, hh]
  go_enter Tryd.func30, Tryd.ntmps30
  go_wp2
  go_ret
  exact ⟨rfl, rfl⟩
theorem unwrapP {l : Int} {e : Value} {b : Nat} {w : World} (hh : w.heap[b]? = some (.cells #[.int .i64 l, e] 83 (0, 0))) :
    Calls Tryd.prog 32 #[.pointer (some ⟨b, 0, none⟩)] w fun x w' => x = .returned e ∧ w' = w := by
  have c2 : w.cell? ⟨b, 1, none⟩ = some e := by simp [World.cell?, hh]
  go_enter Tryd.func32, Tryd.ntmps32
  go_wp2
  go_ret
  exact ⟨rfl, rfl⟩

set_option maxRecDepth 100000 in
set_option maxHeartbeats 4000000 in
theorem is_ch {ls : List Lk} {n m : Int} {r : Bool} (hr : (n == m) = r) {v : Value} {w : World} (h : Ch w ls n v) :
    Calls Tryd.prog 49 #[v, .iface 32 (.int .i64 m), .bool true] w fun x w' => x = .returned (.bool r) ∧ w' = w := by
  have nN := noIsN
  have uN := noUnwrapN
  have vN := noUnwrapsN
  have nF := noIsF
  have uF := hasUnwrapF
  have nP := noIsP
  have uP := hasUnwrapP
  have mF := methodUnwrapF
  have mP := methodUnwrapP
  have heq := fun W => eql_errno n m W
  rw [hr] at heq
  clear hr
  go_enter Tryd.func49, Tryd.ntmps49
  go_wp2
  go_loopg [0] ls.length (fun gk v wr => wr = w ∧ ∃ ls : List Lk, ls.length = gk ∧ Ch w ls n v)
  case atStart => exact ⟨rfl, ls, rfl, h⟩
  case round =>
    clear h
    obtain ⟨rfl, ls, rfl, h⟩ := hrel
    cases ls with
    | nil =>
      have h' : _ = _ := h
      subst h'
      cases r
      · go_wp2
        go_ret
        exact ⟨rfl, rfl⟩
      · go_wp2
        go_ret
        exact ⟨rfl, rfl⟩
    | cons k ls =>
      cases k with
      | inl cx =>
        obtain ⟨c, t⟩ := cx
        obtain ⟨b, e, rfl, hh, hc⟩ := h
        obtain ⟨T, y, rfl⟩ := hc.iface
        have U := unwrapF hh
        have hty := fun W => run_eql_iface_types (P := Tryd.prog) 54 32 (.pointer (some ⟨b, 0, none⟩)) (.int .i64 m) Tryd.underlying23 (by decide) W
        go_wp2_with fail
        refine U.mono ?_
        rintro x wx ⟨rfl, rfl⟩
        go_wp2
        go_roundg ls.length
        case measure => simp
        case rel => exact ⟨rfl, ls, rfl, hc⟩
      | inr l =>
        obtain ⟨b, e, rfl, hh, hc⟩ := h
        obtain ⟨T, y, rfl⟩ := hc.iface
        have U := unwrapP hh
        have hty := fun W => run_eql_iface_types (P := Tryd.prog) 55 32 (.pointer (some ⟨b, 0, none⟩)) (.int .i64 m) Tryd.underlying23 (by decide) W
        go_wp2_with fail
        refine U.mono ?_
        rintro x wx ⟨rfl, rfl⟩
        go_wp2
        go_roundg ls.length
        case measure => simp
        case rel => exact ⟨rfl, ls, rfl, hc⟩

set_option maxRecDepth 100000 in
set_option maxHeartbeats 4000000 in
theorem Is_ch {ls : List Lk} {n : Int} (m : Int) {v : Value} {w : World} (h : Ch w ls n v) :
    Calls Tryd.prog 25 #[v, .iface 32 (.int .i64 m)] w fun x w' => x = .returned (.bool (n == m)) ∧ w' = w := by
  have I := is_ch (m := m) rfl h
  generalize (n == m) = r at *
  obtain ⟨T, y, rfl⟩ := h.iface
  have h8 := @run_callFunc_extern Tryd.prog 48 _ ReflectliteType.typeOf Tryd.func48 (by kernel_rfl) (by kernel_rfl) (by kernel_rfl) (by kernel_rfl)
  have tT := isTypeOf
  have cT := isComparable
  have mR := isMethodComparable
  go_enter Tryd.func25, Tryd.ntmps25
  go_wp2_with fail
  refine I.mono ?_
  rintro x wx ⟨rfl, rfl⟩
  go_wp2
  go_ret
  exact ⟨rfl, rfl⟩

end Go.Proofs.YtelobjhmbabiaaaDoor
