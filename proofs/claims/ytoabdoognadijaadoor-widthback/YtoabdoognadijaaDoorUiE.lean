/-
  Errors that are a fault round a number (rows of faults that end in a number), as they lie in memory; errors.As at a target of both kinds, first, Call, Text, Wrap.
-/
import Derived.Test.YtoabdoognadijaaDoorAs3
import Derived.Test.YtoabdoognadijaaDoorShelf
import Derived.Deep.LoopGhost
import Derived.Recover
import Derived.LaidEql
import Derived.Stop.Asserts
import Derived.RowKitTokens
namespace Go.Proofs.YtoabdoognadijaaDoor
open Go.RowKit Go.Extern.Stop Go.Stop Go.Extern

/-- A link: a call's fault. -/
abbrev Lk : Type := ByteArray × ByteArray
/-- The value v is, in the world w, a row of links that ends in the number n. -/
def Ch (w : World) : List Lk → Int → Value → Prop
  | [], n, v => v = .iface 64 (.int .i64 n)
  | (c, t) :: ls, n, v => ∃ b e, v = .iface 78 (.pointer (some ⟨b, 0, none⟩)) ∧ w.heap[b]? = some (.cells #[.string c, .string t, e] 82 (0, 0)) ∧ Ch w ls n e

theorem lt_of_heap {w : World} {b : Nat} {o : Obj} (h : w.heap[b]? = some o) : b < w.heap.size := by
  rcases Nat.lt_or_ge b w.heap.size with a | a
  · exact a
  · simp [Array.getElem?_eq_none a] at h
theorem Ch.below {w w' : World} {B : Nat} (hb : Below B w w') (hB : w.heap.size ≤ B) : ∀ {ls : List Lk} {n : Int} {v : Value}, Ch w ls n v → Ch w' ls n v
  | [], _, _, h => h
  | (_, _) :: _, _, _, ⟨b, e, hv, hh, hc⟩ => ⟨b, e, hv, (hb.block b (Nat.lt_of_lt_of_le (lt_of_heap hh) hB)).trans hh, Ch.below hb hB hc⟩
theorem Ch.iface {w : World} : ∀ {ls : List Lk} {n : Int} {v : Value}, Ch w ls n v → ∃ T x, v = .iface T x
  | [], _, _, h => ⟨_, _, h⟩
  | (_, _) :: _, _, _, ⟨_, _, hv, _⟩ => ⟨_, _, hv⟩

theorem noUnwrapN (v : Value) (xT : TypeId) (w : World) : (Instr.typeAssert (.iface 64 v) xT 118 true).run Tryd.prog w = .ok (.tuple #[.nilIface, .bool false]) w := run_typeAssert_lacksB Tryd.underlying118 (by kernel_rfl) (by kernel_rfl) v xT w
theorem noUnwrapsN (v : Value) (xT : TypeId) (w : World) : (Instr.typeAssert (.iface 64 v) xT 120 true).run Tryd.prog w = .ok (.tuple #[.nilIface, .bool false]) w := run_typeAssert_lacksB Tryd.underlying120 (by kernel_rfl) (by kernel_rfl) v xT w
theorem hasUnwrapF (v : Value) (xT : TypeId) (w : World) : (Instr.typeAssert (.iface 78 v) xT 118 true).run Tryd.prog w = .ok (.tuple #[.iface 78 v, .bool true]) w := run_typeAssert_hasB Tryd.underlying118 (by kernel_rfl) v xT w
theorem methodUnwrapF (v : Value) (w : World) : (Go.method 281 78 v "Unwrap").run Tryd.prog w = .ok (112, v) w := by kernel_rfl
theorem unwrapF {c t : ByteArray} {e : Value} {b : Nat} {w : World} (hh : w.heap[b]? = some (.cells #[.string c, .string t, e] 82 (0, 0))) :
    Calls Tryd.prog 112 #[.pointer (some ⟨b, 0, none⟩)] w fun x w' => x = .returned e ∧ w' = w := by
  have c2 : w.cell? ⟨b, 2, none⟩ = some e := by simp [World.cell?, hh]
  go_enter Tryd.func112, Tryd.ntmps112
  go_wp2
  go_ret
  exact ⟨rfl, rfl⟩
theorem tyOfN (v : Value) (w : World) : (ReflectliteType.typeOf #[.iface 64 v]).run Tryd.prog w = .ok (.iface 113 (.agg #[.pointer (some ⟨1, 64, none⟩)])) w := by kernel_rfl
theorem noAsN (v : Value) (xT : TypeId) (w : World) : (Instr.typeAssert (.iface 64 v) xT 146 true).run Tryd.prog w = .ok (.tuple #[.nilIface, .bool false]) w := run_typeAssert_lacksB Tryd.underlying146 (by kernel_rfl) (by kernel_rfl) v xT w
theorem asgNN (w : World) : (ReflectliteType.relation "AssignableTo" ReflectliteType.assignableTo #[.agg #[.pointer (some ⟨1, 64, none⟩)], .iface 113 (.agg #[.pointer (some ⟨1, 64, none⟩)])]).run Tryd.prog w = .ok (.bool true) w := by kernel_rfl
theorem asgNF (w : World) : (ReflectliteType.relation "AssignableTo" ReflectliteType.assignableTo #[.agg #[.pointer (some ⟨1, 64, none⟩)], .iface 113 (.agg #[.pointer (some ⟨1, 78, none⟩)])]).run Tryd.prog w = .ok (.bool false) w := by kernel_rfl
theorem tyOfF (v : Value) (w : World) : (ReflectliteType.typeOf #[.iface 78 v]).run Tryd.prog w = .ok (.iface 113 (.agg #[.pointer (some ⟨1, 78, none⟩)])) w := by kernel_rfl
theorem noAsF (v : Value) (xT : TypeId) (w : World) : (Instr.typeAssert (.iface 78 v) xT 146 true).run Tryd.prog w = .ok (.tuple #[.nilIface, .bool false]) w := run_typeAssert_lacksB Tryd.underlying146 (by kernel_rfl) (by kernel_rfl) v xT w
theorem asgFN (w : World) : (ReflectliteType.relation "AssignableTo" ReflectliteType.assignableTo #[.agg #[.pointer (some ⟨1, 78, none⟩)], .iface 113 (.agg #[.pointer (some ⟨1, 64, none⟩)])]).run Tryd.prog w = .ok (.bool false) w := by kernel_rfl
theorem asgFF (w : World) : (ReflectliteType.relation "AssignableTo" ReflectliteType.assignableTo #[.agg #[.pointer (some ⟨1, 78, none⟩)], .iface 113 (.agg #[.pointer (some ⟨1, 78, none⟩)])]).run Tryd.prog w = .ok (.bool true) w := by kernel_rfl
theorem asN_ptr_value (t : Addr) (w : World) : (ReflectliteValue.unpack (.iface 77 (.pointer (some t)))).run Tryd.prog w
    = .ok (.agg #[.pointer (some ⟨1, 77, none⟩), .pointer (some ⟨w.heap.size, 0, none⟩), .int .u64 150]) (w.alloc (.cells #[.pointer (some t)] 77)) := by kernel_rfl
theorem asN_ptr_type (a : Addr) (w : World) : (ReflectliteValue.methodAny (ReflectliteValue.valueError "reflectlite.Value.Type" 0) (fun t _ _ _ => ReflectliteType.toType t) #[.agg #[.pointer (some ⟨1, 77, none⟩), .pointer (some a), .int .u64 150]]).run Tryd.prog w
    = .ok (.iface 113 (.agg #[.pointer (some ⟨1, 77, none⟩)])) w := by kernel_rfl
theorem asN_kind_ptr (w : World) : ((ReflectliteType.abiMethod fun t => Functor.map (fun a : Nat => Value.int IntKind.u8 (a : Int)) (Rtype.kind t)) #[.pointer (some ⟨1, 77, none⟩)]).run Tryd.prog w = .ok (.int .u8 22) w := by kernel_rfl
theorem asN_kind_t (w : World) : ((ReflectliteType.abiMethod fun t => Functor.map (fun a : Nat => Value.int IntKind.u8 (a : Int)) (Rtype.kind t)) #[.pointer (some ⟨1, 64, none⟩)]).run Tryd.prog w = .ok (.int .u8 2) w := by kernel_rfl
theorem asN_elem_type (w : World) : (ReflectliteType.method ReflectliteType.elem #[.agg #[.pointer (some ⟨1, 77, none⟩)]]).run Tryd.prog w = .ok (.iface 113 (.agg #[.pointer (some ⟨1, 64, none⟩)])) w := by kernel_rfl
theorem asN_implements (w : World) : (ReflectliteType.relation "Implements" ReflectliteType.implements_ #[.agg #[.pointer (some ⟨1, 64, none⟩)], .iface 113 (.agg #[.pointer (some ⟨1, 24, none⟩)])]).run Tryd.prog w = .ok (.bool true) w := by kernel_rfl
theorem asN_value (v : Value) (w : World) (k : Int) (hv : v = .int .i64 k) : (ReflectliteValue.unpack (.iface 64 v)).run Tryd.prog w
    = .ok (.agg #[.pointer (some ⟨1, 64, none⟩), .pointer (some ⟨w.heap.size, 0, none⟩), .int .u64 130]) (w.alloc (.cells #[v] 64)) := by subst hv; kernel_rfl
theorem asN_parts_ptr (a : Addr) (w : World) : (ReflectliteValue.parts (.agg #[.pointer (some ⟨1, 77, none⟩), .pointer (some a), .int .u64 150])).run Tryd.prog w = .ok (some (77, a, 150)) w := by kernel_rfl
theorem asN_isnil (a p : Addr) (W : World) (ha : W.cell? a = some (.pointer (some p))) :
    (ReflectliteValue.method (ReflectliteValue.valueError "reflectlite.Value.IsNil" 0) ReflectliteValue.isNil #[.agg #[.pointer (some ⟨1, 77, none⟩), .pointer (some a), .int .u64 150]]).run Tryd.prog W = .ok (.bool false) W := by
  rw [as_method]
  simp only [Sem.run_bind, asN_parts_ptr, Result.andThen]
  simp [ReflectliteValue.isNil, loadVar, isAgg, underlying, Tryd.underlying77, ha, Result.andThen]
theorem asN_elem_of (w : World) : (Rtype.elem? 77).run Tryd.prog w = .ok (some 64) w := by kernel_rfl
theorem asN_mk (p : Addr) (w : World) : (ReflectliteValue.mk 64 p ReflectliteValue.flagAddr).run Tryd.prog w = .ok (.agg #[.pointer (some ⟨1, 64, none⟩), .pointer (some p), .int .u64 386]) w := by kernel_rfl
theorem asN_elem (a p : Addr) (W : World) (ha : W.cell? a = some (.pointer (some p))) :
    (ReflectliteValue.method (ReflectliteValue.valueError "reflectlite.Value.Elem" 0) ReflectliteValue.elem #[.agg #[.pointer (some ⟨1, 77, none⟩), .pointer (some a), .int .u64 150]]).run Tryd.prog W
      = .ok (.agg #[.pointer (some ⟨1, 64, none⟩), .pointer (some p), .int .u64 386]) W := by
  rw [as_method]
  simp only [Sem.run_bind, asN_parts_ptr, Result.andThen]
  simp [ReflectliteValue.elem, loadVar, isAgg, underlying, Tryd.underlying77, ha, Result.andThen, asN_elem_of, asN_mk]
theorem asN_parts_dst (a : Addr) (w : World) : (ReflectliteValue.parts (.agg #[.pointer (some ⟨1, 64, none⟩), .pointer (some a), .int .u64 386])).run Tryd.prog w = .ok (some (64, a, 386)) w := by kernel_rfl
theorem asN_parts_src (a : Addr) (w : World) : (ReflectliteValue.parts (.agg #[.pointer (some ⟨1, 64, none⟩), .pointer (some a), .int .u64 130])).run Tryd.prog w = .ok (some (64, a, 130)) w := by kernel_rfl
theorem asN_direct (w : World) : (Rtype.directlyAssignable 64 64).run Tryd.prog w = .ok true w := by kernel_rfl
theorem asN_set (ta b : Addr) (u old : Value) (k : Int) (hu : u = .int .i64 k) (W : World) (hb : W.cell? b = some u) (ht : W.cell? ta = some old) (hf : W.frozen? ta = false) :
    (ReflectliteValue.set #[.agg #[.pointer (some ⟨1, 64, none⟩), .pointer (some ta), .int .u64 386], .agg #[.pointer (some ⟨1, 64, none⟩), .pointer (some b), .int .u64 130]]).run Tryd.prog W
      = .ok (.tuple #[]) (W.setCell ta u) := by
  subst hu
  refine Eq.trans (Sem.run_bind _ _ (ReflectliteValue.parts (.agg #[.pointer (some ⟨1, 64, none⟩), .pointer (some ta), .int .u64 386])) _) ?_
  simp only [asN_parts_dst, Result.andThen]
  refine Eq.trans (Sem.run_bind _ _ (ReflectliteValue.parts (.agg #[.pointer (some ⟨1, 64, none⟩), .pointer (some b), .int .u64 130])) _) ?_
  simp only [asN_parts_src, Result.andThen]
  simp [ReflectliteValue.flagAddr, loadVar, isAgg, underlying, Tryd.underlying64, hb, Result.andThen, asN_direct, storeVar, Value.cells, storeCells, Addr.add]
  rw [run_store Tryd.prog W ta _ _ (by rfl)]
  simp [ht, hf]
theorem asF_ptr_value (t : Addr) (w : World) : (ReflectliteValue.unpack (.iface 111 (.pointer (some t)))).run Tryd.prog w
    = .ok (.agg #[.pointer (some ⟨1, 111, none⟩), .pointer (some ⟨w.heap.size, 0, none⟩), .int .u64 150]) (w.alloc (.cells #[.pointer (some t)] 111)) := by kernel_rfl
theorem asF_ptr_type (a : Addr) (w : World) : (ReflectliteValue.methodAny (ReflectliteValue.valueError "reflectlite.Value.Type" 0) (fun t _ _ _ => ReflectliteType.toType t) #[.agg #[.pointer (some ⟨1, 111, none⟩), .pointer (some a), .int .u64 150]]).run Tryd.prog w
    = .ok (.iface 113 (.agg #[.pointer (some ⟨1, 111, none⟩)])) w := by kernel_rfl
theorem asF_kind_ptr (w : World) : ((ReflectliteType.abiMethod fun t => Functor.map (fun a : Nat => Value.int IntKind.u8 (a : Int)) (Rtype.kind t)) #[.pointer (some ⟨1, 111, none⟩)]).run Tryd.prog w = .ok (.int .u8 22) w := by kernel_rfl
theorem asF_kind_t (w : World) : ((ReflectliteType.abiMethod fun t => Functor.map (fun a : Nat => Value.int IntKind.u8 (a : Int)) (Rtype.kind t)) #[.pointer (some ⟨1, 78, none⟩)]).run Tryd.prog w = .ok (.int .u8 22) w := by kernel_rfl
theorem asF_elem_type (w : World) : (ReflectliteType.method ReflectliteType.elem #[.agg #[.pointer (some ⟨1, 111, none⟩)]]).run Tryd.prog w = .ok (.iface 113 (.agg #[.pointer (some ⟨1, 78, none⟩)])) w := by kernel_rfl
theorem asF_implements (w : World) : (ReflectliteType.relation "Implements" ReflectliteType.implements_ #[.agg #[.pointer (some ⟨1, 78, none⟩)], .iface 113 (.agg #[.pointer (some ⟨1, 24, none⟩)])]).run Tryd.prog w = .ok (.bool true) w := by kernel_rfl
theorem asF_value (v : Value) (w : World) (q : Option Addr) (hv : v = .pointer q) : (ReflectliteValue.unpack (.iface 78 v)).run Tryd.prog w
    = .ok (.agg #[.pointer (some ⟨1, 78, none⟩), .pointer (some ⟨w.heap.size, 0, none⟩), .int .u64 150]) (w.alloc (.cells #[v] 78)) := by subst hv; kernel_rfl
theorem asF_parts_ptr (a : Addr) (w : World) : (ReflectliteValue.parts (.agg #[.pointer (some ⟨1, 111, none⟩), .pointer (some a), .int .u64 150])).run Tryd.prog w = .ok (some (111, a, 150)) w := by kernel_rfl
theorem asF_isnil (a p : Addr) (W : World) (ha : W.cell? a = some (.pointer (some p))) :
    (ReflectliteValue.method (ReflectliteValue.valueError "reflectlite.Value.IsNil" 0) ReflectliteValue.isNil #[.agg #[.pointer (some ⟨1, 111, none⟩), .pointer (some a), .int .u64 150]]).run Tryd.prog W = .ok (.bool false) W := by
  rw [as_method]
  simp only [Sem.run_bind, asF_parts_ptr, Result.andThen]
  simp [ReflectliteValue.isNil, loadVar, isAgg, underlying, Tryd.underlying111, ha, Result.andThen]
theorem asF_elem_of (w : World) : (Rtype.elem? 111).run Tryd.prog w = .ok (some 78) w := by kernel_rfl
theorem asF_mk (p : Addr) (w : World) : (ReflectliteValue.mk 78 p ReflectliteValue.flagAddr).run Tryd.prog w = .ok (.agg #[.pointer (some ⟨1, 78, none⟩), .pointer (some p), .int .u64 406]) w := by kernel_rfl
theorem asF_elem (a p : Addr) (W : World) (ha : W.cell? a = some (.pointer (some p))) :
    (ReflectliteValue.method (ReflectliteValue.valueError "reflectlite.Value.Elem" 0) ReflectliteValue.elem #[.agg #[.pointer (some ⟨1, 111, none⟩), .pointer (some a), .int .u64 150]]).run Tryd.prog W
      = .ok (.agg #[.pointer (some ⟨1, 78, none⟩), .pointer (some p), .int .u64 406]) W := by
  rw [as_method]
  simp only [Sem.run_bind, asF_parts_ptr, Result.andThen]
  simp [ReflectliteValue.elem, loadVar, isAgg, underlying, Tryd.underlying111, ha, Result.andThen, asF_elem_of, asF_mk]
theorem asF_parts_dst (a : Addr) (w : World) : (ReflectliteValue.parts (.agg #[.pointer (some ⟨1, 78, none⟩), .pointer (some a), .int .u64 406])).run Tryd.prog w = .ok (some (78, a, 406)) w := by kernel_rfl
theorem asF_parts_src (a : Addr) (w : World) : (ReflectliteValue.parts (.agg #[.pointer (some ⟨1, 78, none⟩), .pointer (some a), .int .u64 150])).run Tryd.prog w = .ok (some (78, a, 150)) w := by kernel_rfl
theorem asF_direct (w : World) : (Rtype.directlyAssignable 78 78).run Tryd.prog w = .ok true w := by kernel_rfl
theorem asF_set (ta b : Addr) (u old : Value) (q : Option Addr) (hu : u = .pointer q) (W : World) (hb : W.cell? b = some u) (ht : W.cell? ta = some old) (hf : W.frozen? ta = false) :
    (ReflectliteValue.set #[.agg #[.pointer (some ⟨1, 78, none⟩), .pointer (some ta), .int .u64 406], .agg #[.pointer (some ⟨1, 78, none⟩), .pointer (some b), .int .u64 150]]).run Tryd.prog W
      = .ok (.tuple #[]) (W.setCell ta u) := by
  subst hu
  refine Eq.trans (Sem.run_bind _ _ (ReflectliteValue.parts (.agg #[.pointer (some ⟨1, 78, none⟩), .pointer (some ta), .int .u64 406])) _) ?_
  simp only [asF_parts_dst, Result.andThen]
  refine Eq.trans (Sem.run_bind _ _ (ReflectliteValue.parts (.agg #[.pointer (some ⟨1, 78, none⟩), .pointer (some b), .int .u64 150])) _) ?_
  simp only [asF_parts_src, Result.andThen]
  simp [ReflectliteValue.flagAddr, loadVar, isAgg, underlying, Tryd.underlying78, hb, Result.andThen, asF_direct, storeVar, Value.cells, storeCells, Addr.add]
  rw [run_store Tryd.prog W ta _ _ (by rfl)]
  simp [ht, hf]
/-- The first fault of a row of links. -/
def ffst : List Lk → Option (ByteArray × ByteArray)
  | [] => none
  | (c, t) :: _ => some (c, t)
/-- What is answered where the first fault is asked for. -/
def ResF (ls : List Lk) (w0 w w' : World) (t : Addr) (e : Ending) : Prop := (ffst ls = none ∧ e = .returned (.bool false) ∧ Below w.heap.size w w') ∨ (∃ c x b y, ffst ls = some (c, x) ∧ e = .returned (.bool true) ∧ w'.cell? t = some (.pointer (some ⟨b, 0, none⟩)) ∧ w0.heap[b]? = some (.cells #[.string c, .string x, y] 82 (0, 0)) ∧ Below t.block w w')
theorem cell_two {w : World} {t : Addr} {u : Value} (h : w.cell? t = some u) (o p : Obj) : ((w.alloc o).alloc p).cell? t = some u := by
  have hl : t.block < w.heap.size := by
    rcases Nat.lt_or_ge t.block w.heap.size with h' | h'
    · exact h'
    · simp [World.cell?, Array.getElem?_eq_none h'] at h
  rw [World.cell?_alloc_lt _ _ t (by rw [World.size_alloc]; omega), World.cell?_alloc_lt _ _ t hl]; exact h
theorem cell_one {w : World} {t : Addr} {u : Value} (h : w.cell? t = some u) (o : Obj) : (w.alloc o).cell? t = some u := by
  have hl : t.block < w.heap.size := by
    rcases Nat.lt_or_ge t.block w.heap.size with h' | h'
    · exact h'
    · simp [World.cell?, Array.getElem?_eq_none h'] at h
  rw [World.cell?_alloc_lt _ _ t hl]; exact h
theorem blk_lt {w : World} {t : Addr} {u : Value} (h : w.cell? t = some u) : t.block < w.heap.size := by
  rcases Nat.lt_or_ge t.block w.heap.size with h' | h'
  · exact h'
  · simp [World.cell?, Array.getElem?_eq_none h'] at h
theorem froz_two {w : World} {t : Addr} {u : Value} (h : w.cell? t = some u) (hf : w.frozen? t = false) (o p : Obj) : ((w.alloc o).alloc p).frozen? t = false := by
  have hl := blk_lt h
  rw [World.frozen?_alloc_old _ _ t (by rw [World.size_alloc]; omega), World.frozen?_alloc_old _ _ t (Nat.ne_of_lt hl)]; exact hf
theorem bel_hit {w : World} {t : Addr} {u : Value} (h : w.cell? t = some u) (o p : Obj) (x : Value) : Below t.block w (((w.alloc o).alloc p).setCell t x) := by
  have hl := blk_lt h
  exact Below.setCell (((Below.refl _ _).alloc (Nat.le_of_lt hl) _).alloc (by rw [World.size_alloc]; omega) _) (Nat.le_refl _) _
theorem cell_hit {w : World} {t : Addr} {u : Value} (h : w.cell? t = some u) (o p : Obj) (x : Value) : (((w.alloc o).alloc p).setCell t x).cell? t = some x :=
  World.cell?_setCell_same (u := u) _ _ _ (cell_two h o p)
set_option maxRecDepth 100000 in
set_option maxHeartbeats 8000000 in
theorem asN_as {ls : List Lk} {n : Int} {v : Value} {w0 w : World} (h : Ch w0 ls n v) (hw : Below w0.heap.size w0 w) {t a : Addr} {old : Value} (ha : w.cell? a = some (.pointer (some t))) (ht : w.cell? t = some old) (hf : w.frozen? t = false) :
    Calls Tryd.prog 71 #[v, .iface 77 (.pointer (some t)), .agg #[.pointer (some ⟨1, 77, none⟩), .pointer (some a), .int .u64 150], .iface 113 (.agg #[.pointer (some ⟨1, 64, none⟩)])] w fun e w' => e = .returned (.bool true) ∧ w'.cell? t = some (.int .i64 n) ∧ Below t.block w w' := by
  have h6 := @run_callFunc_extern Tryd.prog 68 _ (fun args => ReflectliteValue.unpack (args.getD 0 (.tuple #[]))) Tryd.func68 (by kernel_rfl) (by kernel_rfl) (by kernel_rfl) (by kernel_rfl)
  have h10 := @run_callFunc_extern Tryd.prog 48 _ ReflectliteType.typeOf Tryd.func48 (by kernel_rfl) (by kernel_rfl) (by kernel_rfl) (by kernel_rfl)
  have h35 := @run_callFunc_extern Tryd.prog 117 _ (ReflectliteType.relation "AssignableTo" ReflectliteType.assignableTo) Tryd.func117 (by kernel_rfl) (by kernel_rfl) (by kernel_rfl) (by kernel_rfl)
  have h11 := @run_callFunc_extern Tryd.prog 87 _ (ReflectliteValue.method (ReflectliteValue.valueError "reflectlite.Value.Elem" 0) ReflectliteValue.elem) Tryd.func87 (by kernel_rfl) (by kernel_rfl) (by kernel_rfl) (by kernel_rfl)
  have h12 := @run_callFunc_extern Tryd.prog 88 _ ReflectliteValue.set Tryd.func88 (by kernel_rfl) (by kernel_rfl) (by kernel_rfl) (by kernel_rfl)
  have mA := as_m_assign
  obtain ⟨W1, hW1⟩ : ∃ W, W = w.alloc (.cells #[.pointer (some ⟨1, 77, none⟩), .pointer (some a), .int .u64 150] 104) := ⟨_, rfl⟩
  have el := asN_elem a t W1 (by rw [hW1]; exact cell_one ha _)
  have r0 : W1.cell? ⟨w.heap.size, 0, none⟩ = some (.pointer (some ⟨1, 77, none⟩)) := by rw [hW1]; simp
  have r1 : W1.cell? ⟨w.heap.size, 1, none⟩ = some (.pointer (some a)) := by rw [hW1]; simp
  have r2 : W1.cell? ⟨w.heap.size, 2, none⟩ = some (.int .u64 150) := by rw [hW1]; simp
  have HC2 : Hid ((∀ o, (W1.alloc o).cell? t = some old) ∧ (∀ o, (W1.alloc o).frozen? t = false)) := by rw [hW1]; exact ⟨fun o => cell_two ht _ o, fun o => froz_two ht hf _ o⟩
  have HK : Hid (∀ {o : Obj} (u : Value), ((W1.alloc o).setCell t u).cell? t = some u) := by rw [hW1]; exact fun u => cell_hit ht _ _ u
  have HBE : Hid (∀ {o : Obj} (u : Value), Below t.block w ((W1.alloc o).setCell t u)) := by rw [hW1]; exact fun u => bel_hit ht _ _ u
  have HBL : Hid (Below w.heap.size w W1) := by rw [hW1]; exact (Below.refl _ _).alloc (Nat.le_refl _) _
  have HHp : Hid (∀ b, b < w0.heap.size → W1.heap[b]? = w0.heap[b]?) := fun b hb => (HBL.out.block b (Nat.lt_of_lt_of_le hb hw.size)).trans (hw.block b hb)
  go_enter Tryd.func71, Tryd.ntmps71
  go_wp2
  rw [← hW1]
  clear hW1
  go_loopg [0] ls.length (fun gk v wr => wr = W1 ∧ ∃ ls' : List Lk, ls'.length = gk ∧ Ch w0 ls' n v)
  case atStart => exact ⟨rfl, ls, rfl, h⟩
  case round =>
    clear h
    obtain ⟨hwr, ls', rfl, h⟩ := hrel
    have hwr' := hwr.symm
    subst hwr'
    cases ls' with
    | nil =>
      have h' : _ = _ := h
      subst h'
      have tO := tyOfN
      have aT := asgNN
      have vV := asN_value (.int .i64 n) W1 _ rfl
      have sT := asN_set t ⟨W1.heap.size, 0, none⟩ (.int .i64 n) old _ rfl (W1.alloc (.cells #[.int .i64 n] 64)) (by simp) (HC2.out.1 _) (HC2.out.2 _)
      go_wp2
      go_ret
      exact ⟨rfl, HK.out _, HBE.out _⟩
    | cons k ls' =>
        obtain ⟨c, x⟩ := k
        obtain ⟨b, y, rfl, hh, hc⟩ := h
        obtain ⟨T, z, rfl⟩ := hc.iface
        have tO := tyOfF
        have aT := asgFN
        have nA := noAsF
        have uW := hasUnwrapF
        have mU := methodUnwrapF
        have U := unwrapF (w := W1) ((HHp.out b (lt_of_heap hh)).trans hh)
        go_wp2_with fail
        refine U.mono ?_
        rintro e wx ⟨rfl, hwx⟩
        subst hwx
        go_wp2
        go_roundg ls'.length
        case measure => simp
        case rel => exact ⟨rfl, ls', rfl, hc⟩
set_option maxRecDepth 100000 in
set_option maxHeartbeats 8000000 in
theorem asF_as {ls : List Lk} {n : Int} {v : Value} {w0 w : World} (h : Ch w0 ls n v) (hw : Below w0.heap.size w0 w) {t a : Addr} {old : Value} (ha : w.cell? a = some (.pointer (some t))) (ht : w.cell? t = some old) (hf : w.frozen? t = false) :
    Calls Tryd.prog 71 #[v, .iface 111 (.pointer (some t)), .agg #[.pointer (some ⟨1, 111, none⟩), .pointer (some a), .int .u64 150], .iface 113 (.agg #[.pointer (some ⟨1, 78, none⟩)])] w fun e w' => ResF ls w0 w w' t e := by
  have h6 := @run_callFunc_extern Tryd.prog 68 _ (fun args => ReflectliteValue.unpack (args.getD 0 (.tuple #[]))) Tryd.func68 (by kernel_rfl) (by kernel_rfl) (by kernel_rfl) (by kernel_rfl)
  have h10 := @run_callFunc_extern Tryd.prog 48 _ ReflectliteType.typeOf Tryd.func48 (by kernel_rfl) (by kernel_rfl) (by kernel_rfl) (by kernel_rfl)
  have h35 := @run_callFunc_extern Tryd.prog 117 _ (ReflectliteType.relation "AssignableTo" ReflectliteType.assignableTo) Tryd.func117 (by kernel_rfl) (by kernel_rfl) (by kernel_rfl) (by kernel_rfl)
  have h11 := @run_callFunc_extern Tryd.prog 87 _ (ReflectliteValue.method (ReflectliteValue.valueError "reflectlite.Value.Elem" 0) ReflectliteValue.elem) Tryd.func87 (by kernel_rfl) (by kernel_rfl) (by kernel_rfl) (by kernel_rfl)
  have h12 := @run_callFunc_extern Tryd.prog 88 _ ReflectliteValue.set Tryd.func88 (by kernel_rfl) (by kernel_rfl) (by kernel_rfl) (by kernel_rfl)
  have mA := as_m_assign
  obtain ⟨W1, hW1⟩ : ∃ W, W = w.alloc (.cells #[.pointer (some ⟨1, 111, none⟩), .pointer (some a), .int .u64 150] 104) := ⟨_, rfl⟩
  have el := asF_elem a t W1 (by rw [hW1]; exact cell_one ha _)
  have r0 : W1.cell? ⟨w.heap.size, 0, none⟩ = some (.pointer (some ⟨1, 111, none⟩)) := by rw [hW1]; simp
  have r1 : W1.cell? ⟨w.heap.size, 1, none⟩ = some (.pointer (some a)) := by rw [hW1]; simp
  have r2 : W1.cell? ⟨w.heap.size, 2, none⟩ = some (.int .u64 150) := by rw [hW1]; simp
  have HC2 : Hid ((∀ o, (W1.alloc o).cell? t = some old) ∧ (∀ o, (W1.alloc o).frozen? t = false)) := by rw [hW1]; exact ⟨fun o => cell_two ht _ o, fun o => froz_two ht hf _ o⟩
  have HK : Hid (∀ {o : Obj} (u : Value), ((W1.alloc o).setCell t u).cell? t = some u) := by rw [hW1]; exact fun u => cell_hit ht _ _ u
  have HBE : Hid (∀ {o : Obj} (u : Value), Below t.block w ((W1.alloc o).setCell t u)) := by rw [hW1]; exact fun u => bel_hit ht _ _ u
  have HBL : Hid (Below w.heap.size w W1) := by rw [hW1]; exact (Below.refl _ _).alloc (Nat.le_refl _) _
  have HHp : Hid (∀ b, b < w0.heap.size → W1.heap[b]? = w0.heap[b]?) := fun b hb => (HBL.out.block b (Nat.lt_of_lt_of_le hb hw.size)).trans (hw.block b hb)
  go_enter Tryd.func71, Tryd.ntmps71
  go_wp2
  rw [← hW1]
  clear hW1
  go_loopg [0] ls.length (fun gk v wr => wr = W1 ∧ ∃ ls' : List Lk, ls'.length = gk ∧ Ch w0 ls' n v ∧ Hid (ffst ls' = ffst ls))
  case atStart => exact ⟨rfl, ls, rfl, h, rfl⟩
  case round =>
    clear h
    obtain ⟨hwr, ls', rfl, h, HI⟩ := hrel
    have hwr' := hwr.symm
    subst hwr'
    cases ls' with
    | nil =>
      have h' : _ = _ := h
      subst h'
      have tO := tyOfN
      have aT := asgNF
      have nA := noAsN
      have uN := noUnwrapN
      have vN := noUnwrapsN
      go_wp2
      go_ret
      exact Or.inl ⟨HI.out.symm, rfl, HBL.out⟩
    | cons k ls' =>
        obtain ⟨c, x⟩ := k
        obtain ⟨b, y, rfl, hh, hc⟩ := h
        have tO := tyOfF
        have aT := asgFF
        have vV := asF_value (.pointer (some ⟨b, 0, none⟩)) W1 _ rfl
        have sT := asF_set t ⟨W1.heap.size, 0, none⟩ (.pointer (some ⟨b, 0, none⟩)) old _ rfl (W1.alloc (.cells #[.pointer (some ⟨b, 0, none⟩)] 78)) (by simp) (HC2.out.1 _) (HC2.out.2 _)
        go_wp2
        go_ret
        exact Or.inr ⟨c, x, b, y, HI.out.symm, rfl, HK.out _, hh, HBE.out _⟩
set_option maxRecDepth 100000 in
set_option maxHeartbeats 8000000 in
theorem AsN_ch {ls : List Lk} {n : Int} {v : Value} {w0 w : World} (h : Ch w0 ls n v) (hw : Below w0.heap.size w0 w) {t : Addr} {old : Value} (hg : ErrT w) (ht : w.cell? t = some old) (hf : w.frozen? t = false) :
    Calls Tryd.prog 45 #[v, .iface 77 (.pointer (some t))] w fun e w' => e = .returned (.bool true) ∧ w'.cell? t = some (.int .i64 n) ∧ Below t.block w w' := by
  have hlt := hg.pos
  have hl := blk_lt ht
  obtain ⟨TT, yy, rfl⟩ := h.iface
  have h6 := @run_callFunc_extern Tryd.prog 68 _ (fun args => ReflectliteValue.unpack (args.getD 0 (.tuple #[]))) Tryd.func68 (by kernel_rfl) (by kernel_rfl) (by kernel_rfl) (by kernel_rfl)
  have h7 := @run_callFunc_extern Tryd.prog 69 _ (ReflectliteValue.methodAny (ReflectliteValue.valueError "reflectlite.Value.Type" 0) (fun t _ _ _ => ReflectliteType.toType t)) Tryd.func69 (by kernel_rfl) (by kernel_rfl) (by kernel_rfl) (by kernel_rfl)
  have h8 := @run_callFunc_extern Tryd.prog 70 _ (ReflectliteValue.method (ReflectliteValue.valueError "reflectlite.Value.IsNil" 0) ReflectliteValue.isNil) Tryd.func70 (by kernel_rfl) (by kernel_rfl) (by kernel_rfl) (by kernel_rfl)
  have h27 := @run_callFunc_extern Tryd.prog 107 _ (ReflectliteType.abiMethod fun t => do pure (.int .u8 (← Rtype.kind t))) Tryd.func107 (by kernel_rfl) (by kernel_rfl) (by kernel_rfl) (by kernel_rfl)
  have h37 := @run_callFunc_extern Tryd.prog 119 _ (ReflectliteType.method ReflectliteType.elem) Tryd.func119 (by kernel_rfl) (by kernel_rfl) (by kernel_rfl) (by kernel_rfl)
  have h38 := @run_callFunc_extern Tryd.prog 120 _ (ReflectliteType.relation "Implements" ReflectliteType.implements_) Tryd.func120 (by kernel_rfl) (by kernel_rfl) (by kernel_rfl) (by kernel_rfl)
  have f6 := asN_ptr_value
  have f7 := asN_ptr_type
  have mK := as_m_kind
  have mE := as_m_elem
  have mI := as_m_impl
  have k27 := asN_kind_ptr
  have k25 := asN_kind_t
  have e27 := asN_elem_type
  have i25 := asN_implements
  have n8 := asN_isnil ⟨w.heap.size, 0, none⟩ t ((w.alloc (.cells #[.pointer (some t)] 77)).alloc (.cells #[.pointer (some ⟨1, 77, none⟩), .pointer (some ⟨w.heap.size, 0, none⟩), .int .u64 150] 104)) (by simp)
  have hg2 : ((w.alloc (.cells #[.pointer (some t)] 77)).alloc (.cells #[.pointer (some ⟨1, 77, none⟩), .pointer (some ⟨w.heap.size, 0, none⟩), .int .u64 150] 104)).cell? ⟨0, 0, none⟩ = some (.iface 113 (.agg #[.pointer (some ⟨1, 24, none⟩)])) := by
    unfold ErrT at hg
    exact cell_two hg _ _
  have HBW : Hid (Below w.heap.size w ((w.alloc (.cells #[.pointer (some t)] 77)).alloc (.cells #[.pointer (some ⟨1, 77, none⟩), .pointer (some ⟨w.heap.size, 0, none⟩), .int .u64 150] 104))) := ((Below.refl _ _).alloc (Nat.le_refl _) _).alloc (by simp) _
  have AS := asN_as (w := ((w.alloc (.cells #[.pointer (some t)] 77)).alloc (.cells #[.pointer (some ⟨1, 77, none⟩), .pointer (some ⟨w.heap.size, 0, none⟩), .int .u64 150] 104))) h (hw.trans (HBW.out.mono hw.size)) (t := t) (a := ⟨w.heap.size, 0, none⟩) (old := old) (by rw [World.cell?_alloc_lt _ _ ⟨w.heap.size, 0, none⟩ (by simp)]; simp) (cell_two ht _ _) (froz_two ht hf _ _)
  have HTL : Hid (t.block < w.heap.size) := hl
  clear hg h hl hf
  go_enter Tryd.func45, Tryd.ntmps45
  go_wp2_with fail
  refine AS.mono ?_
  rintro e w' ⟨rfl, hc, hb⟩
  have HB : Hid (w'.cell? t = some (.int .i64 n) ∧ Below t.block w w') := ⟨hc, (HBW.out.mono (Nat.le_of_lt HTL.out)).trans hb⟩
  clear hc hb
  go_wp2
  go_ret
  exact ⟨rfl, HB.out.1, HB.out.2⟩
set_option maxRecDepth 100000 in
set_option maxHeartbeats 8000000 in
theorem AsF_ch {ls : List Lk} {n : Int} {v : Value} {w0 w : World} (h : Ch w0 ls n v) (hw : Below w0.heap.size w0 w) {t : Addr} {old : Value} (hg : ErrT w) (ht : w.cell? t = some old) (hf : w.frozen? t = false) :
    Calls Tryd.prog 45 #[v, .iface 111 (.pointer (some t))] w fun e w' => ResF ls w0 w w' t e := by
  have hlt := hg.pos
  have hl := blk_lt ht
  obtain ⟨TT, yy, rfl⟩ := h.iface
  have h6 := @run_callFunc_extern Tryd.prog 68 _ (fun args => ReflectliteValue.unpack (args.getD 0 (.tuple #[]))) Tryd.func68 (by kernel_rfl) (by kernel_rfl) (by kernel_rfl) (by kernel_rfl)
  have h7 := @run_callFunc_extern Tryd.prog 69 _ (ReflectliteValue.methodAny (ReflectliteValue.valueError "reflectlite.Value.Type" 0) (fun t _ _ _ => ReflectliteType.toType t)) Tryd.func69 (by kernel_rfl) (by kernel_rfl) (by kernel_rfl) (by kernel_rfl)
  have h8 := @run_callFunc_extern Tryd.prog 70 _ (ReflectliteValue.method (ReflectliteValue.valueError "reflectlite.Value.IsNil" 0) ReflectliteValue.isNil) Tryd.func70 (by kernel_rfl) (by kernel_rfl) (by kernel_rfl) (by kernel_rfl)
  have h27 := @run_callFunc_extern Tryd.prog 107 _ (ReflectliteType.abiMethod fun t => do pure (.int .u8 (← Rtype.kind t))) Tryd.func107 (by kernel_rfl) (by kernel_rfl) (by kernel_rfl) (by kernel_rfl)
  have h37 := @run_callFunc_extern Tryd.prog 119 _ (ReflectliteType.method ReflectliteType.elem) Tryd.func119 (by kernel_rfl) (by kernel_rfl) (by kernel_rfl) (by kernel_rfl)
  have h38 := @run_callFunc_extern Tryd.prog 120 _ (ReflectliteType.relation "Implements" ReflectliteType.implements_) Tryd.func120 (by kernel_rfl) (by kernel_rfl) (by kernel_rfl) (by kernel_rfl)
  have f6 := asF_ptr_value
  have f7 := asF_ptr_type
  have mK := as_m_kind
  have mE := as_m_elem
  have mI := as_m_impl
  have k27 := asF_kind_ptr
  have k25 := asF_kind_t
  have e27 := asF_elem_type
  have i25 := asF_implements
  have n8 := asF_isnil ⟨w.heap.size, 0, none⟩ t ((w.alloc (.cells #[.pointer (some t)] 111)).alloc (.cells #[.pointer (some ⟨1, 111, none⟩), .pointer (some ⟨w.heap.size, 0, none⟩), .int .u64 150] 104)) (by simp)
  have hg2 : ((w.alloc (.cells #[.pointer (some t)] 111)).alloc (.cells #[.pointer (some ⟨1, 111, none⟩), .pointer (some ⟨w.heap.size, 0, none⟩), .int .u64 150] 104)).cell? ⟨0, 0, none⟩ = some (.iface 113 (.agg #[.pointer (some ⟨1, 24, none⟩)])) := by
    unfold ErrT at hg
    exact cell_two hg _ _
  have HBW : Hid (Below w.heap.size w ((w.alloc (.cells #[.pointer (some t)] 111)).alloc (.cells #[.pointer (some ⟨1, 111, none⟩), .pointer (some ⟨w.heap.size, 0, none⟩), .int .u64 150] 104))) := ((Below.refl _ _).alloc (Nat.le_refl _) _).alloc (by simp) _
  have AS := asF_as (w := ((w.alloc (.cells #[.pointer (some t)] 111)).alloc (.cells #[.pointer (some ⟨1, 111, none⟩), .pointer (some ⟨w.heap.size, 0, none⟩), .int .u64 150] 104))) h (hw.trans (HBW.out.mono hw.size)) (t := t) (a := ⟨w.heap.size, 0, none⟩) (old := old) (by rw [World.cell?_alloc_lt _ _ ⟨w.heap.size, 0, none⟩ (by simp)]; simp) (cell_two ht _ _) (froz_two ht hf _ _)
  have HTL : Hid (t.block < w.heap.size) := hl
  clear hg h hl hf
  go_enter Tryd.func45, Tryd.ntmps45
  go_wp2_with fail
  refine AS.mono ?_
  rintro e w' hr
  rcases hr with ⟨a1, rfl, a3⟩ | ⟨c, x, b, y, a1, rfl, a3, a4, a5⟩
  · have HB : Hid (ffst ls = none ∧ Below w.heap.size w w') := ⟨a1, HBW.out.trans (a3.mono HBW.out.size)⟩
    clear a1 a3
    go_wp2
    go_ret
    exact Or.inl ⟨HB.out.1, rfl, HB.out.2⟩
  · have HB : Hid ((ffst ls = some (c, x) ∧ w'.cell? t = some (.pointer (some ⟨b, 0, none⟩)) ∧ w0.heap[b]? = some (.cells #[.string c, .string x, y] 82 (0, 0))) ∧ Below t.block w w') := ⟨⟨a1, a3, a4⟩, (HBW.out.mono (Nat.le_of_lt HTL.out)).trans a5⟩
    clear a1 a3 a4 a5
    go_wp2
    go_ret
    exact Or.inr ⟨c, x, b, y, HB.out.1.1, rfl, HB.out.1.2.1, HB.out.1.2.2, HB.out.2⟩
set_option maxRecDepth 100000 in
theorem AsF_nil {t : Addr} (w : World) : Calls Tryd.prog 45 #[.nilIface, .iface 111 (.pointer (some t))] w fun e w' => e = .returned (.bool false) ∧ w' = w := by
  go_enter Tryd.func45, Tryd.ntmps45
  go_wp2
  go_ret
  exact ⟨rfl, rfl⟩
theorem recsF (w : World) : CallsD Tryd.prog 72 #[] .returning w fun e u' w' => e = .returned (.tuple #[]) ∧ u' = .returning ∧ w' = w := by
  refine callsD_of_wpS Tryd.func72 rfl fun c₀ cs hu => ?_
  apply wpS_region
  simp [wpOpsS, go_sem, recoverD, hu, Tryd.ntmps72, bodyPostS, results, Tryd.results72]
  cases c₀
  simp_all
set_option maxRecDepth 100000 in
set_option maxHeartbeats 2000000 in
theorem firstF_nil (w : World) : Calls Tryd.prog 46 #[.nilIface] w fun e w' => e = .returned (.pointer none) ∧ Below w.heap.size w w' := by
  have hmf : ∀ (fn : Fn) (first cap : Array Value) (w : World), (Instr.makeFunc fn first cap).run Tryd.prog w = .ok (.func fn first cap) w := fun _ _ _ _ => rfl
  have A1 := fun t W => AsF_nil (t := t) W
  have HB : Hid (∀ o, Below w.heap.size w (w.alloc o)) := fun o => (Below.refl _ _).alloc (Nat.le_refl _) o
  go_enter_defers Tryd.func46, Tryd.ntmps46
  go_wp2_with fail
  refine (A1 _ _).mono ?_
  rintro e w1 ⟨rfl, hw1⟩
  subst hw1
  go_wp2
  refine leaves_cons (f := 72) (args := #[]) (by simp) (by simp [go_sem]) ?_
  refine (recsF _).mono ?_
  rintro e u' w'' ⟨rfl, rfl, rfl⟩
  exact ⟨_, results_tmp rfl _ _ _, rfl, HB.out _⟩
/-- The first link of the kind, or none. -/
def FirF (ls : List Lk) (w w' : World) (e : Ending) : Prop := (ffst ls = none ∧ e = .returned (.pointer none) ∧ Below w.heap.size w w') ∨ (∃ c x b y, ffst ls = some (c, x) ∧ e = .returned (.pointer (some ⟨b, 0, none⟩)) ∧ w'.heap[b]? = some (.cells #[.string c, .string x, y] 82 (0, 0)) ∧ Below w.heap.size w w')
set_option maxRecDepth 100000 in
set_option maxHeartbeats 2000000 in
theorem firstF_ch {ls : List Lk} {n : Int} {v : Value} {w : World} (h : Ch w ls n v) (hg : ErrT w) : Calls Tryd.prog 46 #[v] w fun e w' => FirF ls w w' e := by
  have hmf : ∀ (fn : Fn) (first cap : Array Value) (w : World), (Instr.makeFunc fn first cap).run Tryd.prog w = .ok (.func fn first cap) w := fun _ _ _ _ => rfl
  have B0 : Below w.heap.size w (w.alloc (.cells #[.pointer none] 78)) := (Below.refl _ _).alloc (Nat.le_refl _) _
  have A1 := AsF_ch (w := w.alloc (.cells #[.pointer none] 78)) h B0 (t := ⟨w.heap.size, 0, none⟩) (old := .pointer none) (hg.below B0 hg.pos) (by simp) (World.frozen?_alloc_new _ _ _ _)
  have HB : Hid (Below w.heap.size w (w.alloc (.cells #[.pointer none] 78))) := B0
  have HZ : Hid ((w.alloc (.cells #[.pointer none] 78)).cell? ⟨w.heap.size, 0, none⟩ = some (.pointer none)) := by show _ = _; simp
  have HC : Hid (Ch w ls n v ∧ ErrT w) := ⟨h, hg⟩
  clear hg h B0
  go_enter_defers Tryd.func46, Tryd.ntmps46
  go_wp2_with fail
  refine A1.mono ?_
  rintro e w1 hr
  rcases hr with ⟨a1, rfl, a3⟩ | ⟨c, x, b, y, a1, rfl, a3, a4, a5⟩
  · have HD : Hid (ffst ls = none ∧ Below w.heap.size w w1) := ⟨a1, HB.out.trans (a3.mono HB.out.size)⟩
    have ct : w1.cell? ⟨w.heap.size, 0, none⟩ = some (.pointer none) := (a3.cell (p := ⟨w.heap.size, 0, none⟩) (by simp)).trans HZ.out
    clear a1 a3
    go_wp2
    refine leaves_cons (f := 72) (args := #[]) (by simp) (by simp [go_sem]) ?_
    refine (recsF _).mono ?_
    rintro e u' w'' ⟨rfl, rfl, rfl⟩
    exact ⟨_, results_tmp rfl _ _ _, Or.inl ⟨HD.out.1, rfl, HD.out.2⟩⟩
  · have HD : Hid (ffst ls = some (c, x) ∧ Below w.heap.size w w1 ∧ w1.heap[b]? = some (.cells #[.string c, .string x, y] 82 (0, 0))) := ⟨a1, HB.out.trans a5, ((HB.out.trans a5).block b (lt_of_heap a4)).trans a4⟩
    clear a1 a4 a5
    go_wp2
    refine leaves_cons (f := 72) (args := #[]) (by simp) (by simp [go_sem]) ?_
    refine (recsF _).mono ?_
    rintro e u' w'' ⟨rfl, rfl, rfl⟩
    exact ⟨_, results_tmp rfl _ _ _, Or.inr ⟨c, x, b, y, HD.out.1, rfl, HD.out.2.2, HD.out.2.1⟩⟩
set_option maxRecDepth 100000 in
theorem AsN_nil {t : Addr} (w : World) : Calls Tryd.prog 45 #[.nilIface, .iface 77 (.pointer (some t))] w fun e w' => e = .returned (.bool false) ∧ w' = w := by
  go_enter Tryd.func45, Tryd.ntmps45
  go_wp2
  go_ret
  exact ⟨rfl, rfl⟩
theorem recsN (w : World) : CallsD Tryd.prog 86 #[] .returning w fun e u' w' => e = .returned (.tuple #[]) ∧ u' = .returning ∧ w' = w := by
  refine callsD_of_wpS Tryd.func86 rfl fun c₀ cs hu => ?_
  apply wpS_region
  simp [wpOpsS, go_sem, recoverD, hu, Tryd.ntmps86, bodyPostS, results, Tryd.results86]
  cases c₀
  simp_all
set_option maxRecDepth 100000 in
set_option maxHeartbeats 2000000 in
theorem firstN_nil (w : World) : Calls Tryd.prog 67 #[.nilIface] w fun e w' => e = .returned (.int .i64 0) ∧ Below w.heap.size w w' := by
  have hmf : ∀ (fn : Fn) (first cap : Array Value) (w : World), (Instr.makeFunc fn first cap).run Tryd.prog w = .ok (.func fn first cap) w := fun _ _ _ _ => rfl
  have A1 := fun t W => AsN_nil (t := t) W
  have HB : Hid (∀ o, Below w.heap.size w (w.alloc o)) := fun o => (Below.refl _ _).alloc (Nat.le_refl _) o
  go_enter_defers Tryd.func67, Tryd.ntmps67
  go_wp2_with fail
  refine (A1 _ _).mono ?_
  rintro e w1 ⟨rfl, hw1⟩
  subst hw1
  go_wp2
  refine leaves_cons (f := 86) (args := #[]) (by simp) (by simp [go_sem]) ?_
  refine (recsN _).mono ?_
  rintro e u' w'' ⟨rfl, rfl, rfl⟩
  exact ⟨_, results_tmp rfl _ _ _, rfl, HB.out _⟩
set_option maxRecDepth 100000 in
set_option maxHeartbeats 2000000 in
theorem firstN_ch {ls : List Lk} {n : Int} {v : Value} {w : World} (h : Ch w ls n v) (hg : ErrT w) : Calls Tryd.prog 67 #[v] w fun e w' => e = .returned (.int .i64 n) ∧ Below w.heap.size w w' := by
  have hmf : ∀ (fn : Fn) (first cap : Array Value) (w : World), (Instr.makeFunc fn first cap).run Tryd.prog w = .ok (.func fn first cap) w := fun _ _ _ _ => rfl
  have B0 : Below w.heap.size w (w.alloc (.cells #[.int .i64 0] 64)) := (Below.refl _ _).alloc (Nat.le_refl _) _
  have A1 := AsN_ch (w := w.alloc (.cells #[.int .i64 0] 64)) h B0 (t := ⟨w.heap.size, 0, none⟩) (old := .int .i64 0) (hg.below B0 hg.pos) (by simp) (World.frozen?_alloc_new _ _ _ _)
  have HB : Hid (Below w.heap.size w (w.alloc (.cells #[.int .i64 0] 64))) := B0
  have HZ : Hid ((w.alloc (.cells #[.int .i64 0] 64)).cell? ⟨w.heap.size, 0, none⟩ = some (.int .i64 0)) := by show _ = _; simp
  have HC : Hid (Ch w ls n v ∧ ErrT w) := ⟨h, hg⟩
  clear hg h B0
  go_enter_defers Tryd.func67, Tryd.ntmps67
  go_wp2_with fail
  refine A1.mono ?_
  rintro e w1 ⟨rfl, hc, hb⟩
  have HD : Hid (Below w.heap.size w w1) := HB.out.trans hb
  clear hb
  go_wp2
  refine leaves_cons (f := 86) (args := #[]) (by simp) (by simp [go_sem]) ?_
  refine (recsN _).mono ?_
  rintro e u' w'' ⟨rfl, rfl, rfl⟩
  exact ⟨_, results_tmp rfl _ _ _, rfl, HD.out⟩
set_option maxRecDepth 100000 in
theorem why_ch {ls : List Lk} {n : Int} {v : Value} {w : World} (h : Ch w ls n v) (hg : ErrT w) :
    Calls Tryd.prog 44 #[v] w fun e w' => e = .returned (.int .i64 n) ∧ Below w.heap.size w w' := by
  have F := firstN_ch h hg
  go_enter Tryd.func44, Tryd.ntmps44
  go_wp2_with fail
  refine F.mono ?_
  rintro e w1 ⟨rfl, hb⟩
  go_wp2
  go_ret
  exact ⟨rfl, hb⟩
set_option maxRecDepth 100000 in
theorem why_nil (w : World) : Calls Tryd.prog 44 #[.nilIface] w fun e w' => e = .returned (.int .i64 0) ∧ Below w.heap.size w w' := by
  have F := firstN_nil w
  go_enter Tryd.func44, Tryd.ntmps44
  go_wp2_with fail
  refine F.mono ?_
  rintro e w1 ⟨rfl, hb⟩
  go_wp2
  go_ret
  exact ⟨rfl, hb⟩
theorem isTypeOf (v : Value) (w : World) : (ReflectliteType.typeOf #[.iface 64 v]).run Tryd.prog w = .ok (.iface 113 (.agg #[.pointer (some ⟨1, 64, none⟩)])) w := by kernel_rfl
theorem isComparable (w : World) : (callFunc 118 #[.agg #[.pointer (some ⟨1, 64, none⟩)]]).run Tryd.prog w = .ok (.value (.bool true)) w := by kernel_rfl
theorem isMethodComparable (v : Value) (w : World) : (Go.method 281 113 v "Comparable").run Tryd.prog w = .ok (118, v) w := by kernel_rfl
theorem noIsN (v : Value) (xT : TypeId) (w : World) : (Instr.typeAssert (.iface 64 v) xT 115 true).run Tryd.prog w = .ok (.tuple #[.nilIface, .bool false]) w := run_typeAssert_lacksB Tryd.underlying115 (by kernel_rfl) (by kernel_rfl) v xT w
theorem noIsF (v : Value) (xT : TypeId) (w : World) : (Instr.typeAssert (.iface 78 v) xT 115 true).run Tryd.prog w = .ok (.tuple #[.nilIface, .bool false]) w := run_typeAssert_lacksB Tryd.underlying115 (by kernel_rfl) (by kernel_rfl) v xT w
theorem eql_errno (n m : Int) (w : World) : (binOp .eql 24 (.iface 64 (.int .i64 n)) (.iface 64 (.int .i64 m))).run Tryd.prog w = .ok (.bool (n == m)) w := by kernel_rfl
set_option maxRecDepth 100000 in
set_option maxHeartbeats 4000000 in
theorem is_ch {ls : List Lk} {n m : Int} {r : Bool} (hr : (n == m) = r) {v : Value} {w : World} (h : Ch w ls n v) :
    Calls Tryd.prog 49 #[v, .iface 64 (.int .i64 m), .bool true] w fun x w' => x = .returned (.bool r) ∧ w' = w := by
  have nN := noIsN
  have uN := noUnwrapN
  have vN := noUnwrapsN
  have nF := noIsF
  have uF := hasUnwrapF
  have mF := methodUnwrapF
  have heq := fun W => eql_errno n m W
  rw [hr] at heq
  clear hr
  go_enter Tryd.func49, Tryd.ntmps49
  go_wp2
  go_loopg [0] ls.length (fun gk v wr => wr = w ∧ ∃ ls : List Lk, ls.length = gk ∧ Ch w ls n v)
  case atStart => exact ⟨rfl, ls, rfl, h⟩
  case round =>
    clear h
    obtain ⟨rfl, ls, rfl, h⟩ := hrel
    cases ls with
    | nil =>
      have h' : _ = _ := h
      subst h'
      cases r
      · go_wp2
        go_ret
        exact ⟨rfl, rfl⟩
      · go_wp2
        go_ret
        exact ⟨rfl, rfl⟩
    | cons k ls =>
        obtain ⟨c, t⟩ := k
        obtain ⟨b, e, rfl, hh, hc⟩ := h
        obtain ⟨T, y, rfl⟩ := hc.iface
        have U := unwrapF hh
        have hty := fun W => run_eql_iface_types (P := Tryd.prog) 78 64 (.pointer (some ⟨b, 0, none⟩)) (.int .i64 m) Tryd.underlying24 (by decide) W
        go_wp2_with fail
        refine U.mono ?_
        rintro x wx ⟨rfl, rfl⟩
        go_wp2
        go_roundg ls.length
        case measure => simp
        case rel => exact ⟨rfl, ls, rfl, hc⟩
set_option maxRecDepth 100000 in
set_option maxHeartbeats 4000000 in
theorem Is_ch {ls : List Lk} {n : Int} (m : Int) {v : Value} {w : World} (h : Ch w ls n v) :
    Calls Tryd.prog 34 #[v, .iface 64 (.int .i64 m)] w fun x w' => x = .returned (.bool (n == m)) ∧ w' = w := by
  have I := is_ch (m := m) rfl h
  generalize (n == m) = r at *
  obtain ⟨T, y, rfl⟩ := h.iface
  have h8 := @run_callFunc_extern Tryd.prog 48 _ ReflectliteType.typeOf Tryd.func48 (by kernel_rfl) (by kernel_rfl) (by kernel_rfl) (by kernel_rfl)
  have tT := isTypeOf
  have cT := isComparable
  have mR := isMethodComparable
  go_enter Tryd.func34, Tryd.ntmps34
  go_wp2_with fail
  refine I.mono ?_
  rintro x wx ⟨rfl, rfl⟩
  go_wp2
  go_ret
  exact ⟨rfl, rfl⟩
set_option maxRecDepth 100000 in
set_option maxHeartbeats 1000000 in
theorem clone_any (s : ByteArray) (hs : s.size ≤ 281474976710656) (w : World) :
    Calls Tryd.prog 47 #[.string s] w fun e w' => e = .returned (.string s) ∧ Below w.heap.size w w' := by
  have I := fun W => cloneLite_any s hs W
  go_enter Tryd.func47, Tryd.ntmps47
  go_wp2_with fail
  refine (I _).mono ?_
  rintro e w1 ⟨rfl, h1⟩
  go_wp2
  go_ret
  exact ⟨rfl, h1⟩
set_option maxRecDepth 100000 in
theorem call_nil (w : World) : Calls Tryd.prog 31 #[.nilIface] w fun e w' => e = .returned (.tuple #[.string ⟨#[]⟩, .bool false]) ∧ Below w.heap.size w w' := by
  have F := firstF_nil w
  go_enter Tryd.func31, Tryd.ntmps31
  go_wp2_with fail
  refine F.mono ?_
  rintro e w1 ⟨rfl, hb⟩
  go_wp2
  go_ret2
  exact ⟨rfl, hb⟩
set_option maxRecDepth 100000 in
theorem text_nil (w : World) : Calls Tryd.prog 32 #[.nilIface] w fun e w' => e = .returned (.tuple #[.string ⟨#[]⟩, .bool false]) ∧ Below w.heap.size w w' := by
  have F := firstF_nil w
  go_enter Tryd.func32, Tryd.ntmps32
  go_wp2_with fail
  refine F.mono ?_
  rintro e w1 ⟨rfl, hb⟩
  go_wp2
  go_ret2
  exact ⟨rfl, hb⟩
/-- What Call and Text tell. -/
def callR (ls : List Lk) : ByteArray × Bool := match ffst ls with | some (c, _) => (c, true) | none => (⟨#[]⟩, false)
def textR (ls : List Lk) : ByteArray × Bool := match ffst ls with | some (_, t) => (t, true) | none => (⟨#[]⟩, false)
set_option maxRecDepth 100000 in
set_option maxHeartbeats 1000000 in
theorem call_ch {ls : List Lk} {n : Int} {v : Value} {w : World} (h : Ch w ls n v) (hg : ErrT w) (hz : ∀ c t, ffst ls = some (c, t) → c.size ≤ 281474976710656) :
    Calls Tryd.prog 31 #[v] w fun e w' => e = .returned (.tuple #[.string (callR ls).1, .bool (callR ls).2]) ∧ Below w.heap.size w w' := by
  have F := firstF_ch h hg
  have HZ : Hid (∀ c t, ffst ls = some (c, t) → c.size ≤ 281474976710656) := hz
  clear h hg hz
  go_enter Tryd.func31, Tryd.ntmps31
  go_wp2_with fail
  refine F.mono ?_
  rintro e w1 hr
  rcases hr with ⟨a1, rfl, a3⟩ | ⟨c, x, b, y, a1, rfl, a3, a4⟩
  · have HR : Hid (callR ls = (⟨#[]⟩, false)) := by unfold callR; rw [a1]; rfl
    clear a1
    go_wp2
    go_ret2
    exact ⟨by rw [HR.out]; rfl, a3⟩
  · have HR : Hid (callR ls = (c, true)) := by unfold callR; rw [a1]; rfl
    have c0 : w1.cell? ⟨b, 0, none⟩ = some (.string c) := by simp [World.cell?, a3]
    have CL := clone_any c (HZ.out c x a1) w1
    have HB : Hid (Below w.heap.size w w1) := a4
    clear a1 a3 a4
    go_wp2_with fail
    refine CL.mono ?_
    rintro e w2 ⟨rfl, b2⟩
    have HB2 : Hid (Below w.heap.size w w2) := HB.out.trans (b2.mono HB.out.size)
    clear b2
    go_wp2
    go_ret2
    exact ⟨by rw [HR.out]; rfl, HB2.out⟩
set_option maxRecDepth 100000 in
set_option maxHeartbeats 1000000 in
theorem text_ch {ls : List Lk} {n : Int} {v : Value} {w : World} (h : Ch w ls n v) (hg : ErrT w) (hz : ∀ c t, ffst ls = some (c, t) → t.size ≤ 281474976710656) :
    Calls Tryd.prog 32 #[v] w fun e w' => e = .returned (.tuple #[.string (textR ls).1, .bool (textR ls).2]) ∧ Below w.heap.size w w' := by
  have F := firstF_ch h hg
  have HZ : Hid (∀ c t, ffst ls = some (c, t) → t.size ≤ 281474976710656) := hz
  clear h hg hz
  go_enter Tryd.func32, Tryd.ntmps32
  go_wp2_with fail
  refine F.mono ?_
  rintro e w1 hr
  rcases hr with ⟨a1, rfl, a3⟩ | ⟨c, x, b, y, a1, rfl, a3, a4⟩
  · have HR : Hid (textR ls = (⟨#[]⟩, false)) := by unfold textR; rw [a1]; rfl
    clear a1
    go_wp2
    go_ret2
    exact ⟨by rw [HR.out]; rfl, a3⟩
  · have HR : Hid (textR ls = (x, true)) := by unfold textR; rw [a1]; rfl
    have c0 : w1.cell? ⟨b, 1, none⟩ = some (.string x) := by simp [World.cell?, a3]
    have CL := clone_any x (HZ.out c x a1) w1
    have HB : Hid (Below w.heap.size w w1) := a4
    clear a1 a3 a4
    go_wp2_with fail
    refine CL.mono ?_
    rintro e w2 ⟨rfl, b2⟩
    have HB2 : Hid (Below w.heap.size w w2) := HB.out.trans (b2.mono HB.out.size)
    clear b2
    go_wp2
    go_ret2
    exact ⟨by rw [HR.out]; rfl, HB2.out⟩
set_option maxRecDepth 100000 in
theorem wrap_nil (c t : ByteArray) (w : World) : Calls Tryd.prog 33 #[.string c, .string t, .nilIface] w fun e w' => e = .returned .nilIface ∧ w' = w := by
  go_enter Tryd.func33, Tryd.ntmps33
  go_wp2
  go_ret
  exact ⟨rfl, rfl⟩
set_option maxRecDepth 100000 in
set_option maxHeartbeats 2000000 in
theorem wrap_ch {c t : ByteArray} (hc : c.size ≤ 281474976710656) (ht : t.size ≤ 281474976710656) {ls : List Lk} {n : Int} {v : Value} {w : World} (h : Ch w ls n v) :
    Calls Tryd.prog 33 #[.string c, .string t, v] w fun x w' => ∃ v', x = .returned v' ∧ Ch w' ((c, t) :: ls) n v' ∧ Below w.heap.size w w' := by
  have C1 := fun W => clone_any c hc W
  have C2 := fun W => clone_any t ht W
  obtain ⟨T, y, rfl⟩ := h.iface
  have HC : Hid (Ch w ls n (.iface T y)) := h
  clear h hc ht
  go_enter Tryd.func33, Tryd.ntmps33
  go_wp2_with fail
  refine (C1 _).mono ?_
  rintro x w1 ⟨rfl, b1⟩
  have B1 : Hid (Below w.heap.size w w1) := b1
  clear b1
  go_wp2_with fail
  refine (C2 _).mono ?_
  rintro x w2 ⟨rfl, b2⟩
  have B2 : Hid (Below w.heap.size w w2) := B1.out.trans (b2.mono B1.out.size)
  clear b2
  go_wp2
  go_ret
  refine ⟨_, rfl, ⟨w2.heap.size, .iface T y, rfl, heap_alloc_new w2 _, ?_⟩, B2.out.alloc B2.out.size _⟩
  exact HC.out.below (B2.out.alloc B2.out.size _) (Nat.le_refl _)
end Go.Proofs.YtoabdoognadijaaDoor
