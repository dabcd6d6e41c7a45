/-
  Holds: VAs VAs2 VAs3 VDecA VErrNum.
-/
import Derived.Test.YtjagnfddmlkalaaGreatDoorRows
import Derived.Laws.Externs
import Derived.WalkKit
import Derived.WalkSpells
import Derived.WalkLawsBesides
import Derived.Lib.Mul64
import Derived.Stop.Asserts
import Derived.RowKitTokens
import Derived.Test.YtjagnfddmlkalaaGreatDoorKj0
set_option maxRecDepth 100000
set_option maxHeartbeats 4000000
namespace Go.Proofs.YtjagnfddmlkalaaGreatDoor
open Go.RowKit Go.Extern.Stop Go.Stop Go.Extern
theorem as_ptr_value (t : Addr) (w : World) : (ReflectliteValue.unpack (.iface 57 (.pointer (some t)))).run Tryz.prog w
 = .ok (.agg #[.pointer (some ⟨9, 57, none⟩), .pointer (some ⟨w.heap.size, 0, none⟩), .int .u64 150]) (w.alloc (.cells #[.pointer (some t)] 57)) := by kernel_rfl
theorem as_ptr_type (a : Addr) (w : World) : (ReflectliteValue.methodAny (ReflectliteValue.valueError "reflectlite.Value.Type" 0) (fun t _ _ _ => ReflectliteType.toType t) #[.agg #[.pointer (some ⟨9, 57, none⟩), .pointer (some a), .int .u64 150]]).run Tryz.prog w
 = .ok (.iface 140 (.agg #[.pointer (some ⟨9, 57, none⟩)])) w := by kernel_rfl
theorem as_kind_ptr (w : World) : ((ReflectliteType.abiMethod fun t => Functor.map (fun a : Nat => Value.int IntKind.u8 (a : Int)) (Rtype.kind t)) #[.pointer (some ⟨9, 57, none⟩)]).run Tryz.prog w = .ok (.int .u8 22) w := by kernel_rfl
theorem as_kind_errno (w : World) : ((ReflectliteType.abiMethod fun t => Functor.map (fun a : Nat => Value.int IntKind.u8 (a : Int)) (Rtype.kind t)) #[.pointer (some ⟨9, 42, none⟩)]).run Tryz.prog w = .ok (.int .u8 2) w := by kernel_rfl
theorem as_elem_type (w : World) : (ReflectliteType.method ReflectliteType.elem #[.agg #[.pointer (some ⟨9, 57, none⟩)]]).run Tryz.prog w = .ok (.iface 140 (.agg #[.pointer (some ⟨9, 42, none⟩)])) w := by kernel_rfl
theorem as_implements (w : World) : (ReflectliteType.relation "Implements" ReflectliteType.implements_ #[.agg #[.pointer (some ⟨9, 42, none⟩)], .iface 140 (.agg #[.pointer (some ⟨9, 26, none⟩)])]).run Tryz.prog w = .ok (.bool true) w := by kernel_rfl
theorem as_typeof (v : Value) (w : World) : (ReflectliteType.typeOf #[.iface 42 v]).run Tryz.prog w = .ok (.iface 140 (.agg #[.pointer (some ⟨9, 42, none⟩)])) w := by kernel_rfl
theorem as_assignable (w : World) : (ReflectliteType.relation "AssignableTo" ReflectliteType.assignableTo #[.agg #[.pointer (some ⟨9, 42, none⟩)], .iface 140 (.agg #[.pointer (some ⟨9, 42, none⟩)])]).run Tryz.prog w = .ok (.bool true) w := by kernel_rfl
theorem as_errno_value (k : Int) (w : World) : (ReflectliteValue.unpack (.iface 42 (.int .i64 k))).run Tryz.prog w
 = .ok (.agg #[.pointer (some ⟨9, 42, none⟩), .pointer (some ⟨w.heap.size, 0, none⟩), .int .u64 130]) (w.alloc (.cells #[.int .i64 k] 42)) := by kernel_rfl
theorem as_method (z : Sem Value) (f : TypeId → Addr → Nat → Nat → Sem Value) (v : Value) :
 ReflectliteValue.method z f #[v] = (do match ← ReflectliteValue.parts v with | none => z | some (t, a, fl) => f t a fl (fl % 32)) := rfl
theorem as_parts_ptr (a : Addr) (w : World) : (ReflectliteValue.parts (.agg #[.pointer (some ⟨9, 57, none⟩), .pointer (some a), .int .u64 150])).run Tryz.prog w = .ok (some (57, a, 150)) w := by kernel_rfl
theorem as_isnil (a p : Addr) (W : World) (ha : W.cell? a = some (.pointer (some p))) :
 (ReflectliteValue.method (ReflectliteValue.valueError "reflectlite.Value.IsNil" 0) ReflectliteValue.isNil #[.agg #[.pointer (some ⟨9, 57, none⟩), .pointer (some a), .int .u64 150]]).run Tryz.prog W = .ok (.bool false) W := by
 rw [as_method]
 simp only [Sem.run_bind, as_parts_ptr, Result.andThen]
 simp [ReflectliteValue.isNil, loadVar, isAgg, underlying, Tryz.underlying57, ha, Result.andThen]
theorem as_elem_of (w : World) : (Rtype.elem? 57).run Tryz.prog w = .ok (some 42) w := by kernel_rfl
theorem as_mk (p : Addr) (w : World) : (ReflectliteValue.mk 42 p ReflectliteValue.flagAddr).run Tryz.prog w = .ok (.agg #[.pointer (some ⟨9, 42, none⟩), .pointer (some p), .int .u64 386]) w := by kernel_rfl
theorem as_elem (a p : Addr) (W : World) (ha : W.cell? a = some (.pointer (some p))) :
 (ReflectliteValue.method (ReflectliteValue.valueError "reflectlite.Value.Elem" 0) ReflectliteValue.elem #[.agg #[.pointer (some ⟨9, 57, none⟩), .pointer (some a), .int .u64 150]]).run Tryz.prog W
  = .ok (.agg #[.pointer (some ⟨9, 42, none⟩), .pointer (some p), .int .u64 386]) W := by
 rw [as_method]
 simp only [Sem.run_bind, as_parts_ptr, Result.andThen]
 simp [ReflectliteValue.elem, loadVar, isAgg, underlying, Tryz.underlying57, ha, Result.andThen, as_elem_of, as_mk]
theorem as_parts_dst (a : Addr) (w : World) : (ReflectliteValue.parts (.agg #[.pointer (some ⟨9, 42, none⟩), .pointer (some a), .int .u64 386])).run Tryz.prog w = .ok (some (42, a, 386)) w := by kernel_rfl
theorem as_parts_src (a : Addr) (w : World) : (ReflectliteValue.parts (.agg #[.pointer (some ⟨9, 42, none⟩), .pointer (some a), .int .u64 130])).run Tryz.prog w = .ok (some (42, a, 130)) w := by kernel_rfl
theorem as_direct (w : World) : (Rtype.directlyAssignable 42 42).run Tryz.prog w = .ok true w := by kernel_rfl
theorem as_set (ta b : Addr) (k : Int) (old : Value) (W : World) (hb : W.cell? b = some (.int .i64 k)) (ht : W.cell? ta = some old) (hf : W.frozen? ta = false) :
 (ReflectliteValue.set #[.agg #[.pointer (some ⟨9, 42, none⟩), .pointer (some ta), .int .u64 386], .agg #[.pointer (some ⟨9, 42, none⟩), .pointer (some b), .int .u64 130]]).run Tryz.prog W
  = .ok (.tuple #[]) (W.setCell ta (.int .i64 k)) := by
 refine Eq.trans (Sem.run_bind _ _ (ReflectliteValue.parts (.agg #[.pointer (some ⟨9, 42, none⟩), .pointer (some ta), .int .u64 386])) _) ?_
 simp only [as_parts_dst, Result.andThen]
 refine Eq.trans (Sem.run_bind _ _ (ReflectliteValue.parts (.agg #[.pointer (some ⟨9, 42, none⟩), .pointer (some b), .int .u64 130])) _) ?_
 simp only [as_parts_src, Result.andThen]
 simp [ReflectliteValue.flagAddr, loadVar, isAgg, underlying, Tryz.underlying42, hb, Result.andThen, as_direct, storeVar, Value.cells, storeCells, Addr.add]
 rw [run_store Tryz.prog W ta _ _ (by rfl)]
 simp [ht, hf]
theorem as_m_kind (h : Value) (w : World) : (Go.method 355 140 (.agg #[h]) "Kind").run Tryz.prog w = .ok (176, h) w := by kernel_rfl
theorem as_m_elem (h : Value) (w : World) : (Go.method 355 140 (.agg #[h]) "Elem").run Tryz.prog w = .ok (186, .agg #[h]) w := by kernel_rfl
theorem as_m_impl (h : Value) (w : World) : (Go.method 355 140 (.agg #[h]) "Implements").run Tryz.prog w = .ok (187, .agg #[h]) w := by kernel_rfl
theorem as_m_assign (h : Value) (w : World) : (Go.method 355 140 (.agg #[h]) "AssignableTo").run Tryz.prog w = .ok (184, .agg #[h]) w := by kernel_rfl
def ErrT (w : World) : Prop := w.cell? ⟨0, 0, none⟩ = some (.iface 140 (.agg #[.pointer (some ⟨9, 26, none⟩)]))
theorem ErrT.pos {w : World} (h : ErrT w) : 0 < w.heap.size := by
 rcases Nat.lt_or_ge 0 w.heap.size with a | a
 · exact a
 · unfold ErrT at h; simp [World.cell?, Array.getElem?_eq_none a] at h
theorem ErrT.below {w w' : World} {B : Nat} (h : ErrT w) (hb : Below B w w') (hB : 0 < B) : ErrT w' := by
 unfold ErrT at *
 rw [hb.cell (p := ⟨0, 0, none⟩) hB]; exact h
theorem as_hit (k : Int) (t : Addr) (old : Value) (w : World) (hg : ErrT w) (ht0 : w.cell? t = some old) (hf0 : w.frozen? t = false) :
 Calls Tryz.prog 20 #[.iface 42 (.int .i64 k), .iface 57 (.pointer (some t))] w fun ev w' => ev = .returned (.bool true) ∧ w' = ((((w.alloc (.cells #[.pointer (some t)] 57)).alloc (.cells #[.pointer (some ⟨9, 57, none⟩), .pointer (some ⟨w.heap.size, 0, none⟩), .int .u64 150] 89)).alloc (.cells #[.pointer (some ⟨9, 57, none⟩), .pointer (some ⟨w.heap.size, 0, none⟩), .int .u64 150] 89)).alloc (.cells #[.int .i64 k] 42)).setCell t (.int .i64 k) := by
 have hlt := hg.pos
 unfold ErrT at hg
 have h6 := @run_callFunc_extern Tryz.prog 43 _ (fun args => ReflectliteValue.unpack (args.getD 0 (.tuple #[]))) Tryz.func43 (by kernel_rfl) (by kernel_rfl) (by kernel_rfl) (by kernel_rfl)
 have h7 := @run_callFunc_extern Tryz.prog 44 _ (ReflectliteValue.methodAny (ReflectliteValue.valueError "reflectlite.Value.Type" 0) (fun t _ _ _ => ReflectliteType.toType t)) Tryz.func44 (by kernel_rfl) (by kernel_rfl) (by kernel_rfl) (by kernel_rfl)
 have h8 := @run_callFunc_extern Tryz.prog 45 _ (ReflectliteValue.method (ReflectliteValue.valueError "reflectlite.Value.IsNil" 0) ReflectliteValue.isNil) Tryz.func45 (by kernel_rfl) (by kernel_rfl) (by kernel_rfl) (by kernel_rfl)
 have h27 := @run_callFunc_extern Tryz.prog 176 _ (ReflectliteType.abiMethod fun t => do pure (.int .u8 (← Rtype.kind t))) Tryz.func176 (by kernel_rfl) (by kernel_rfl) (by kernel_rfl) (by kernel_rfl)
 have h37 := @run_callFunc_extern Tryz.prog 186 _ (ReflectliteType.method ReflectliteType.elem) Tryz.func186 (by kernel_rfl) (by kernel_rfl) (by kernel_rfl) (by kernel_rfl)
 have h38 := @run_callFunc_extern Tryz.prog 187 _ (ReflectliteType.relation "Implements" ReflectliteType.implements_) Tryz.func187 (by kernel_rfl) (by kernel_rfl) (by kernel_rfl) (by kernel_rfl)
 have h10 := @run_callFunc_extern Tryz.prog 85 _ ReflectliteType.typeOf Tryz.func85 (by kernel_rfl) (by kernel_rfl) (by kernel_rfl) (by kernel_rfl)
 have h35 := @run_callFunc_extern Tryz.prog 184 _ (ReflectliteType.relation "AssignableTo" ReflectliteType.assignableTo) Tryz.func184 (by kernel_rfl) (by kernel_rfl) (by kernel_rfl) (by kernel_rfl)
 have h11 := @run_callFunc_extern Tryz.prog 86 _ (ReflectliteValue.method (ReflectliteValue.valueError "reflectlite.Value.Elem" 0) ReflectliteValue.elem) Tryz.func86 (by kernel_rfl) (by kernel_rfl) (by kernel_rfl) (by kernel_rfl)
 have h12 := @run_callFunc_extern Tryz.prog 87 _ ReflectliteValue.set Tryz.func87 (by kernel_rfl) (by kernel_rfl) (by kernel_rfl) (by kernel_rfl)
 have tO := as_typeof
 have mA := as_m_assign
 have a25 := as_assignable
 have v25 := as_errno_value
 have f6 := as_ptr_value
 have f7 := as_ptr_type
 have mK := as_m_kind
 have mE := as_m_elem
 have mI := as_m_impl
 have k27 := as_kind_ptr
 have k25 := as_kind_errno
 have e27 := as_elem_type
 have i25 := as_implements
 have n8 := as_isnil ⟨w.heap.size, 0, none⟩ t ((w.alloc (.cells #[.pointer (some t)] 57)).alloc (.cells #[.pointer (some ⟨9, 57, none⟩), .pointer (some ⟨w.heap.size, 0, none⟩), .int .u64 150] 89)) (by simp)
 have hg2 : ((w.alloc (.cells #[.pointer (some t)] 57)).alloc (.cells #[.pointer (some ⟨9, 57, none⟩), .pointer (some ⟨w.heap.size, 0, none⟩), .int .u64 150] 89)).cell? ⟨0, 0, none⟩ = some (.iface 140 (.agg #[.pointer (some ⟨9, 26, none⟩)])) := by
  rw [World.cell?_alloc_lt _ _ ⟨0, 0, none⟩ (by show 0 < (w.alloc _).heap.size; rw [World.size_alloc]; omega), World.cell?_alloc_lt _ _ ⟨0, 0, none⟩ hlt]; exact hg
 have htl : t.block < w.heap.size := by
  rcases Nat.lt_or_ge t.block w.heap.size with h | h
  · exact h
  · simp [World.cell?, Array.getElem?_eq_none h] at ht0
 have el := as_elem ⟨w.heap.size, 0, none⟩ t (((w.alloc (.cells #[.pointer (some t)] 57)).alloc (.cells #[.pointer (some ⟨9, 57, none⟩), .pointer (some ⟨w.heap.size, 0, none⟩), .int .u64 150] 89)).alloc (.cells #[.pointer (some ⟨9, 57, none⟩), .pointer (some ⟨w.heap.size, 0, none⟩), .int .u64 150] 89)) (by rw [World.cell?_alloc_lt _ _ ⟨w.heap.size, 0, none⟩ (by simp; omega)]; simp)
 have st := as_set t ⟨w.heap.size + 1 + 1 + 1, 0, none⟩ k old ((((w.alloc (.cells #[.pointer (some t)] 57)).alloc (.cells #[.pointer (some ⟨9, 57, none⟩), .pointer (some ⟨w.heap.size, 0, none⟩), .int .u64 150] 89)).alloc (.cells #[.pointer (some ⟨9, 57, none⟩), .pointer (some ⟨w.heap.size, 0, none⟩), .int .u64 150] 89)).alloc (.cells #[.int .i64 k] 42))
  (by rw [World.cell?_alloc_at _ _ _ _ (by simp)]; rfl)
  (by rw [World.cell?_alloc_lt _ _ t (by simp; omega), World.cell?_alloc_lt _ _ t (by simp; omega), World.cell?_alloc_lt _ _ t (by simp; omega), World.cell?_alloc_lt _ _ t htl]; exact ht0)
  (by rw [World.frozen?_alloc_old _ _ t (by simp; omega), World.frozen?_alloc_old _ _ t (by simp; omega), World.frozen?_alloc_old _ _ t (by simp; omega), World.frozen?_alloc_old _ _ t (Nat.ne_of_lt htl)]; exact hf0)
 go_enter Tryz.func20, Tryz.ntmps20
 go_wp2
 refine wp_loop_rounds 1 ?_
 rw [rounds_succ]
 go_wp2
 go_ret
 exact ⟨rfl, rfl⟩
end Go.Proofs.YtjagnfddmlkalaaGreatDoor
namespace Go.Proofs.YtjagnfddmlkalaaGreatDoor
open Go.RowKit
def DG (s : ByteArray) : Prop := ∀ k (h : k < s.size), 48 ≤ (s[k]'h).toNat ∧ (s[k]'h).toNat ≤ 57
structure VN (s : ByteArray) (p : Int) (c : Bool) : Prop where
 pos : 0 < s.size
 len : s.size ≤ 800
 dg : DG s
 first : (s[0]'pos).toNat ≠ 48
 last : (s[s.size - 1]'(by omega)).toNat ≠ 48 ∨ c = true
 lo : -1099511627776 ≤ p
 hi : p ≤ 1099511627776
def VD (s : ByteArray) (p : Int) (c : Bool) : Prop := (s.size = 0 ∧ p = 0 ∧ c = false) ∨ VN s p c
def dcV (s : ByteArray) (p : Int) (c : Bool) : Value := .agg #[.string s, .int .i64 p, .bool c]
theorem list_data (s : ByteArray) : s.toList = s.data.toList := by
  have go : ∀ (n i : Nat) (r : List UInt8), n = s.size - i → ByteArray.toList.loop s i r = r.reverse ++ s.data.toList.drop i := by
    intro n
    induction n with
    | zero =>
      intro i r h
      rw [ByteArray.toList.loop, if_neg (by omega), List.drop_eq_nil_of_le (by simpa using (show s.size ≤ i by omega))]
      simp
    | succ n ih =>
      intro i r h
      have hi : i < s.size := by omega
      have hl : i < s.data.toList.length := by simpa using hi
      rw [ByteArray.toList.loop, if_pos hi, ih (i + 1) _ (by omega), List.drop_eq_getElem_cons hl, List.reverse_cons, List.append_assoc]
      congr 1
      simp only [List.singleton_append, List.cons.injEq, and_true]
      simp [ByteArray.get!, hi]
  show ByteArray.toList.loop s 0 [] = _
  simpa using go s.size 0 [] (by omega)
theorem empty_false {s : ByteArray} (h : 0 < s.size) : s.toList.isEmpty = false := by
 rw [list_data]
 cases q : s.data.toList with
 | nil => exact absurd (show s.size = 0 by have := congrArg List.length q; simpa using this) (by omega)
 | cons a r => rfl
theorem size_zero {s : ByteArray} (h : s.size = 0) : s = ⟨#[]⟩ := by
  cases s with
  | mk a =>
    have : a = #[] := Array.eq_empty_of_size_eq_zero h
    rw [this]
theorem areDig_yes (s : ByteArray) (hs : s.size ≤ 9223372036854775807) (hd : DG s) (w : World) :
 Calls Tryz.prog 103 #[.string s] w fun e w' => e = .returned (.bool true) ∧ w' = w := by
 have HD : Hid (DG s) := hd
 clear hd
 go_enter Tryz.func103, Tryz.ntmps103
 go_wp2
 go_loop [6] (fun i => ∃ k : Nat, k ≤ s.size ∧ i = .int .i64 k) (fun i => s.size - (intOf i).toNat)
 case atStart => exact ⟨0, Nat.zero_le _, rfl⟩
 case round =>
  obtain ⟨k, hk, rfl⟩ := hrel
  by_cases hlt : k < s.size
  · obtain ⟨v1, v2⟩ := HD.out k hlt
    have v1' : ¬ ((s[k]'hlt).toNat : Int) < 48 := by omega
    have v2' : ¬ (57 : Int) < ((s[k]'hlt).toNat : Int) := by omega
    go_wp2
    go_round
    case rel => exact ⟨k + 1, by omega, by go_num⟩
    case measure => simp [intOf]; omega
  · go_wp2
    go_ret
    exact ⟨rfl, rfl⟩
theorem dvalid_yes {s : ByteArray} {p : Int} {c : Bool} (h : VD s p c) (w : World) :
 Calls Tryz.prog 57 #[dcV s p c] w fun e w' => e = .returned .nilIface ∧ Below w.heap.size w w' := by
 unfold dcV
 rcases h with ⟨h1, rfl, rfl⟩ | h
 · obtain rfl := size_zero h1
   go_enter Tryz.func57, Tryz.ntmps57
   go_wp2
   go_ret
   exact ⟨rfl, (Below.refl _ _).alloc (Nat.le_refl _) _⟩
 · have p1 := h.pos
   have hE := empty_false p1
   have hl1 : s.size - 1 < s.size := by omega
   have AD := fun W => areDig_yes s (by have := h.len; omega) h.dg W
   have l1 := h.len
   have f1 : ((((s[0]'p1).toNat : Nat) : Int) == 48) = false := beq_eq_false_iff_ne.mpr (by have := h.first; omega)
   have n1 : ((s.size : Int) == 0) = false := beq_eq_false_iff_ne.mpr (by omega)
   have p2 := h.lo
   have p3 := h.hi
   have p2' : ¬ p < -1099511627776 := by omega
   have p3' : ¬ 1099511627776 < p := by omega
   have l2 : ¬ (800 : Int) < (s.size : Int) := by omega
   have ix : ((s.size : Int) - 1).toNat = s.size - 1 := by omega
   by_cases g1 : (s[s.size - 1]'hl1).toNat = 48
   · obtain rfl : c = true := h.last.resolve_left (fun q => q g1)
     have g2 : ((((s[s.size - 1]'hl1).toNat : Nat) : Int) == 48) = true := beq_iff_eq.mpr (by omega)
     clear h g1
     go_enter Tryz.func57, Tryz.ntmps57
     go_wp2_with fail
     refine (AD _).mono ?_
     rintro e w1 ⟨rfl, rfl⟩
     go_wp2
     go_ret
     exact ⟨rfl, (Below.refl _ _).alloc (Nat.le_refl _) _⟩
   · have g2 : ((((s[s.size - 1]'hl1).toNat : Nat) : Int) == 48) = false := beq_eq_false_iff_ne.mpr (by omega)
     clear h g1
     go_enter Tryz.func57, Tryz.ntmps57
     go_wp2_with fail
     refine (AD _).mono ?_
     rintro e w1 ⟨rfl, rfl⟩
     go_wp2
     go_ret
     exact ⟨rfl, (Below.refl _ _).alloc (Nat.le_refl _) _⟩
theorem rdig_yes (s : ByteArray) (hs : s.size ≤ 9223372036854775807) (hd : DG s) (w : World) :
 Calls Tryz.prog 83 #[.string s] w fun e w' => e = .returned (.bool true) ∧ w' = w := by
 have HD : Hid (DG s) := hd
 clear hd
 go_enter Tryz.func83, Tryz.ntmps83
 go_wp2
 go_loop [3] (fun i => ∃ k : Nat, k ≤ s.size ∧ i = .int .i64 k) (fun i => s.size - (intOf i).toNat)
 case atStart => exact ⟨0, Nat.zero_le _, rfl⟩
 case round =>
  obtain ⟨k, hk, rfl⟩ := hrel
  by_cases hlt : k < s.size
  · obtain ⟨v1, v2⟩ := HD.out k hlt
    have v1' : ¬ ((s[k]'hlt).toNat : Int) < 48 := by omega
    have v2' : ¬ (57 : Int) < ((s[k]'hlt).toNat : Int) := by omega
    go_wp2
    go_round
    case rel => exact ⟨k + 1, by omega, by go_num⟩
    case measure => simp [intOf]; omega
  · go_wp2
    go_ret
    exact ⟨rfl, rfl⟩
theorem rvald_yes {s : ByteArray} {p : Int} {c : Bool} (h : VD s p c) (w : World) :
 Calls Tryz.prog 41 #[dcV s p c] w fun e w' => e = .returned (.int .i64 0) ∧ Below w.heap.size w w' := by
 unfold dcV
 rcases h with ⟨h1, rfl, rfl⟩ | h
 · obtain rfl := size_zero h1
   go_enter Tryz.func41, Tryz.ntmps41
   go_wp2
   go_ret
   exact ⟨rfl, (Below.refl _ _).alloc (Nat.le_refl _) _⟩
 · have p1 := h.pos
   have hE := empty_false p1
   have hl1 : s.size - 1 < s.size := by omega
   have AD := fun W => rdig_yes s (by have := h.len; omega) h.dg W
   have l1 := h.len
   have f1 : ((((s[0]'p1).toNat : Nat) : Int) == 48) = false := beq_eq_false_iff_ne.mpr (by have := h.first; omega)
   have n1 : ((s.size : Int) == 0) = false := beq_eq_false_iff_ne.mpr (by omega)
   have p2 := h.lo
   have p3 := h.hi
   have p2' : ¬ p < -1099511627776 := by omega
   have p3' : ¬ 1099511627776 < p := by omega
   have l2 : ¬ (800 : Int) < (s.size : Int) := by omega
   have ix : ((s.size : Int) - 1).toNat = s.size - 1 := by omega
   by_cases g1 : (s[s.size - 1]'hl1).toNat = 48
   · obtain rfl : c = true := h.last.resolve_left (fun q => q g1)
     have g2 : ((((s[s.size - 1]'hl1).toNat : Nat) : Int) == 48) = true := beq_iff_eq.mpr (by omega)
     clear h g1
     go_enter Tryz.func41, Tryz.ntmps41
     go_wp2_with fail
     refine (AD _).mono ?_
     rintro e w1 ⟨rfl, rfl⟩
     go_wp2
     go_ret
     exact ⟨rfl, (Below.refl _ _).alloc (Nat.le_refl _) _⟩
   · have g2 : ((((s[s.size - 1]'hl1).toNat : Nat) : Int) == 48) = false := beq_eq_false_iff_ne.mpr (by omega)
     clear h g1
     go_enter Tryz.func41, Tryz.ntmps41
     go_wp2_with fail
     refine (AD _).mono ?_
     rintro e w1 ⟨rfl, rfl⟩
     go_wp2
     go_ret
     exact ⟨rfl, (Below.refl _ _).alloc (Nat.le_refl _) _⟩
end Go.Proofs.YtjagnfddmlkalaaGreatDoor
namespace Go.Proofs.YtjagnfddmlkalaaGreatDoor
open Go.RowKit Go.Extern.Stop Go.Stop Go.Extern
theorem as_hit2 (k : Int) (t : Addr) (old : Value) (w : World) (hg : ErrT w) (ht : w.cell? t = some old) (hf : w.frozen? t = false) :
 Calls Tryz.prog 20 #[.iface 42 (.int .i64 k), .iface 57 (.pointer (some t))] w fun ev w' => ev = .returned (.bool true) ∧ w'.cell? t = some (.int .i64 k) ∧ Below t.block w w' := by
 have htl : t.block < w.heap.size := by
  rcases Nat.lt_or_ge t.block w.heap.size with h | h
  · exact h
  · simp [World.cell?, Array.getElem?_eq_none h] at ht
 refine (as_hit k t old w hg ht hf).mono ?_
 rintro e w' ⟨rfl, rfl⟩
 refine ⟨rfl, ?_, ?_⟩
 · refine World.cell?_setCell_same (u := old) _ _ _ ?_
   rw [World.cell?_alloc_lt _ _ t (by simp; omega), World.cell?_alloc_lt _ _ t (by simp; omega), World.cell?_alloc_lt _ _ t (by simp; omega), World.cell?_alloc_lt _ _ t htl]; exact ht
 · refine Below.setCell ?_ (Nat.le_refl _) _
   exact ((((Below.refl _ _).alloc (Nat.le_of_lt htl) _).alloc (by simp; omega) _).alloc (by simp; omega) _).alloc (by simp; omega) _
theorem num_errno (k : Int) (w : World) (hg : ErrT w) : Calls Tryz.prog 7 #[.iface 42 (.int .i64 k)] w fun e w' => e = .returned (.int .i64 k) ∧ Below w.heap.size w w' := by
 have hg1 : ErrT (w.alloc (.cells #[.int .i64 0] 42)) := hg.below ((Below.refl _ _).alloc (Nat.le_refl _) _) hg.pos
 have c1 : (w.alloc (.cells #[.int .i64 0] 42)).cell? ⟨w.heap.size, 0, none⟩ = some (.int .i64 0) := by simp
 have f1 : (w.alloc (.cells #[.int .i64 0] 42)).frozen? ⟨w.heap.size, 0, none⟩ = false := World.frozen?_alloc_new _ _ _ _
 go_enter Tryz.func7, Tryz.ntmps7
 go_wp2_with (go_at_call 20; refine (as_hit2 k _ _ _ hg1 c1 f1).mono ?_; rintro e wa ⟨rfl, hca, hba⟩)
 go_ret
 exact ⟨rfl, ((Below.refl _ _).alloc (Nat.le_refl _) _).trans hba⟩
end Go.Proofs.YtjagnfddmlkalaaGreatDoor
