/-
  Holds: UUiE.
-/
import Derived.Test.YtejgpbhionadbaaGreatDoorRows
import Derived.Laws.Externs
import Derived.WalkKit
import Derived.WalkSpells
import Derived.WalkLawsBesides
import Derived.Lib.Mul64
import Derived.Stop.Asserts
import Derived.RowKitTokens
import Derived.Test.YtejgpbhionadbaaGreatDoorShelf
import Derived.Deep.LoopGhost
import Derived.Lib.BufferWrite
import Derived.Deep.OwnRows
import Derived.Test.YtejgpbhionadbaaGreatDoorXl1
import Derived.Test.YtejgpbhionadbaaGreatDoorXl37
set_option maxRecDepth 100000
set_option maxHeartbeats 4000000
namespace Go.Proofs.YtejgpbhionadbaaGreatDoor
open Go.RowKit Go.Extern.Stop Go.Stop Go.Extern
abbrev Lk:Type:=ByteArray × ByteArray
def Ch (w:World):List Lk -> Int -> Value -> Prop
 | [],n,v=>v=.iface 63 (vI n)
 | (c,t) :: ls,n,v=>∃ b e,v=.iface 57 (.pointer (some ⟨b,0,none⟩))/\w.heap[b]?=some (.cells #[.string c,.string t,e] 61 (0,0))/\Ch w ls n e
theorem kD {w:World}{b:Nat}{o:Obj}(h:w.heap[b]?=some o):b<w.heap.size:=by
 rcases Nat.lt_or_ge b w.heap.size with a | a
 . exact a
 . simp [Array.getElem?_eq_none a] at h
theorem Ch.below {w w':World}{B:Nat}(hb:Below B w w') (hB:w.heap.size<=B):∀ {ls:List Lk}{n:Int}{v:Value},Ch w ls n v -> Ch w' ls n v
 | [],_,_,h=>h
 | (_,_) :: _,_,_,⟨b,e,hv,hh,hc⟩=>⟨b,e,hv,(hb.block b (Nat.lt_of_lt_of_le (kD hh) hB)).trans hh,Ch.below hb hB hc⟩
theorem Ch.iface {w:World}:∀ {ls:List Lk}{n:Int}{v:Value},Ch w ls n v -> ∃ T x,v=.iface T x
 | [],_,_,h=>⟨_,_,h⟩
 | (_,_) :: _,_,_,⟨_,_,hv,_⟩=>⟨_,_,hv⟩
theorem uK (v:Value) (xT:TypeId) (w:World):(Instr.typeAssert (.iface 63 v) xT 126 true).run Tryz.prog w=.ok (.tuple #[.nilIface,.bool false]) w:=run_typeAssert_lacksB Tryz.underlying126 (by kernel_rfl) (by kernel_rfl) v xT w
theorem qR (v:Value) (xT:TypeId) (w:World):(Instr.typeAssert (.iface 63 v) xT 128 true).run Tryz.prog w=.ok (.tuple #[.nilIface,.bool false]) w:=run_typeAssert_lacksB Tryz.underlying128 (by kernel_rfl) (by kernel_rfl) v xT w
theorem qH (v:Value) (xT:TypeId) (w:World):(Instr.typeAssert (.iface 57 v) xT 126 true).run Tryz.prog w=.ok (.tuple #[.iface 57 v,.bool true]) w:=run_typeAssert_hasB Tryz.underlying126 (by kernel_rfl) v xT w
theorem lK (v : Value) (w : World) : (Go.method 492 57 v "Unwrap").run Tryz.prog w = .ok (303, v) w := by kernel_rfl
theorem aBU {c t:ByteArray}{e:Value}{b:Nat}{w:World}(hh:w.heap[b]?=some (.cells #[.string c,.string t,e] 61 (0,0))) :
 Cs 303 #[.pointer (some ⟨b,0,none⟩)] w e:=by
 have c2:w.cell? ⟨b,2,none⟩=some e:=by simp [World.cell?,hh]
 go_enter Tryz.func303,Tryz.ntmps303
 go_wp2
 go_ret
 exact ⟨rfl,rfl⟩
theorem aIc (v:Value) (w:World):(ReflectliteType.typeOf #[.iface 63 v]).run Tryz.prog w=.ok (.iface 119 (.agg #[.pointer (some ⟨8,63,none⟩)])) w:=by kernel_rfl
theorem aMg (v:Value) (xT:TypeId) (w:World):(Instr.typeAssert (.iface 63 v) xT 123 true).run Tryz.prog w=.ok (.tuple #[.nilIface,.bool false]) w:=run_typeAssert_lacksB Tryz.underlying123 (by kernel_rfl) (by kernel_rfl) v xT w
theorem aLZ (w : World) : (ReflectliteType.relation "AssignableTo" ReflectliteType.assignableTo #[.agg #[.pointer (some ⟨8, 63, none⟩)], .iface 119 (.agg #[.pointer (some ⟨8, 63, none⟩)])]).run Tryz.prog w = .ok (.bool true) w := by kernel_rfl
theorem aLY (w : World) : (ReflectliteType.relation "AssignableTo" ReflectliteType.assignableTo #[.agg #[.pointer (some ⟨8, 63, none⟩)], .iface 119 (.agg #[.pointer (some ⟨8, 57, none⟩)])]).run Tryz.prog w = .ok (.bool false) w := by kernel_rfl
theorem aIb (v:Value) (w:World):(ReflectliteType.typeOf #[.iface 57 v]).run Tryz.prog w=.ok (.iface 119 (.agg #[.pointer (some ⟨8,57,none⟩)])) w:=by kernel_rfl
theorem aMf (v:Value) (xT:TypeId) (w:World):(Instr.typeAssert (.iface 57 v) xT 123 true).run Tryz.prog w=.ok (.tuple #[.nilIface,.bool false]) w:=run_typeAssert_lacksB Tryz.underlying123 (by kernel_rfl) (by kernel_rfl) v xT w
theorem aLX (w : World) : (ReflectliteType.relation "AssignableTo" ReflectliteType.assignableTo #[.agg #[.pointer (some ⟨8, 57, none⟩)], .iface 119 (.agg #[.pointer (some ⟨8, 63, none⟩)])]).run Tryz.prog w = .ok (.bool false) w := by kernel_rfl
theorem aLW (w : World) : (ReflectliteType.relation "AssignableTo" ReflectliteType.assignableTo #[.agg #[.pointer (some ⟨8, 57, none⟩)], .iface 119 (.agg #[.pointer (some ⟨8, 57, none⟩)])]).run Tryz.prog w = .ok (.bool true) w := by kernel_rfl
theorem vH (t:Addr) (w:World):(ReflectliteValue.unpack (.iface 74 (.pointer (some t)))).run Tryz.prog w
 = .ok (.agg #[.pointer (some ⟨8,74,none⟩),.pointer (some ⟨w.heap.size,0,none⟩),vU 150]) (w.alloc (.cells #[.pointer (some t)] 74)):=by kernel_rfl
theorem wZ (a : Addr) (w : World) : (ReflectliteValue.methodAny (ReflectliteValue.valueError "reflectlite.Value.Type" 0) (fun t _ _ _ => ReflectliteType.toType t) #[.agg #[.pointer (some ⟨8, 74, none⟩), .pointer (some a), vU 150]]).run Tryz.prog w
 = .ok (.iface 119 (.agg #[.pointer (some ⟨8, 74, none⟩)])) w := by kernel_rfl
theorem wY (w:World):((ReflectliteType.abiMethod fun t=>Functor.map (fun a:Nat=>Value.int IntKind.u8 (a:Int)) (Rtype.kind t)) #[.pointer (some ⟨8,74,none⟩)]).run Tryz.prog w=.ok (.int .u8 22) w:=by kernel_rfl
theorem aB1 (w:World):((ReflectliteType.abiMethod fun t=>Functor.map (fun a:Nat=>Value.int IntKind.u8 (a:Int)) (Rtype.kind t)) #[.pointer (some ⟨8,63,none⟩)]).run Tryz.prog w=.ok (.int .u8 2) w:=by kernel_rfl
theorem vD (w:World):(ReflectliteType.method ReflectliteType.elem #[.agg #[.pointer (some ⟨8,74,none⟩)]]).run Tryz.prog w=.ok (.iface 119 (.agg #[.pointer (some ⟨8,63,none⟩)])) w:=by kernel_rfl
theorem rV (w : World) : (ReflectliteType.relation "Implements" ReflectliteType.implements_ #[.agg #[.pointer (some ⟨8, 63, none⟩)], .iface 119 (.agg #[.pointer (some ⟨8, 25, none⟩)])]).run Tryz.prog w = .ok (.bool true) w := by kernel_rfl
theorem aC7 (v:Value) (w:World) (k:Int) (hv:v=vI k):(ReflectliteValue.unpack (.iface 63 v)).run Tryz.prog w
 = .ok (.agg #[.pointer (some ⟨8,63,none⟩),.pointer (some ⟨w.heap.size,0,none⟩),vU 130]) (w.alloc (.cells #[v] 63)):=by subst hv;kernel_rfl
theorem lJ (a:Addr) (w:World):(ReflectliteValue.parts (.agg #[.pointer (some ⟨8,74,none⟩),.pointer (some a),vU 150])).run Tryz.prog w=.ok (some (74,a,150)) w:=by kernel_rfl
theorem aC6 (a p : Addr) (W : World) (ha : W.cell? a = some (.pointer (some p))) :
 (ReflectliteValue.method (ReflectliteValue.valueError "reflectlite.Value.IsNil" 0) ReflectliteValue.isNil #[.agg #[.pointer (some ⟨8, 74, none⟩), .pointer (some a), vU 150]]).run Tryz.prog W = .ok (.bool false) W := by
 rw [iP]
 simp only [Sem.run_bind, lJ, Result.andThen]
 simp [ReflectliteValue.isNil, loadVar, isAgg, underlying, Tryz.underlying74, ha, Result.andThen]
theorem aAN (w:World):(Rtype.elem? 74).run Tryz.prog w=.ok (some 63) w:=by kernel_rfl
theorem aKk (p:Addr) (w:World):(ReflectliteValue.mk 63 p ReflectliteValue.flagAddr).run Tryz.prog w=.ok (.agg #[.pointer (some ⟨8,63,none⟩),.pointer (some p),vU 386]) w:=by kernel_rfl
theorem aF1 (a p : Addr) (W : World) (ha : W.cell? a = some (.pointer (some p))) :
 (ReflectliteValue.method (ReflectliteValue.valueError "reflectlite.Value.Elem" 0) ReflectliteValue.elem #[.agg #[.pointer (some ⟨8, 74, none⟩), .pointer (some a), vU 150]]).run Tryz.prog W
  = .ok (.agg #[.pointer (some ⟨8, 63, none⟩), .pointer (some p), vU 386]) W := by
 rw [iP]
 simp only [Sem.run_bind, lJ, Result.andThen]
 simp [ReflectliteValue.elem, loadVar, isAgg, underlying, Tryz.underlying74, ha, Result.andThen, aAN, aKk]
theorem vF (a:Addr) (w:World):(ReflectliteValue.parts (.agg #[.pointer (some ⟨8,63,none⟩),.pointer (some a),vU 386])).run Tryz.prog w=.ok (some (63,a,386)) w:=by kernel_rfl
theorem vG (a:Addr) (w:World):(ReflectliteValue.parts (.agg #[.pointer (some ⟨8,63,none⟩),.pointer (some a),vU 130])).run Tryz.prog w=.ok (some (63,a,130)) w:=by kernel_rfl
theorem aB0 (w:World):(Rtype.directlyAssignable 63 63).run Tryz.prog w=.ok true w:=by kernel_rfl
theorem aIg (ta b:Addr) (u old:Value) (k:Int) (hu:u=vI k) (W:World) (hb:W.cell? b=some u) (ht:W.cell? ta=some old) (hf:W.frozen? ta=false) :
 (ReflectliteValue.set #[.agg #[.pointer (some ⟨8,63,none⟩),.pointer (some ta),vU 386],.agg #[.pointer (some ⟨8,63,none⟩),.pointer (some b),vU 130]]).run Tryz.prog W
  = .ok (.tuple #[]) (W.setCell ta u):=by
 subst hu
 refine Eq.trans (Sem.run_bind _ _ (ReflectliteValue.parts (.agg #[.pointer (some ⟨8,63,none⟩),.pointer (some ta),vU 386])) _) ?_
 simp only [vF,Result.andThen]
 refine Eq.trans (Sem.run_bind _ _ (ReflectliteValue.parts (.agg #[.pointer (some ⟨8,63,none⟩),.pointer (some b),vU 130])) _) ?_
 simp only [vG,Result.andThen]
 simp [ReflectliteValue.flagAddr,loadVar,isAgg,underlying,Tryz.underlying63,hb,Result.andThen,aB0,storeVar,Value.cells,storeCells,Addr.add]
 rw [run_store Tryz.prog W ta _ _ (by rfl)]
 simp [ht,hf]
theorem vC (t:Addr) (w:World):(ReflectliteValue.unpack (.iface 59 (.pointer (some t)))).run Tryz.prog w
 = .ok (.agg #[.pointer (some ⟨8,59,none⟩),.pointer (some ⟨w.heap.size,0,none⟩),vU 150]) (w.alloc (.cells #[.pointer (some t)] 59)):=by kernel_rfl
theorem wX (a : Addr) (w : World) : (ReflectliteValue.methodAny (ReflectliteValue.valueError "reflectlite.Value.Type" 0) (fun t _ _ _ => ReflectliteType.toType t) #[.agg #[.pointer (some ⟨8, 59, none⟩), .pointer (some a), vU 150]]).run Tryz.prog w
 = .ok (.iface 119 (.agg #[.pointer (some ⟨8, 59, none⟩)])) w := by kernel_rfl
theorem wW (w:World):((ReflectliteType.abiMethod fun t=>Functor.map (fun a:Nat=>Value.int IntKind.u8 (a:Int)) (Rtype.kind t)) #[.pointer (some ⟨8,59,none⟩)]).run Tryz.prog w=.ok (.int .u8 22) w:=by kernel_rfl
theorem aBZ (w:World):((ReflectliteType.abiMethod fun t=>Functor.map (fun a:Nat=>Value.int IntKind.u8 (a:Int)) (Rtype.kind t)) #[.pointer (some ⟨8,57,none⟩)]).run Tryz.prog w=.ok (.int .u8 22) w:=by kernel_rfl
theorem uY (w:World):(ReflectliteType.method ReflectliteType.elem #[.agg #[.pointer (some ⟨8,59,none⟩)]]).run Tryz.prog w=.ok (.iface 119 (.agg #[.pointer (some ⟨8,57,none⟩)])) w:=by kernel_rfl
theorem rT (w : World) : (ReflectliteType.relation "Implements" ReflectliteType.implements_ #[.agg #[.pointer (some ⟨8, 57, none⟩)], .iface 119 (.agg #[.pointer (some ⟨8, 25, none⟩)])]).run Tryz.prog w = .ok (.bool true) w := by kernel_rfl
theorem aC5 (v:Value) (w:World) (q:Option Addr) (hv:v=.pointer q):(ReflectliteValue.unpack (.iface 57 v)).run Tryz.prog w
 = .ok (.agg #[.pointer (some ⟨8,57,none⟩),.pointer (some ⟨w.heap.size,0,none⟩),vU 150]) (w.alloc (.cells #[v] 57)):=by subst hv;kernel_rfl
theorem lI (a:Addr) (w:World):(ReflectliteValue.parts (.agg #[.pointer (some ⟨8,59,none⟩),.pointer (some a),vU 150])).run Tryz.prog w=.ok (some (59,a,150)) w:=by kernel_rfl
theorem aC4 (a p : Addr) (W : World) (ha : W.cell? a = some (.pointer (some p))) :
 (ReflectliteValue.method (ReflectliteValue.valueError "reflectlite.Value.IsNil" 0) ReflectliteValue.isNil #[.agg #[.pointer (some ⟨8, 59, none⟩), .pointer (some a), vU 150]]).run Tryz.prog W = .ok (.bool false) W := by
 rw [iP]
 simp only [Sem.run_bind, lI, Result.andThen]
 simp [ReflectliteValue.isNil, loadVar, isAgg, underlying, Tryz.underlying59, ha, Result.andThen]
theorem aAM (w:World):(Rtype.elem? 59).run Tryz.prog w=.ok (some 57) w:=by kernel_rfl
theorem aKi (p:Addr) (w:World):(ReflectliteValue.mk 57 p ReflectliteValue.flagAddr).run Tryz.prog w=.ok (.agg #[.pointer (some ⟨8,57,none⟩),.pointer (some p),vU 406]) w:=by kernel_rfl
theorem aF0 (a p : Addr) (W : World) (ha : W.cell? a = some (.pointer (some p))) :
 (ReflectliteValue.method (ReflectliteValue.valueError "reflectlite.Value.Elem" 0) ReflectliteValue.elem #[.agg #[.pointer (some ⟨8, 59, none⟩), .pointer (some a), vU 150]]).run Tryz.prog W
  = .ok (.agg #[.pointer (some ⟨8, 57, none⟩), .pointer (some p), vU 406]) W := by
 rw [iP]
 simp only [Sem.run_bind, lI, Result.andThen]
 simp [ReflectliteValue.elem, loadVar, isAgg, underlying, Tryz.underlying59, ha, Result.andThen, aAM, aKi]
theorem uZ (a:Addr) (w:World):(ReflectliteValue.parts (.agg #[.pointer (some ⟨8,57,none⟩),.pointer (some a),vU 406])).run Tryz.prog w=.ok (some (57,a,406)) w:=by kernel_rfl
theorem vA (a:Addr) (w:World):(ReflectliteValue.parts (.agg #[.pointer (some ⟨8,57,none⟩),.pointer (some a),vU 150])).run Tryz.prog w=.ok (some (57,a,150)) w:=by kernel_rfl
theorem aBY (w:World):(Rtype.directlyAssignable 57 57).run Tryz.prog w=.ok true w:=by kernel_rfl
theorem aIf (ta b:Addr) (u old:Value) (q:Option Addr) (hu:u=.pointer q) (W:World) (hb:W.cell? b=some u) (ht:W.cell? ta=some old) (hf:W.frozen? ta=false) :
 (ReflectliteValue.set #[.agg #[.pointer (some ⟨8,57,none⟩),.pointer (some ta),vU 406],.agg #[.pointer (some ⟨8,57,none⟩),.pointer (some b),vU 150]]).run Tryz.prog W
  = .ok (.tuple #[]) (W.setCell ta u):=by
 subst hu
 refine Eq.trans (Sem.run_bind _ _ (ReflectliteValue.parts (.agg #[.pointer (some ⟨8,57,none⟩),.pointer (some ta),vU 406])) _) ?_
 simp only [uZ,Result.andThen]
 refine Eq.trans (Sem.run_bind _ _ (ReflectliteValue.parts (.agg #[.pointer (some ⟨8,57,none⟩),.pointer (some b),vU 150])) _) ?_
 simp only [vA,Result.andThen]
 simp [ReflectliteValue.flagAddr,loadVar,isAgg,underlying,Tryz.underlying57,hb,Result.andThen,aBY,storeVar,Value.cells,storeCells,Addr.add]
 rw [run_store Tryz.prog W ta _ _ (by rfl)]
 simp [ht,hf]
def sE:List Lk -> Option (ByteArray × ByteArray)
 | []=>none
 | (c,t) :: _=>some (c,t)
def aKa (ls:List Lk) (w0 w w':World) (t:Addr) (e:Ending):Prop:=(sE ls=none/\e=.returned (.bool false)/\Bl w w') \/ (∃ c x b y,sE ls=some (c,x)/\e=.returned (.bool true)/\w'.cell? t=some (.pointer (some ⟨b,0,none⟩))/\w0.heap[b]?=some (.cells #[.string c,.string x,y] 61 (0,0))/\Below t.block w w')
theorem dX {w:World}{t:Addr}{u:Value}(h:w.cell? t=some u) (o p:Obj):((w.alloc o).alloc p).cell? t=some u:=by
 have hl:t.block<w.heap.size:=by
  rcases Nat.lt_or_ge t.block w.heap.size with h' | h'
  . exact h'
  . simp [World.cell?,Array.getElem?_eq_none h'] at h
 rw [World.cell?_alloc_lt _ _ t (by rw [World.size_alloc];omega),World.cell?_alloc_lt _ _ t hl];exact h
theorem xI {w:World}{t:Addr}{u:Value}(h:w.cell? t=some u) (o:Obj):(w.alloc o).cell? t=some u:=by
 have hl:t.block<w.heap.size:=by
  rcases Nat.lt_or_ge t.block w.heap.size with h' | h'
  . exact h'
  . simp [World.cell?,Array.getElem?_eq_none h'] at h
 rw [World.cell?_alloc_lt _ _ t hl];exact h
theorem pW {w:World}{t:Addr}{u:Value}(h:w.cell? t=some u):t.block<w.heap.size:=by
 rcases Nat.lt_or_ge t.block w.heap.size with h' | h'
 . exact h'
 . simp [World.cell?,Array.getElem?_eq_none h'] at h
theorem kB {w:World}{t:Addr}{u:Value}(h:w.cell? t=some u) (hf:w.frozen? t=false) (o p:Obj):((w.alloc o).alloc p).frozen? t=false:=by
 have hl:=pW h
 rw [World.frozen?_alloc_old _ _ t (by rw [World.size_alloc];omega),World.frozen?_alloc_old _ _ t (Nat.ne_of_lt hl)];exact hf
theorem aBd {w:World}{t:Addr}{u:Value}(h:w.cell? t=some u) (o p:Obj) (x:Value):Below t.block w (((w.alloc o).alloc p).setCell t x):=by
 have hl:=pW h
 exact Below.setCell (((Below.refl _ _).alloc (Nat.le_of_lt hl) _).alloc (by rw [World.size_alloc];omega) _) (Nat.le_refl _) _
theorem xH {w:World}{t:Addr}{u:Value}(h:w.cell? t=some u) (o p:Obj) (x:Value):(((w.alloc o).alloc p).setCell t x).cell? t=some x :=
 World.cell?_setCell_same (u:=u) _ _ _ (dX h o p)
theorem aKj    {ls : List Lk} {n : Int} {v : Value} {w0 w : World} (h : Ch w0 ls n v) (hw : Below w0.heap.size w0 w) {t a : Addr} {old : Value} (ha : w.cell? a = some (.pointer (some t))) (ht : w.cell? t = some old) (hf : w.frozen? t = false) :
    Calls Tryz.prog 39 #[v, .iface 74 (.pointer (some t)), .agg #[.pointer (some ⟨8, 74, none⟩), .pointer (some a), .int .u64 150], .iface 119 (.agg #[.pointer (some ⟨8, 63, none⟩)])] w fun e w' => e = .returned (.bool true) ∧ w'.cell? t = some (.int .i64 n) ∧ Below t.block w w' := by
  have h6 := @run_callFunc_extern Tryz.prog 36 _ (fun args => ReflectliteValue.unpack (args.getD 0 (.tuple #[]))) Tryz.func36 (by kernel_rfl) (by kernel_rfl) (by kernel_rfl) (by kernel_rfl)
  have h10 := @run_callFunc_extern Tryz.prog 40 _ ReflectliteType.typeOf Tryz.func40 (by kernel_rfl) (by kernel_rfl) (by kernel_rfl) (by kernel_rfl)
  have h35 := @run_callFunc_extern Tryz.prog 309 _ (ReflectliteType.relation "AssignableTo" ReflectliteType.assignableTo) Tryz.func309 (by kernel_rfl) (by kernel_rfl) (by kernel_rfl) (by kernel_rfl)
  have h11 := @run_callFunc_extern Tryz.prog 63 _ (ReflectliteValue.method (ReflectliteValue.valueError "reflectlite.Value.Elem" 0) ReflectliteValue.elem) Tryz.func63 (by kernel_rfl) (by kernel_rfl) (by kernel_rfl) (by kernel_rfl)
  have h12 := @run_callFunc_extern Tryz.prog 64 _ ReflectliteValue.set Tryz.func64 (by kernel_rfl) (by kernel_rfl) (by kernel_rfl) (by kernel_rfl)
  have mA := oO
  obtain ⟨W1, hW1⟩ : ∃ W, W = w.alloc (.cells #[.pointer (some ⟨8, 74, none⟩), .pointer (some a), .int .u64 150] 86) := ⟨_, rfl⟩
  have el := aF1      a t W1 (by rw [hW1]; exact xI       ha _)
  have r0 : W1.cell? ⟨w.heap.size, 0, none⟩ = some (.pointer (some ⟨8, 74, none⟩)) := by rw [hW1]; simp
  have r1 : W1.cell? ⟨w.heap.size, 1, none⟩ = some (.pointer (some a)) := by rw [hW1]; simp
  have r2 : W1.cell? ⟨w.heap.size, 2, none⟩ = some (.int .u64 150) := by rw [hW1]; simp
  have HC2 : Hid ((∀ o, (W1.alloc o).cell? t = some old) ∧ (∀ o, (W1.alloc o).frozen? t = false)) := by rw [hW1]; exact ⟨fun o => dX       ht _ o, fun o => kB       ht hf _ o⟩
  have HK : Hid (∀ {o : Obj} (u : Value), ((W1.alloc o).setCell t u).cell? t = some u) := by rw [hW1]; exact fun u => xH       ht _ _ u
  have HBE : Hid (∀ {o : Obj} (u : Value), Below t.block w ((W1.alloc o).setCell t u)) := by rw [hW1]; exact fun u => aBd     ht _ _ u
  have HBL : Hid (Below w.heap.size w W1) := by rw [hW1]; exact (Below.refl _ _).alloc (Nat.le_refl _) _
  have HHp : Hid (∀ b, b < w0.heap.size → W1.heap[b]? = w0.heap[b]?) := fun b hb => (HBL.out.block b (Nat.lt_of_lt_of_le hb hw.size)).trans (hw.block b hb)
  go_enter Tryz.func39, Tryz.ntmps39
  go_wp2
  rw [← hW1]
  clear hW1
  go_loopg [0] ls.length (fun gk v wr => wr = W1 ∧ ∃ ls' : List Lk, ls'.length = gk ∧ Ch w0 ls' n v)
  case atStart => exact ⟨rfl, ls, rfl, h⟩
  case round =>
    clear h
    obtain ⟨hwr, ls', rfl, h⟩ := hrel
    have hwr' := hwr.symm
    subst hwr'
    cases ls' with
    | nil =>
      have h' : _ = _ := h
      subst h'
      have tO := aIc
      have aT := aLZ
      have vV := aC7       (.int .i64 n) W1 _ rfl
      have sT := aIg     t ⟨W1.heap.size, 0, none⟩ (.int .i64 n) old _ rfl (W1.alloc (.cells #[.int .i64 n] 63)) (by simp) (HC2.out.1 _) (HC2.out.2 _)
      go_wp2
      go_ret
      exact ⟨rfl, HK.out _, HBE.out _⟩
    | cons k ls' =>
        obtain ⟨c, x⟩ := k
        obtain ⟨b, y, rfl, hh, hc⟩ := h
        obtain ⟨T, z, rfl⟩ := hc.iface
        have tO := aIb
        have aT := aLX
        have nA := aMf
        have uW := qH
        have mU := lK
        have U := aBU     (w := W1) ((HHp.out b (kD         hh)).trans hh)
        go_wp2_with fail
        refine U.mono ?_
        rintro e wx ⟨rfl, hwx⟩
        subst hwx
        go_wp2
        go_roundg ls'.length
        case measure => simp
        case rel => exact ⟨rfl, ls', rfl, hc⟩
theorem aKh    {ls : List Lk} {n : Int} {v : Value} {w0 w : World} (h : Ch w0 ls n v) (hw : Below w0.heap.size w0 w) {t a : Addr} {old : Value} (ha : w.cell? a = some (.pointer (some t))) (ht : w.cell? t = some old) (hf : w.frozen? t = false) :
    Calls Tryz.prog 39 #[v, .iface 59 (.pointer (some t)), .agg #[.pointer (some ⟨8, 59, none⟩), .pointer (some a), .int .u64 150], .iface 119 (.agg #[.pointer (some ⟨8, 57, none⟩)])] w fun e w' => aKa  ls w0 w w' t e := by
  have h6 := @run_callFunc_extern Tryz.prog 36 _ (fun args => ReflectliteValue.unpack (args.getD 0 (.tuple #[]))) Tryz.func36 (by kernel_rfl) (by kernel_rfl) (by kernel_rfl) (by kernel_rfl)
  have h10 := @run_callFunc_extern Tryz.prog 40 _ ReflectliteType.typeOf Tryz.func40 (by kernel_rfl) (by kernel_rfl) (by kernel_rfl) (by kernel_rfl)
  have h35 := @run_callFunc_extern Tryz.prog 309 _ (ReflectliteType.relation "AssignableTo" ReflectliteType.assignableTo) Tryz.func309 (by kernel_rfl) (by kernel_rfl) (by kernel_rfl) (by kernel_rfl)
  have h11 := @run_callFunc_extern Tryz.prog 63 _ (ReflectliteValue.method (ReflectliteValue.valueError "reflectlite.Value.Elem" 0) ReflectliteValue.elem) Tryz.func63 (by kernel_rfl) (by kernel_rfl) (by kernel_rfl) (by kernel_rfl)
  have h12 := @run_callFunc_extern Tryz.prog 64 _ ReflectliteValue.set Tryz.func64 (by kernel_rfl) (by kernel_rfl) (by kernel_rfl) (by kernel_rfl)
  have mA := oO
  obtain ⟨W1, hW1⟩ : ∃ W, W = w.alloc (.cells #[.pointer (some ⟨8, 59, none⟩), .pointer (some a), .int .u64 150] 86) := ⟨_, rfl⟩
  have el := aF0      a t W1 (by rw [hW1]; exact xI       ha _)
  have r0 : W1.cell? ⟨w.heap.size, 0, none⟩ = some (.pointer (some ⟨8, 59, none⟩)) := by rw [hW1]; simp
  have r1 : W1.cell? ⟨w.heap.size, 1, none⟩ = some (.pointer (some a)) := by rw [hW1]; simp
  have r2 : W1.cell? ⟨w.heap.size, 2, none⟩ = some (.int .u64 150) := by rw [hW1]; simp
  have HC2 : Hid ((∀ o, (W1.alloc o).cell? t = some old) ∧ (∀ o, (W1.alloc o).frozen? t = false)) := by rw [hW1]; exact ⟨fun o => dX       ht _ o, fun o => kB       ht hf _ o⟩
  have HK : Hid (∀ {o : Obj} (u : Value), ((W1.alloc o).setCell t u).cell? t = some u) := by rw [hW1]; exact fun u => xH       ht _ _ u
  have HBE : Hid (∀ {o : Obj} (u : Value), Below t.block w ((W1.alloc o).setCell t u)) := by rw [hW1]; exact fun u => aBd     ht _ _ u
  have HBL : Hid (Below w.heap.size w W1) := by rw [hW1]; exact (Below.refl _ _).alloc (Nat.le_refl _) _
  have HHp : Hid (∀ b, b < w0.heap.size → W1.heap[b]? = w0.heap[b]?) := fun b hb => (HBL.out.block b (Nat.lt_of_lt_of_le hb hw.size)).trans (hw.block b hb)
  go_enter Tryz.func39, Tryz.ntmps39
  go_wp2
  rw [← hW1]
  clear hW1
  go_loopg [0] ls.length (fun gk v wr => wr = W1 ∧ ∃ ls' : List Lk, ls'.length = gk ∧ Ch w0 ls' n v ∧ Hid (sE   ls' = sE   ls))
  case atStart => exact ⟨rfl, ls, rfl, h, rfl⟩
  case round =>
    clear h
    obtain ⟨hwr, ls', rfl, h, HI⟩ := hrel
    have hwr' := hwr.symm
    subst hwr'
    cases ls' with
    | nil =>
      have h' : _ = _ := h
      subst h'
      have tO := aIc
      have aT := aLY
      have nA := aMg
      have uN := uK
      have vN := qR
      go_wp2
      go_ret
      exact Or.inl ⟨HI.out.symm, rfl, HBL.out⟩
    | cons k ls' =>
        obtain ⟨c, x⟩ := k
        obtain ⟨b, y, rfl, hh, hc⟩ := h
        have tO := aIb
        have aT := aLW
        have vV := aC5       (.pointer (some ⟨b, 0, none⟩)) W1 _ rfl
        have sT := aIf     t ⟨W1.heap.size, 0, none⟩ (.pointer (some ⟨b, 0, none⟩)) old _ rfl (W1.alloc (.cells #[.pointer (some ⟨b, 0, none⟩)] 57)) (by simp) (HC2.out.1 _) (HC2.out.2 _)
        go_wp2
        go_ret
        exact Or.inr ⟨c, x, b, y, HI.out.symm, rfl, HK.out _, hh, HBE.out _⟩
theorem aJ7 {ls : List Lk} {n : Int} {v : Value} {w0 w : World} (h : Ch w0 ls n v) (hw : Below w0.heap.size w0 w) {t : Addr} {old : Value} (hg : ErrT w) (ht : w.cell? t = some old) (hf : w.frozen? t = false) :
 Calls Tryz.prog 22 #[v, .iface 74 (.pointer (some t))] w fun e w' => e = .returned (.bool true) /\ w'.cell? t = some (vI n) /\ Below t.block w w' := by
 have hlt := hg.pos
 have hl := pW ht
 obtain ⟨TT, yy, rfl⟩ := h.iface
 have h6 := @run_callFunc_extern Tryz.prog 36 _ (fun args => ReflectliteValue.unpack (args.getD 0 (.tuple #[]))) Tryz.func36 (by kernel_rfl) (by kernel_rfl) (by kernel_rfl) (by kernel_rfl)
 have h7 := @run_callFunc_extern Tryz.prog 37 _ (ReflectliteValue.methodAny (ReflectliteValue.valueError "reflectlite.Value.Type" 0) (fun t _ _ _ => ReflectliteType.toType t)) Tryz.func37 (by kernel_rfl) (by kernel_rfl) (by kernel_rfl) (by kernel_rfl)
 have h8 := @run_callFunc_extern Tryz.prog 38 _ (ReflectliteValue.method (ReflectliteValue.valueError "reflectlite.Value.IsNil" 0) ReflectliteValue.isNil) Tryz.func38 (by kernel_rfl) (by kernel_rfl) (by kernel_rfl) (by kernel_rfl)
 have h27 := @run_callFunc_extern Tryz.prog 299 _ (ReflectliteType.abiMethod fun t => do pure (.int .u8 (<- Rtype.kind t))) Tryz.func299 (by kernel_rfl) (by kernel_rfl) (by kernel_rfl) (by kernel_rfl)
 have h37 := @run_callFunc_extern Tryz.prog 311 _ (ReflectliteType.method ReflectliteType.elem) Tryz.func311 (by kernel_rfl) (by kernel_rfl) (by kernel_rfl) (by kernel_rfl)
 have h38 := @run_callFunc_extern Tryz.prog 312 _ (ReflectliteType.relation "Implements" ReflectliteType.implements_) Tryz.func312 (by kernel_rfl) (by kernel_rfl) (by kernel_rfl) (by kernel_rfl)
 have f6 := vH
 have f7 := wZ
 have mK := tK
 have mE := tI
 have mI := tJ
 have k27 := wY
 have k25 := aB1
 have e27 := vD
 have i25 := rV
 have n8 := aC6 ⟨w.heap.size, 0, none⟩ t ((w.alloc (.cells #[.pointer (some t)] 74)).alloc (.cells #[.pointer (some ⟨8, 74, none⟩), .pointer (some ⟨w.heap.size, 0, none⟩), vU 150] 86)) (by simp)
 have hg2 : ((w.alloc (.cells #[.pointer (some t)] 74)).alloc (.cells #[.pointer (some ⟨8, 74, none⟩), .pointer (some ⟨w.heap.size, 0, none⟩), vU 150] 86)).cell? ⟨0, 0, none⟩ = some (.iface 119 (.agg #[.pointer (some ⟨8, 25, none⟩)])) := by
  unfold ErrT at hg
  exact dX hg _ _
 have HBW : Hid (Below w.heap.size w ((w.alloc (.cells #[.pointer (some t)] 74)).alloc (.cells #[.pointer (some ⟨8, 74, none⟩), .pointer (some ⟨w.heap.size, 0, none⟩), vU 150] 86))) := ((Below.refl _ _).alloc (Nat.le_refl _) _).alloc (by simp) _
 have AS := aKj (w := ((w.alloc (.cells #[.pointer (some t)] 74)).alloc (.cells #[.pointer (some ⟨8, 74, none⟩), .pointer (some ⟨w.heap.size, 0, none⟩), vU 150] 86))) h (hw.trans (HBW.out.mono hw.size)) (t := t) (a := ⟨w.heap.size, 0, none⟩) (old := old) (by rw [World.cell?_alloc_lt _ _ ⟨w.heap.size, 0, none⟩ (by simp)]; simp) (dX ht _ _) (kB ht hf _ _)
 have HTL : Hid (t.block < w.heap.size) := hl
 clear hg h hl hf
 go_enter Tryz.func22, Tryz.ntmps22
 go_wp2_with fail
 refine AS.mono ?_
 rintro e w' ⟨rfl, hc, hb⟩
 have HB : Hid (w'.cell? t = some (vI n) /\ Below t.block w w') := ⟨hc, (HBW.out.mono (Nat.le_of_lt HTL.out)).trans hb⟩
 clear hc hb
 go_wp2
 go_ret
 exact ⟨rfl, HB.out.1, HB.out.2⟩
theorem aJ6 {ls : List Lk} {n : Int} {v : Value} {w0 w : World} (h : Ch w0 ls n v) (hw : Below w0.heap.size w0 w) {t : Addr} {old : Value} (hg : ErrT w) (ht : w.cell? t = some old) (hf : w.frozen? t = false) :
 Calls Tryz.prog 22 #[v, .iface 59 (.pointer (some t))] w fun e w' => aKa ls w0 w w' t e := by
 have hlt := hg.pos
 have hl := pW ht
 obtain ⟨TT, yy, rfl⟩ := h.iface
 have h6 := @run_callFunc_extern Tryz.prog 36 _ (fun args => ReflectliteValue.unpack (args.getD 0 (.tuple #[]))) Tryz.func36 (by kernel_rfl) (by kernel_rfl) (by kernel_rfl) (by kernel_rfl)
 have h7 := @run_callFunc_extern Tryz.prog 37 _ (ReflectliteValue.methodAny (ReflectliteValue.valueError "reflectlite.Value.Type" 0) (fun t _ _ _ => ReflectliteType.toType t)) Tryz.func37 (by kernel_rfl) (by kernel_rfl) (by kernel_rfl) (by kernel_rfl)
 have h8 := @run_callFunc_extern Tryz.prog 38 _ (ReflectliteValue.method (ReflectliteValue.valueError "reflectlite.Value.IsNil" 0) ReflectliteValue.isNil) Tryz.func38 (by kernel_rfl) (by kernel_rfl) (by kernel_rfl) (by kernel_rfl)
 have h27 := @run_callFunc_extern Tryz.prog 299 _ (ReflectliteType.abiMethod fun t => do pure (.int .u8 (<- Rtype.kind t))) Tryz.func299 (by kernel_rfl) (by kernel_rfl) (by kernel_rfl) (by kernel_rfl)
 have h37 := @run_callFunc_extern Tryz.prog 311 _ (ReflectliteType.method ReflectliteType.elem) Tryz.func311 (by kernel_rfl) (by kernel_rfl) (by kernel_rfl) (by kernel_rfl)
 have h38 := @run_callFunc_extern Tryz.prog 312 _ (ReflectliteType.relation "Implements" ReflectliteType.implements_) Tryz.func312 (by kernel_rfl) (by kernel_rfl) (by kernel_rfl) (by kernel_rfl)
 have f6 := vC
 have f7 := wX
 have mK := tK
 have mE := tI
 have mI := tJ
 have k27 := wW
 have k25 := aBZ
 have e27 := uY
 have i25 := rT
 have n8 := aC4 ⟨w.heap.size, 0, none⟩ t ((w.alloc (.cells #[.pointer (some t)] 59)).alloc (.cells #[.pointer (some ⟨8, 59, none⟩), .pointer (some ⟨w.heap.size, 0, none⟩), vU 150] 86)) (by simp)
 have hg2 : ((w.alloc (.cells #[.pointer (some t)] 59)).alloc (.cells #[.pointer (some ⟨8, 59, none⟩), .pointer (some ⟨w.heap.size, 0, none⟩), vU 150] 86)).cell? ⟨0, 0, none⟩ = some (.iface 119 (.agg #[.pointer (some ⟨8, 25, none⟩)])) := by
  unfold ErrT at hg
  exact dX hg _ _
 have HBW : Hid (Below w.heap.size w ((w.alloc (.cells #[.pointer (some t)] 59)).alloc (.cells #[.pointer (some ⟨8, 59, none⟩), .pointer (some ⟨w.heap.size, 0, none⟩), vU 150] 86))) := ((Below.refl _ _).alloc (Nat.le_refl _) _).alloc (by simp) _
 have AS := aKh (w := ((w.alloc (.cells #[.pointer (some t)] 59)).alloc (.cells #[.pointer (some ⟨8, 59, none⟩), .pointer (some ⟨w.heap.size, 0, none⟩), vU 150] 86))) h (hw.trans (HBW.out.mono hw.size)) (t := t) (a := ⟨w.heap.size, 0, none⟩) (old := old) (by rw [World.cell?_alloc_lt _ _ ⟨w.heap.size, 0, none⟩ (by simp)]; simp) (dX ht _ _) (kB ht hf _ _)
 have HTL : Hid (t.block < w.heap.size) := hl
 clear hg h hl hf
 go_enter Tryz.func22, Tryz.ntmps22
 go_wp2_with fail
 refine AS.mono ?_
 rintro e w' hr
 rcases hr with ⟨a1, rfl, a3⟩ | ⟨c, x, b, y, a1, rfl, a3, a4, a5⟩
 . have HB : Hid (sE ls = none /\ Below w.heap.size w w') := ⟨a1, HBW.out.trans (a3.mono HBW.out.size)⟩
   clear a1 a3
   go_wp2
   go_ret
   exact Or.inl ⟨HB.out.1, rfl, HB.out.2⟩
 . have HB : Hid ((sE ls = some (c, x) /\ w'.cell? t = some (.pointer (some ⟨b, 0, none⟩)) /\ w0.heap[b]? = some (.cells #[.string c, .string x, y] 61 (0, 0))) /\ Below t.block w w') := ⟨⟨a1, a3, a4⟩, (HBW.out.mono (Nat.le_of_lt HTL.out)).trans a5⟩
   clear a1 a3 a4 a5
   go_wp2
   go_ret
   exact Or.inr ⟨c, x, b, y, HB.out.1.1, rfl, HB.out.1.2.1, HB.out.1.2.2, HB.out.2⟩
theorem aGH (v:Value) (w:World):(ReflectliteType.typeOf #[.iface 63 v]).run Tryz.prog w=.ok (.iface 119 (.agg #[.pointer (some ⟨8,63,none⟩)])) w:=by kernel_rfl
theorem yQ (w:World):(callFunc 310 #[.agg #[.pointer (some ⟨8,63,none⟩)]]).run Tryz.prog w=.ok (.value (.bool true)) w:=by kernel_rfl
theorem mB (v : Value) (w : World) : (Go.method 492 119 v "Comparable").run Tryz.prog w = .ok (310, v) w := by kernel_rfl
theorem aMi (v:Value) (xT:TypeId) (w:World):(Instr.typeAssert (.iface 63 v) xT 131 true).run Tryz.prog w=.ok (.tuple #[.nilIface,.bool false]) w:=run_typeAssert_lacksB Tryz.underlying131 (by kernel_rfl) (by kernel_rfl) v xT w
theorem aMh (v:Value) (xT:TypeId) (w:World):(Instr.typeAssert (.iface 57 v) xT 131 true).run Tryz.prog w=.ok (.tuple #[.nilIface,.bool false]) w:=run_typeAssert_lacksB Tryz.underlying131 (by kernel_rfl) (by kernel_rfl) v xT w
theorem aDN (n m:Int) (w:World):(binOp .eql 25 (.iface 63 (vI n)) (.iface 63 (vI m))).run Tryz.prog w=.ok (.bool (n == m)) w:=by kernel_rfl
theorem aL9   {ls : List Lk} {n m : Int} {r : Bool} (hr : (n == m) = r) {v : Value} {w : World} (h : Ch w ls n v) :
    Calls Tryz.prog 41 #[v, .iface 63 (.int .i64 m), .bool true] w fun x w' => x = .returned (.bool r) ∧ w' = w := by
  have nN := aMi
  have uN := uK
  have vN := qR
  have nF := aMh
  have uF := qH
  have mF := lK
  have heq := fun W => aDN       n m W
  rw [hr] at heq
  clear hr
  go_enter Tryz.func41, Tryz.ntmps41
  go_wp2
  go_loopg [0] ls.length (fun gk v wr => wr = w ∧ ∃ ls : List Lk, ls.length = gk ∧ Ch w ls n v)
  case atStart => exact ⟨rfl, ls, rfl, h⟩
  case round =>
    clear h
    obtain ⟨rfl, ls, rfl, h⟩ := hrel
    cases ls with
    | nil =>
      have h' : _ = _ := h
      subst h'
      cases r
      · go_wp2
        go_ret
        exact ⟨rfl, rfl⟩
      · go_wp2
        go_ret
        exact ⟨rfl, rfl⟩
    | cons k ls =>
        obtain ⟨c, t⟩ := k
        obtain ⟨b, e, rfl, hh, hc⟩ := h
        obtain ⟨T, y, rfl⟩ := hc.iface
        have U := aBU     hh
        have hty := fun W => run_eql_iface_types (P := Tryz.prog) 57 63 (.pointer (some ⟨b, 0, none⟩)) (.int .i64 m) Tryz.underlying25 (by decide) W
        go_wp2_with fail
        refine U.mono ?_
        rintro x wx ⟨rfl, rfl⟩
        go_wp2
        go_roundg ls.length
        case measure => simp
        case rel => exact ⟨rfl, ls, rfl, hc⟩
theorem aBW {ls:List Lk}{n:Int}(m:Int) {v:Value}{w:World}(h:Ch w ls n v) :
 Cs 23 #[v,.iface 63 (vI m)] w (.bool (n == m)):=by
 have I:=aL9 (m:=m) rfl h
 generalize (n == m)=r at *
 obtain ⟨T,y,rfl⟩:=h.iface
 have h8:=@run_callFunc_extern Tryz.prog 40 _ ReflectliteType.typeOf Tryz.func40 (by kernel_rfl) (by kernel_rfl) (by kernel_rfl) (by kernel_rfl)
 have tT:=aGH
 have cT:=yQ
 have mR:=mB
 go_enter Tryz.func23,Tryz.ntmps23
 go_wp2_with fail
 refine I.mono ?_
 rintro x wx ⟨rfl,rfl⟩
 go_wp2
 go_ret
 exact ⟨rfl,rfl⟩
theorem aHT (c t:ByteArray) (w:World):Cs 20 #[.string c,.string t,.nilIface] w .nilIface:=by
 go_enter Tryz.func20,Tryz.ntmps20
 go_wp2
 go_ret
 exact ⟨rfl,rfl⟩
theorem aJ0 {c t:ByteArray}(hc:c.size<=140737488355328) (ht:t.size<=140737488355328) {ls:List Lk}{n:Int}{v:Value}{w:World}(h:Ch w ls n v) :
 Calls Tryz.prog 20 #[.string c,.string t,v] w fun x w'=>∃ v',x=.returned v'/\Ch w' ((c,t) :: ls) n v'/\Bl w w':=by
 have C1:=fun W=>lV c hc W
 have C2:=fun W=>lV t ht W
 obtain ⟨T,y,rfl⟩:=h.iface
 have HC:Hid (Ch w ls n (.iface T y)):=h
 clear h hc ht
 go_enter Tryz.func20,Tryz.ntmps20
 go_wp2_with fail
 refine (C1 _).mono ?_
 rintro x w1 ⟨rfl,b1⟩
 have B1:Hid (Bl w w1):=b1
 clear b1
 go_wp2_with fail
 refine (C2 _).mono ?_
 rintro x w2 ⟨rfl,b2⟩
 have B2:Hid (Bl w w2):=B1.out.trans (b2.mono B1.out.size)
 clear b2
 go_wp2
 go_ret
 refine ⟨_,rfl,⟨w2.heap.size,.iface T y,rfl,heap_alloc_new w2 _,?_⟩,B2.out.alloc B2.out.size _⟩
 exact HC.out.below (B2.out.alloc B2.out.size _) (Nat.le_refl _)
end Go.Proofs.YtejgpbhionadbaaGreatDoor
