/-
  Holds: UScRb.
-/
import Derived.Test.YtejgpbhionadbaaGreatDoorChecked
import Derived.WalkKit
import Derived.Deep.DeepMust
import Derived.Lib.Strings
import Derived.Lib.BufferWrite
import Derived.Deep.OwnRows
import Derived.Deep.AppendLies
import Derived.Test.YtejgpbhionadbaaGreatDoorXl0
set_option maxRecDepth 100000
set_option maxHeartbeats 4000000
namespace Go.Proofs.YtejgpbhionadbaaGreatDoor
open Go.RowKit
theorem fU:Tryz.prog.underlying 157=some (.slice 5):=by kernel_rfl
theorem aFG:Tryz.prog.underlying 5=some (.int .u8):=by kernel_rfl
theorem aFI:Tryz.prog.underlying 9=some .string:=by kernel_rfl
theorem jY (b o j:Nat):(⟨b,o,none⟩:Addr).add j=⟨b,o+j,none⟩:=by unfold Addr.add;split <;> simp_all
structure RB (w wr:World) (v:Value) (l:List UInt8):Prop where
 own:wr.ownsRow w.heap.size 5 1 v l.length (Lib.byteCells l)
 bel:Bl w wr
theorem xJ (a b:List UInt8):Lib.byteCells (a ++ b)=Lib.byteCells a ++ Lib.byteCells b:=by simp [Lib.byteCells]
theorem RB.app {w wr w3:World}{v v':Value}{l m:List UInt8}{o:Obj}(h:RB w wr v l) (ho:w3.ownsRow w.heap.size 5 1 v' (l.length+m.length) (Lib.byteCells l ++ Lib.byteCells m)) (hg:(wr.alloc o).grownBy w3 v.ownBlock):RB w w3 v' (l ++ m):=by
 have hs:=h.bel.size
 refine ⟨?_,(h.bel.alloc hs _).grown hg (by rw [World.size_alloc];omega) (fun q hq=>(h.own.lt q hq).1)⟩
 rw [xJ,List.length_append]
 exact ho
theorem uO (l:List UInt8):strOfNums (l.map fun c=>(c.toNat:Int))=⟨l.toArray⟩:=by
 unfold strOfNums
 simp [Function.comp_def]
theorem RB.text {w wr:World}{v:Value}{l:List UInt8}(h:RB w wr v l):(Go.convert 157 9 v).run Tryz.prog wr=.ok (.string ⟨l.toArray⟩) wr:=by
 rcases h.own.2 with ⟨rfl,h0⟩ | ⟨g,cap,cur,rfl,_⟩
 . obtain rfl:l=[]:=List.length_eq_zero_iff.mp h0
   kernel_rfl
 . have hc:=h.own.cells (g:=g) rfl
   have:=run_convert_bytes_arg wr 157 5 fU aFG g 0 l.length cap (l.map fun c=>(c.toNat:Int)) (by simp) (fun i hi=>by
    have q:=hc i (.int .u8 ((l[i]'hi).toNat:Int)) (by unfold Lib.byteCells;simp [hi])
    have e:(⟨g,0,none⟩:Addr).add i=⟨g,0+i,none⟩:=jY g 0 i
    rw [e] at q
    rw [q]
    congr 2
    simp [List.getD_eq_getElem?_getD,hi]) 9 aFI
   rw [uO] at this
   exact this
theorem RB.len {w wr:World}{v:Value}{l:List UInt8}(h:RB w wr v l):∃ ao c,v=.slice ao l.length c:=by
 rcases h.own.2 with ⟨rfl,h0⟩ | ⟨g,cap,cur,rfl,_⟩
 . exact ⟨none,0,by rw [h0]⟩
 . exact ⟨_,_,rfl⟩
end Go.Proofs.YtejgpbhionadbaaGreatDoor
