/-
  Holds: UBtZ.
-/
import Derived.Test.YtejgpbhionadbaaGreatDoorRows
import Derived.Laws.Externs
import Derived.WalkKit
import Derived.WalkSpells
import Derived.WalkLawsBesides
import Derived.Lib.Mul64
import Derived.Lib.TrailingZeros
import Derived.Test.YtejgpbhionadbaaGreatDoorXl2
set_option maxRecDepth 100000
set_option maxHeartbeats 4000000
namespace Go.Proofs.YtejgpbhionadbaaGreatDoor
open Go.RowKit
def Tab (w:World):Prop:=∀ j,j<64 -> w.cell? ⟨4,j,none⟩=some (.int .u8 (Lib.deBruijn64tab.getD j 0))
theorem Tab.pos {w:World}(h:Tab w):4<w.heap.size:=World.block_lt_of_cell? _ _ (h 0 (by omega))
theorem Tab.below {w w':World}{B:Nat}(h:Tab w) (hb:Below B w w') (hB:4<B):Tab w':=fun j hj=>(hb.cell (p:=⟨4,j,none⟩) hB).trans (h j hj)
theorem Tab.next {w w':World}(h:Tab w) (hb:Bl w w'):Tab w':=h.below hb h.pos
def cE (x:Int):Int:=(Lib.ctz 64 x.toNat:Int)
theorem aFD (x:Int) (k idx:Nat) (w:World) (hx0:(x == 0)=false)
 (key:IntKind.u64.wrap (bits BinOp.and IntKind.u64 x (IntKind.u64.wrap (-x)) * 285870213051353865) / 288230376151711744=(idx:Int))
 (hi:idx<64) (hk:k<64) (hcell:w.cell? ⟨4,idx,none⟩=some (.int .u8 k)) :
 Cs 258 #[vU x] w (vI k):=by
 go_enter Tryz.func258,Tryz.ntmps258
 go_wp2_with (simp only [key])
 go_ret
 exact ⟨rfl,rfl⟩
theorem aFE (w:World):Cs 258 #[vU 0] w (vI 64):=by
 go_enter Tryz.func258,Tryz.ntmps258
 go_wp2
 go_ret
 exact ⟨rfl,rfl⟩
theorem bI (x:Int) (h:aD x) (w:World) (hT:Tab w) :
 Cs 258 #[vU x] w (vI (cE x)):=by
 by_cases c:x=0
 . subst c;exact aFE w
 . obtain ⟨y,rfl⟩:=Int.eq_ofNat_of_zero_le h.1
   have hy:y<18446744073709551616:=by have:=h.2;omega
   have hy0:y ≠ 0:=by omega
   obtain ⟨hlow,hk⟩:=Lib.lowest_bit 64 y hy0 hy
   obtain ⟨hi,htab⟩:=Lib.deBruijn64_at _ hk
   have hcell:=hT _ hi
   rw [htab] at hcell
   have e1:IntKind.u64.wrap (-(y:Int))=((18446744073709551616 - y:Nat):Int):=by rw [IntKind.wrap_u64];omega
   have key:IntKind.u64.wrap (bits BinOp.and IntKind.u64 (y:Int) (IntKind.u64.wrap (-(y:Int))) * 285870213051353865) / 288230376151711744=((2 ^ Lib.ctz 64 y * 285870213051353865 % 18446744073709551616 / 288230376151711744:Nat):Int):=by
    have hlow':y &&& (18446744073709551616 - y)=2 ^ Lib.ctz 64 y:=hlow
    rw [e1,bits_and_u64_nat y _ hy (by omega),hlow',IntKind.wrap_u64]
    generalize 2 ^ Lib.ctz 64 y=q
    omega
   exact aFD y _ _ w (by simp;omega) key hi hk hcell
theorem gI {y:Nat}(h0:y ≠ 0) (h:y<18446744073709551616):∃ j,y=2 ^ Lib.ctz 64 y * (2 * j+1)/\Lib.ctz 64 y<64:=by
 obtain ⟨m,e,hk⟩:=Lib.ctzFrom_spec 64 y (by omega) h
 refine ⟨m,?_,?_⟩
 . unfold Lib.ctz;rw [if_neg h0];exact e
 . unfold Lib.ctz;rw [if_neg h0];exact hk
end Go.Proofs.YtejgpbhionadbaaGreatDoor
