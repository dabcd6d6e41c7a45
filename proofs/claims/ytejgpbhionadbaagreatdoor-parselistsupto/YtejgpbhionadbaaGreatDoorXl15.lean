/-
  Holds: ULen.
-/
import Derived.Lib.ItoaNum
import Derived.Test.YtejgpbhionadbaaGreatDoorRows
import Derived.Laws.Externs
import Derived.WalkKit
import Derived.WalkSpells
import Derived.WalkLawsBesides
import Derived.Lib.Mul64
import Derived.Test.YtejgpbhionadbaaGreatDoorXl2
import Derived.Test.YtejgpbhionadbaaGreatDoorXl14
set_option maxRecDepth 100000
set_option maxHeartbeats 4000000
namespace Go.Proofs.YtejgpbhionadbaaGreatDoor
open Go.RowKit
theorem aJs {a b:Int}(h:a=b):Ending.returned (vI a)=.returned (vI b):=by rw [h]
theorem eI (x b n:Int) (k K:Nat) (hn:n=k) (hK:K=2 ^ k) (h0:0<=x) (hx:x<18446744073709551616) (hb:b=x / K) (hb1:b<=255) (hge:k=0 \/ (K:Int)<=x) (hk:k<=56) (hlt:b.toNat<Lib.len8tab.size) :
 wrap64 (n+wrap64 (Lib.len8tab[b.toNat]'hlt).toNat)=aM x:=by
 have hb0:0<=b:=by rw [hb];exact Int.ediv_nonneg h0 (by omega)
 have e:((Lib.len8tab[b.toNat]'hlt).toNat:Int)=Lib.len8 b:=by
  unfold Lib.len8;rw [getElem?_pos Lib.len8tab b.toNat hlt];rfl
 have l:=Lib.bitLen_le8' b hb0 hb1
 have f:=Lib.len8_of b hb0 hb1
 rw [e,IntWalk.wrap64_in (Lib.len8 b) ⟨by omega,by omega⟩,IntWalk.wrap64_in (n+Lib.len8 b) ⟨by omega,by omega⟩,hn]
 exact aF4 x b k K hK h0 hx hb hb1 hge
theorem aO (x:Int) (h:aD x) (w:World) :
 Cs 140 #[vU x] w (vI (aM x)):=by
 obtain ⟨h0,h1⟩:=h
 have hs:Lib.len8tab.size=256:=Lib.len8tab_size
 go_enter Tryz.func140,Tryz.ntmps140
 go_wp2
 all_goals go_ret
 all_goals refine ⟨aJs ?_,rfl⟩
 . exact eI x _ _ 56 72057594037927936 rfl (by decide) h0 h1 (by omega) (by omega) (Or.inr (by omega)) (by decide) _
 . exact eI x _ _ 48 281474976710656 rfl (by decide) h0 h1 (by omega) (by omega) (Or.inr (by omega)) (by decide) _
 . exact eI x _ _ 40 1099511627776 rfl (by decide) h0 h1 (by omega) (by omega) (Or.inr (by omega)) (by decide) _
 . exact eI x _ _ 32 4294967296 rfl (by decide) h0 h1 (by omega) (by omega) (Or.inr (by omega)) (by decide) _
 . exact eI x _ _ 24 16777216 rfl (by decide) h0 h1 (by omega) (by omega) (Or.inr (by omega)) (by decide) _
 . exact eI x _ _ 16 65536 rfl (by decide) h0 h1 (by omega) (by omega) (Or.inr (by omega)) (by decide) _
 . exact eI x _ _ 8 256 rfl (by decide) h0 h1 (by omega) (by omega) (Or.inr (by omega)) (by decide) _
 . have e:=eI x x 0 0 1 rfl (by decide) h0 h1 (by omega) (by omega) (Or.inl rfl) (by decide) (by rw [hs];omega)
   rw [Int.zero_add] at e
   exact e
theorem gC (x:Int) (h:aD x) (w:World) :
 Cs 232 #[vU x] w (vI (64 - aM x)):=by
 have hb:=jJ x h.1 h.2
 go_enter Tryz.func232,Tryz.ntmps232
 go_wp2_with (go_at_call 140;refine (aO x h _).mono ?_;rintro e w' ⟨rfl,rfl⟩)
 go_ret
 exact ⟨rfl,rfl⟩
end Go.Proofs.YtejgpbhionadbaaGreatDoor
