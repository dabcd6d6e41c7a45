/-
  Holds: UMath2.
-/
import Derived.Lib.ItoaNum
import Derived.Test.YtejgpbhionadbaaGreatDoorXl0
set_option maxRecDepth 100000
set_option maxHeartbeats 4000000
namespace Go.Proofs.YtejgpbhionadbaaGreatDoor
def aM (x:Int):Int:=(Lib.bitLen x.toNat:Int)
theorem aF4 (x b:Int) (k K:Nat) (hK:K=2 ^ k) (h0:0<=x) (hx:x<18446744073709551616) (hb:b=x / K) (hb1:b<=255) (hge:k=0 \/ (K:Int)<=x):(k:Int)+Lib.len8 b=aM x:=by
 have hb0:0<=b:=by rw [hb];exact Int.ediv_nonneg h0 (by omega)
 rw [Lib.len8_of b hb0 hb1]
 obtain ⟨y,rfl⟩:=Int.eq_ofNat_of_zero_le h0
 have e:b.toNat=y / 2 ^ k:=by rw [hb,<- hK,<- Int.natCast_ediv,Int.toNat_natCast]
 unfold aM
 rw [e,Int.toNat_natCast]
 rcases hge with rfl | h
 . simp
 . rw [Lib.bitLen_shift k y (by rw [<- hK];omega) (by omega)]
   omega
theorem aW (x:Int) (h0:0<x) (hx:x<18446744073709551616):∃ n:Nat,aM x=(n:Int)+1/\n<=63/\(2:Int) ^ n<=x/\x<2 ^ (n+1):=by
 obtain ⟨y,rfl⟩:=Int.eq_ofNat_of_zero_le (Int.le_of_lt h0)
 obtain ⟨a,b,c⟩:=Lib.bitLenAux_bounds 64 y (by omega) (by omega)
 have l:Lib.bitLenAux 64 y<=64:=Lib.bitLen_le y 64 (by omega) (by omega)
 refine ⟨Lib.bitLenAux 64 y - 1,?_,by omega,?_,?_⟩
 . show (Lib.bitLen _:Int)=_
   unfold Lib.bitLen
   rw [Int.toNat_natCast];omega
 . exact_mod_cast b
 . rw [Nat.sub_add_cancel a];exact_mod_cast c
theorem aDe:aM 0=0:=by decide
theorem jJ (x:Int) (h0:0<=x) (hx:x<18446744073709551616):0<=aM x/\aM x<=64:=by
 by_cases h:x=0
 . subst h;rw [aDe];omega
 . obtain ⟨n,a,b,_⟩:=aW x (by omega) hx
   omega
end Go.Proofs.YtejgpbhionadbaaGreatDoor
