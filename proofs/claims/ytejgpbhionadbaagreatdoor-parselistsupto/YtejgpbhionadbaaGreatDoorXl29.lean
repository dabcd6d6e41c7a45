/-
  Holds: UScF UScN.
-/
import Derived.Test.YtejgpbhionadbaaGreatDoorChecked
import Derived.WalkKit
import Derived.Deep.DeepMust
import Derived.Lib.Strings
import Derived.Lib.BufferWrite
import Derived.Deep.OwnRows
import Derived.Deep.RegionHeld3
import Derived.Deep.QuietTactic
import Derived.BigQuiet
import Derived.Deep.AppendLies
import Derived.Lib.ConvBytes
import Derived.Test.YtejgpbhionadbaaGreatDoorShelf
import Derived.Test.YtejgpbhionadbaaGreatDoorXl27
import Derived.Test.YtejgpbhionadbaaGreatDoorXl28
set_option maxRecDepth 100000
set_option maxHeartbeats 4000000
namespace Go.Proofs.YtejgpbhionadbaaGreatDoor
open Go.RowKit
def deV (W P:List UInt8) (e:Int):Value:=dcV (sB (dcT W P)) (dcP W P e) (dcC W P)
theorem xO {W P:List UInt8}{e:Int}(h:dgF W P=[]):deV W P e=.agg #[.string ⟨#[]⟩,vI 0,.bool false]:=by
 unfold deV dcT dcP dcC
 rw [h,if_pos rfl];rfl
theorem fC (W P:List UInt8):(plD W P).length=W.length+P.length:=by unfold plD;rw [List.length_map,List.length_append]
theorem aIr (W P:List UInt8):(dgF W P).length=W.length+P.length - nz (plD W P):=by unfold dgF;rw [List.length_drop,fC]
theorem aEW (c:UInt8):isD 10 (pln c)=true:=by
 unfold pln
 by_cases h:isD 10 c=true
 . rw [if_pos h];exact h
 . rw [if_neg h];decide
theorem aBC (W P:List UInt8):∀ c ∈ plD W P,isD 10 c=true:=by
 intro c hc
 unfold plD at hc
 obtain ⟨d,_,rfl⟩:=List.mem_map.1 hc
 exact aEW d
theorem aBh (W P:List UInt8):∀ c ∈ dgF W P,isD 10 c=true:=fun c hc=>aBC W P c (List.mem_of_mem_drop hc)
theorem aBx     : ∀ l : List UInt8, nz (l.drop (nz l)) = 0
  | [] => rfl
  | c :: r => by
    by_cases h : c = 48
    · subst h; rw [iH    , List.drop_succ_cons]; exact aBx     r
    · rw [iS    h, List.drop_zero, iS    h]
theorem aIq (W P:List UInt8) (hl:W.length+P.length<=140737488351256) (e:Int) (w:World):Cb 100 #[.string (sB W),.string (sB P),vI e] w (deV W P e):=by
 have PL:=fun V=>aEV W P hl V
 have TL:=fun V=>fT (plD W P) (by rw [fC];omega) V
 have hD:=aIr W P
 have hz:=cW (plD W P)
 rw [fC] at hz
 have hx:(plD W P).drop (nz (plD W P))=dgF W P:=rfl
 rw [hx] at TL
 by_cases q:dgF W P=[]
 . rw [xO q]
   rw [q,show sB []=⟨#[]⟩ from rfl] at TL
   clear hD hz hx q hl
   generalize sB (plD W P)=u at *
   generalize sB W=s at *
   generalize sB P=t at *
   go_enter Tryz.func100,Tryz.ntmps100
   go_wp2_with fail
   refine (PL _).mono ?_
   rintro o w1 ⟨rfl,b1⟩
   have hs1:w.heap.size<w1.heap.size:=by have:=b1.size;simp at this;omega
   obtain ⟨hc,hf⟩:(∀ o,w1.cell? ⟨w.heap.size,o,none⟩=(w.alloc (.cells #[.string ⟨#[]⟩,vI 0,.bool false] 41)).cell? ⟨w.heap.size,o,none⟩)/\(∀ o,w1.frozen? ⟨w.heap.size,o,none⟩=(w.alloc (.cells #[.string ⟨#[]⟩,vI 0,.bool false] 41)).frozen? ⟨w.heap.size,o,none⟩) :=
    ⟨fun o=>b1.cell (p:=⟨w.heap.size,o,none⟩) (by simp),fun o=>b1.frozen (p:=⟨w.heap.size,o,none⟩) (by simp)⟩
   go_wp2_with fail
   refine (TL _).mono ?_
   rintro o w1 ⟨rfl,rfl⟩
   go_wp2
   refine bodyPost_ret (v:=.agg #[.string ⟨#[]⟩,vI 0,.bool false]) (by simp [results,Tryz.results100,go_sem,hc]) rfl ⟨rfl,?_⟩
   exact ((((bz _ _).trans (b1.mono (by simp))).setCell (Nat.le_refl _) _).setCell (Nat.le_refl _) _).setCell (Nat.le_refl _) _
 . have hne:=aI (s:=sB (dgF W P)) (by rw [aA];exact List.length_pos_iff.2 q)
   have hpos:=List.length_pos_iff.2 q
   have HV:Hid (deV W P e=.agg #[.string (sB (shT (dgF W P))),vI (ctI (((sB (dgF W P)).size:Int) - ((sB P).size:Int)+ctI e)),.bool (anz ((dgF W P).drop 800))]):=by
    show _=_
    unfold deV dcT dcP dcC dcV
    rw [if_neg q,aA,aA,hD]
    have:((W.length+P.length - nz (plD W P):Nat):Int) - (P.length:Int)+ctI e=ctI e+(W.length:Int) - (nz (plD W P):Int):=by omega
    rw [this]
   rw [HV.out]
   have BE:=fun V=>lQ e V
   have BP:=fun V=>lQ (((sB (dgF W P)).size:Int) - ((sB P).size:Int)+ctI e) V
   have ci:=lW e
   have cp:=lW (((sB (dgF W P)).size:Int) - ((sB P).size:Int)+ctI e)
   have MK:=fun V=>aDF (dgF W P) (by omega) (aBh W P) q (aBx _) (ctI (((sB (dgF W P)).size:Int) - ((sB P).size:Int)+ctI e)) cp.1 cp.2 V
   unfold dcV at MK
   have z1:(sB (dgF W P)).size<=140737488351256:=by rw [aA];omega
   have z2:(sB P).size<=140737488351256:=by rw [aA];omega
   have w1':wrap64 (((sB (dgF W P)).size:Int) - ((sB P).size:Int))=((sB (dgF W P)).size:Int) - ((sB P).size:Int):=by unfold wrap64;omega
   have w2':wrap64 (((sB (dgF W P)).size:Int) - ((sB P).size:Int)+ctI e)=((sB (dgF W P)).size:Int) - ((sB P).size:Int)+ctI e:=by unfold wrap64;omega
   clear hD hz hx q hl HV hpos cp
   generalize sB (shT (dgF W P))=s2 at *
   generalize anz ((dgF W P).drop 800)=c2 at *
   generalize sB (plD W P)=u at *
   generalize sB (dgF W P)=v at *
   generalize sB W=s at *
   generalize sB P=t at *
   generalize ctI e=ce at *
   generalize hpp:ctI ((v.size:Int) - (t.size:Int)+ce)=pp at *
   have HPP:Hid (ctI ((v.size:Int) - (t.size:Int)+ce)=pp):=hpp
   clear hpp
   go_enter Tryz.func100,Tryz.ntmps100
   go_wp2_with fail
   refine (PL _).mono ?_
   rintro o w1 ⟨rfl,b1⟩
   have hs1:w.heap.size<w1.heap.size:=by have:=b1.size;simp at this;omega
   go_wp2_with fail
   refine (TL _).mono ?_
   rintro o w1 ⟨rfl,rfl⟩
   go_wp2_with fail
   refine (BE _).mono ?_
   rintro o w1 ⟨rfl,rfl⟩
   go_wp2_with fail
   refine (BP _).mono ?_
   rintro o w1 ⟨rfl,rfl⟩
   go_wp2_with fail
   refine (MK _).mono ?_
   rintro o w2 ⟨rfl,b2⟩
   have b12:=(b1.trans (b2.mono b1.size))
   have hs2:w.heap.size<w2.heap.size:=by have:=b2.size;omega
   obtain ⟨hc,hf⟩:(∀ o,w2.cell? ⟨w.heap.size,o,none⟩=(w.alloc (.cells #[.string ⟨#[]⟩,vI 0,.bool false] 41)).cell? ⟨w.heap.size,o,none⟩)/\(∀ o,w2.frozen? ⟨w.heap.size,o,none⟩=(w.alloc (.cells #[.string ⟨#[]⟩,vI 0,.bool false] 41)).frozen? ⟨w.heap.size,o,none⟩) :=
    ⟨fun o=>b12.cell (p:=⟨w.heap.size,o,none⟩) (by simp),fun o=>b12.frozen (p:=⟨w.heap.size,o,none⟩) (by simp)⟩
   have B2:Hid (Bl w w2):=(bz _ _).trans (b12.mono (by simp))
   clear b12 b1 b2
   go_wp2
   refine bodyPost_ret (v:=.agg #[.string s2,vI pp,.bool c2]) (by simp [results,Tryz.results100,go_sem,hc,hs2]) rfl ⟨rfl,?_⟩
   exact ((((B2.out.setCell (Nat.le_refl _) _).setCell (Nat.le_refl _) _).setCell (Nat.le_refl _) _).alloc (by simp;omega) _)
def spV (p:Pt):Value:=.agg #[.bool p.neg,vI p.kind,.string (sB p.dd),vI p.dp,.bool p.dc,vU (p.mant:Int),vI p.exp,.bool p.cut]
theorem tZ {W P:List UInt8}{e:Int}(h:nz (W ++ P)=(W ++ P).length):spV (cV W P e)=.agg #[.bool false,vI 2,.string ⟨#[]⟩,vI 0,.bool false,vU 0,vI 0,.bool false]:=by
 have k:hxK (W ++ P)=(W ++ P).length:=by unfold hxK;omega
 unfold cV spV hxM hxE hxC
 rw [k,h,if_pos rfl,List.take_length,List.drop_eq_nil_of_le (Nat.le_refl _)]
 rfl
theorem wF    : ∀ (l : List UInt8), (∀ c ∈ l, isD 16 c = true) → ∀ a, av 16 a l < (a + 1) * 16 ^ l.length
  | [], _, a => by rw [List.length_nil, Nat.pow_zero]; show a < _; omega
  | c :: r, h, a => by
    have hc : dv c.toNat < 16 := of_decide_eq_true (h c (by simp))
    have ih := wF    r (fun x hx => h x (by simp [hx])) (a * 16 + dv c.toNat)
    rw [jG     , jH      (by omega), List.length_cons, Nat.pow_succ]
    have : (a * 16 + dv c.toNat + 1) * 16 ^ r.length ≤ (a * 16 + 16) * 16 ^ r.length := Nat.mul_le_mul_right _ (by omega)
    have e2 : (a + 1) * (16 ^ r.length * 16) = (a * 16 + 16) * 16 ^ r.length := by
      rw [Nat.mul_comm (16 ^ r.length) 16, ← Nat.mul_assoc, Nat.add_mul, Nat.one_mul]
    omega
theorem fK (a:List UInt8) {z k:Nat}(hz:z<=k) (hk:k<a.length):(a.take (k+1)).drop z=(a.take k).drop z ++ [a[k]'hk]:=by
 rw [List.take_succ_eq_append_getElem hk,List.drop_append_of_le_length (by rw [List.length_take];omega)]
theorem aJc (m d:Nat) (hd:d<16):(m * 16) ||| d=m * 16+d:=by
 have:=Nat.two_pow_add_eq_or_of_lt (i:=4) (show d<2 ^ 4 by omega) m
 rw [Nat.mul_comm]
 exact this.symm
theorem aEM (m d:Nat) (hm:m<1152921504606846976) (hd:d<16):bits BinOp.or IntKind.u64 ((m:Int) * 16) (d:Int)=((m * 16+d:Nat):Int):=by
 have:=bits_or_u64_nat (m * 16) d (by omega) (by omega)
 rw [aJc m d hd] at this
 rw [<- this]
 congr 1
theorem vY (W P:List UInt8) (hl:W.length+P.length<=140737488351256) (e:Int) (h:nz (W ++ P)=(W ++ P).length) (w:World):Cb 99 #[.string (sB W),.string (sB P),vI e] w (spV (cV W P e)):=by
 have ap:=fQ W P
 have hsum:¬ 9223372036854775807<(sB W).size+(sB P).size:=by rw [aA,aA];omega
 have hlen:(W ++ P).length<=140737488351256:=by rw [List.length_append];exact hl
 have TL:=fun V=>fT (W ++ P) (by omega) V
 rw [h,List.drop_eq_nil_of_le (Nat.le_refl _),show sB []=⟨#[]⟩ from rfl] at TL
 have hb:(sB (W ++ P)).size<=140737488351256:=hlen
 rw [tZ h]
 clear hl hlen h
 generalize sB (W ++ P)=u at *
 generalize sB W=s at *
 generalize sB P=t at *
 go_enter Tryz.func99,Tryz.ntmps99
 go_wp2_with fail
 refine (TL _).mono ?_
 rintro o w1 ⟨rfl,rfl⟩
 go_wp2
 refine bodyPost_ret (v:=.agg #[.bool false,vI 2,.string ⟨#[]⟩,vI 0,.bool false,vU 0,vI 0,.bool false]) (by simp [results,Tryz.results99,go_sem]) rfl ⟨rfl,?_⟩
 exact bz _ _
theorem tY {W P:List UInt8}{e:Int}(h:nz (W ++ P) ≠ (W ++ P).length):spV (cV W P e)=.agg #[.bool false,vI 2,.string ⟨#[]⟩,vI 0,.bool false,vU (hxM (W ++ P):Int),vI (ctI (e+4 * ((W.length:Int) - hxK (W ++ P)))),.bool (hxC (W ++ P))]:=by
 unfold cV spV hxE
 rw [if_neg h]
 rfl
theorem aKg (l:List UInt8):(sB (l.drop (nz l))).toList.isEmpty = !(anz l):=by
 rw [oY]
 by_cases h:nz l=l.length
 . rw [h,List.drop_eq_nil_of_le (Nat.le_refl _)]
   have:anz l=false:=aC3.2 (fun c hc=>by
    obtain ⟨i,hi,rfl⟩:=List.getElem_of_mem hc
    exact kH l i hi (by omega))
   rw [this];rfl
 . have hlt:nz l<l.length:=by have:=cW l;omega
   have:anz l=true:=by
    cases q:anz l with
    | true=>rfl
    | false=>exact absurd (aC3.1 q _ (List.getElem_mem hlt)) (gF l hlt)
   rw [this,List.drop_eq_getElem_cons hlt];rfl
theorem vX (W P:List UInt8) (hl:W.length+P.length<=140737488351256) (hd:∀ c ∈ W ++ P,isD 16 c=true) (e:Int) (he0:-1099511627776<=e) (he9:e<=1099511627776) (h:nz (W ++ P) ≠ (W ++ P).length) (w:World):Cb 99 #[.string (sB W),.string (sB P),vI e] w (spV (cV W P e)):=by
 have ap:=fQ W P
 have hsum:¬ 9223372036854775807<(sB W).size+(sB P).size:=by rw [aA,aA];omega
 have hlen:(W ++ P).length<=140737488351256:=by rw [List.length_append];exact hl
 have TL:=fun V=>fT (W ++ P) (by omega) V
 have TC:=fun V=>fT ((W ++ P).drop (hxK (W ++ P))) (by rw [List.length_drop];omega) V
 have hb:(sB (W ++ P)).size<=140737488351256:=hlen
 have eC:=aKg ((W ++ P).drop (hxK (W ++ P)))
 have xK:=aJ (W ++ P) (hxK (W ++ P))
 have hz:=cW (W ++ P)
 have zs:(sB ((W ++ P).drop (nz (W ++ P)))).size=(W ++ P).length - nz (W ++ P):=by rw [aA,List.length_drop]
 have BD:=fun V=>lQ (e+4 * (((sB W).size:Int) - hxK (W ++ P))) V
 have hWs:(sB W).size<=140737488351256:=by rw [aA];omega
 have HK:Hid (hxK (W ++ P)=min (nz (W ++ P)+16) (W ++ P).length):=rfl
 have HM:Hid (hxM (W ++ P)=av 16 0 (((W ++ P).take (hxK (W ++ P))).drop (nz (W ++ P)))):=rfl
 have HU:Hid ((sB (W ++ P)).size=(W ++ P).length/\(∀ k (h:k<(W ++ P).length) (h':k<(sB (W ++ P)).size),(sB (W ++ P))[k]'h'=(W ++ P)[k]'h)/\∀ c ∈ W ++ P,isD 16 c=true):=⟨rfl,fun _ _ _=>rfl,hd⟩
 rw [tY h,show (W.length:Int)=((sB W).size:Int) from rfl]
 have hC:hxC (W ++ P)=anz ((W ++ P).drop (hxK (W ++ P))):=rfl
 rw [hC]
 generalize ctI (e+4 * (((sB W).size:Int) - hxK (W ++ P)))=X at *
 generalize anz ((W ++ P).drop (hxK (W ++ P)))=Y at *
 generalize sB (((W ++ P).drop (hxK (W ++ P))).drop (nz ((W ++ P).drop (hxK (W ++ P)))))=t3 at *
 generalize sB ((W ++ P).drop (hxK (W ++ P)))=t2 at *
 generalize sB ((W ++ P).drop (nz (W ++ P)))=t1 at *
 generalize hxM (W ++ P)=M at *
 generalize hxK (W ++ P)=K at *
 generalize hzz:nz (W ++ P)=z at *
 generalize W ++ P=a at *
 generalize sB a=u at *
 generalize sB W=s at *
 generalize sB P=t at *
 clear hzz hC hl hd
 have hua:u.size=a.length:=HU.out.1
 have e0:wrap64 ((u.size:Int) - (t1.size:Int))=(z:Int):=by unfold wrap64;omega
 have e1:((z:Int) == (u.size:Int))=false:=beq_eq_false_iff_ne.mpr (by omega)
 have hK1:K<=u.size:=by have:=HK.out;omega
 have hK2:z<=K:=by have:=HK.out;omega
 have hK3:K<=z+16:=by have:=HK.out;omega
 have e4:wrap64 ((s.size:Int) - (K:Int))=(s.size:Int) - (K:Int):=by unfold wrap64;omega
 have e5:wrap64 (4 * ((s.size:Int) - (K:Int)))=4 * ((s.size:Int) - (K:Int)):=by unfold wrap64;omega
 have e6:wrap64 (e+4 * ((s.size:Int) - (K:Int)))=e+4 * ((s.size:Int) - (K:Int)):=by unfold wrap64;omega
 have f4:IntKind.i64.wrap ((s.size:Int) - (K:Int))=(s.size:Int) - (K:Int):=by
  unfold IntKind.wrap
  simp [IntKind.bits,IntKind.signed]
  omega
 have f5:IntKind.i64.wrap (4 * ((s.size:Int) - (K:Int)))=4 * ((s.size:Int) - (K:Int)):=by
  unfold IntKind.wrap
  simp [IntKind.bits,IntKind.signed]
  omega
 have f6:IntKind.i64.wrap (e+4 * ((s.size:Int) - (K:Int)))=e+4 * ((s.size:Int) - (K:Int)):=by
  unfold IntKind.wrap
  simp [IntKind.bits,IntKind.signed]
  omega
 have HKK:Hid (min ((z:Int)+16) (u.size:Int)=(K:Int)):=by have:=HK.out;show _=_;omega
 clear zs hua hz h hlen he0 he9
 have HAV:Hid (∀ k,z<=k -> k<=K -> av 16 0 ((a.take k).drop z)<16 ^ (k - z)):=fun k h1 h2=>by
  have:=wF ((a.take k).drop z) (fun c hc=>HU.out.2.2 c (List.mem_of_mem_take (List.mem_of_mem_drop hc))) 0
  have hl:((a.take k).drop z).length=k - z:=by rw [List.length_drop,List.length_take];have:=HU.out.1;omega
  rw [hl] at this
  omega
 go_enter Tryz.func99,Tryz.ntmps99
 go_wp2_with fail
 refine (TL _).mono ?_
 rintro o w1 ⟨rfl,rfl⟩
 go_wp2
 rw [e0,HKK.out]
 go_loop [10,11] (fun mv iv=>∃ (k m:Nat),z<=k/\k<=K/\iv=vI (k:Int)/\mv=vU (m:Int)/\Hid (m=av 16 0 ((a.take k).drop z))) (fun _ iv=>K - (intOf iv).toNat)
 case atStart=>exact ⟨z,0,Nat.le_refl _,hK2,rfl,rfl,by rw [List.drop_eq_nil_of_le (by rw [List.length_take];omega)];rfl⟩
 case round =>
  obtain ⟨k,m,h1,h2,rfl,rfl,HI⟩:=hrel
  by_cases c1:k<K
  . have i1:(k:Int)<(K:Int):=by omega
    have i0:(0:Int)<=(k:Int):=by omega
    have hku:k<u.size:=by omega
    have i2:(k:Int)<(u.size:Int):=by omega
    have hka:k<a.length:=by have:=HU.out.1;omega
    have hg:u[k]'hku=a[k]'hka:=HU.out.2.1 k hka hku
    have hx:((((u[k]'hku).toNat:Nat):Int))=((a[k]'hka).toNat:Int):=by rw [hg]
    have hdg:dv (a[k]'hka).toNat<16:=of_decide_eq_true (HU.out.2.2 _ (List.getElem_mem hka))
    have BV:∀ V,Cs 133 #[.int .u8 ((a[k]'hka).toNat:Int)] V (.tuple #[vI (dv (a[k]'hka).toNat:Int),.bool true]):=fun V=>by
     have:=pY (a[k]'hka).toNat (UInt8.toNat_lt _) V
     rw [aFQ (by omega),aFN (by omega)] at this
     exact this
    have hm60:m<1152921504606846976:=by
     rw [HI.out]
     have q:=HAV.out k h1 h2
     have:(16:Nat) ^ (k - z)<=16 ^ 15:=Nat.pow_le_pow_right (by omega) (by omega)
     have e15:(16:Nat) ^ 15=1152921504606846976:=by decide
     omega
    have HI2:Hid (m * 16+dv (a[k]'hka).toNat=av 16 0 ((a.take (k+1)).drop z)):=by
     show _=_
     rw [fK a h1 hka,lO,<- HI.out]
     show _=avs 16 m (a[k]'hka)
     rw [jH (by omega)]
    have hor:=aEM m (dv (a[k]'hka).toNat) hm60 hdg
    have w16:IntKind.u64.wrap ((m:Int) * 16)=(m:Int) * 16:=by rw [IntKind.wrap_u64];omega
    have wdv:IntKind.u64.wrap (dv (a[k]'hka).toNat:Int)=(dv (a[k]'hka).toNat:Int):=by rw [IntKind.wrap_u64];omega
    clear hg HI
    generalize dv (a[k]'hka).toNat=d at *
    generalize ((a[k]'hka).toNat:Int)=x at *
    go_wp2_with fail
    refine (BV _).mono ?_
    rintro o w2 ⟨rfl,rfl⟩
    go_wp2
    go_round
    case rel=>exact ⟨k+1,m * 16+d,by omega,by omega,by go_num,by first | rfl | (rw [hor];rfl) | simp [hor,w16,wdv],HI2⟩
    case measure=>simp [intOf];omega
  . obtain rfl:k=K:=by omega
    have i1:¬ (k:Int)<(k:Int):=by omega
    have i5:(k:Int)<=(u.size:Int):=by omega
    have i6:(0:Int)<=(k:Int):=by omega
    have HMM:Hid (m=M):=HI.out.trans HM.out.symm
    have hmm:=HMM.out
    subst hmm
    have eC2:t3.toList.isEmpty = !Y:=eC
    clear HI HM HAV HK HKK HMM
    go_wp2
    go_region_held3 (fun _=>True) (trivial) (first | (go_at_call 134;refine (BD _).mono ?_;rintro o w2 ⟨rfl,rfl⟩) | (go_at_call 132;refine (TC _).mono ?_;rintro o w3 ⟨rfl,rfl⟩))
    all_goals
     go_wp2
     refine bodyPost_ret (v:=.agg #[.bool false,vI 2,.string ⟨#[]⟩,vI 0,.bool false,vU (m:Int),vI X,.bool Y]) (by simp [results,Tryz.results99,go_sem]) rfl ⟨rfl,?_⟩
     first | exact (bz _ _).drew | exact bz _ _
theorem lY (W P:List UInt8) (hl:W.length+P.length<=140737488351256) (hd:∀ c ∈ W ++ P,isD 16 c=true) (e:Int) (he0:-1099511627776<=e) (he9:e<=1099511627776) (w:World):Cb 99 #[.string (sB W),.string (sB P),vI e] w (spV (cV W P e)):=by
 by_cases h:nz (W ++ P)=(W ++ P).length
 . exact vY W P hl e h w
 . exact vX W P hl hd e he0 he9 h w
theorem nC {l:List UInt8}{k:Nat}(hl:0<l.length):∀ hh:0<(l.take k).length,(l.take k)[0]'hh=l[0]'hl:=fun _=>List.getElem_take
theorem xP (W P:List UInt8) (e:Int):VD (sB (dcT W P)) (dcP W P e) (dcC W P):=by
 by_cases q:dgF W P=[]
 . left
   unfold dcT dcP dcC
   rw [q,if_pos rfl]
   exact ⟨rfl,rfl,rfl⟩
 . right
   have hz:nz (dgF W P)=0:=NZD (plD W P)
   obtain ⟨ne,nt⟩:=rH q hz
   have hmem:=aBh W P
   have hlen:0<(dgF W P).length:=List.length_pos_iff.2 q
   have hfirst:(dgF W P)[0]'hlen ≠ 48:=by
    have:=gF (dgF W P) (by rw [hz];exact hlen)
    simpa [hz] using this
   have sub:∀ c ∈ shT (dgF W P),c ∈ dgF W P:=fun c hc=>by
    unfold shT at hc
    split at hc
    . exact List.mem_of_mem_take hc
    . exact List.mem_of_mem_take (List.mem_of_mem_take hc)
   have l8:(shT (dgF W P)).length<=800:=by
    unfold shT
    split
    . rw [List.length_take];omega
    . rw [List.length_take,List.length_take];omega
   have hp:0<(shT (dgF W P)).length:=List.length_pos_iff.2 ne
   have dp:=lW (ctI e+W.length - nz (plD W P))
   refine ⟨hp,l8,gJ (fun c hc=>hmem c (sub c hc)),?_,?_,?_,?_⟩
   . intro z
     apply hfirst
     have z':(shT (dgF W P))[0]'hp=48:=UInt8.toNat_inj.1 z
     rw [<- z']
     by_cases c:anz ((dgF W P).drop 800)=true
     . have e1:shT (dgF W P)=(dgF W P).take 800:=by unfold shT;rw [if_pos c]
       have:∀ (l m:List UInt8) (h:l=m) (a:0<l.length) (b:0<m.length),l[0]'a=m[0]'b:=fun l m h a b=>by subst h;rfl
       rw [this _ _ e1 hp (by rw [<- e1];exact hp)]
       exact (nC hlen _).symm
     . have e1:shT (dgF W P)=((dgF W P).take 800).take (trn ((dgF W P).take 800)):=by unfold shT;rw [if_neg c]
       have:∀ (l m:List UInt8) (h:l=m) (a:0<l.length) (b:0<m.length),l[0]'a=m[0]'b:=fun l m h a b=>by subst h;rfl
       have t0:=nt (by simpa using c)
       have h8:0<((dgF W P).take 800).length:=by rw [List.length_take];omega
       rw [this _ _ e1 hp (by rw [<- e1];exact hp),nC h8,nC hlen]
   . by_cases c:anz ((dgF W P).drop 800)=true
     . right;exact c
     . left
       have c':anz ((dgF W P).drop 800)=false:=by simpa using c
       have t0:=nt c'
       have e1:shT (dgF W P)=((dgF W P).take 800).take (trn ((dgF W P).take 800)):=by unfold shT;rw [if_neg c]
       have el:(shT (dgF W P)).length=trn ((dgF W P).take 800):=by rw [e1,List.length_take];have:=dS ((dgF W P).take 800);omega
       have:=nH ((dgF W P).take 800) t0
       intro z
       apply this
       have z':(shT (dgF W P))[(shT (dgF W P)).length - 1]'(by omega)=48:=UInt8.toNat_inj.1 z
       have gen:∀ (l m:List UInt8) (h:l=m) (i j:Nat) (a:i<l.length) (b:j<m.length),i=j -> l[i]'a=m[j]'b:=fun l m h i j a b hij=>by subst h;subst hij;rfl
       rw [gen _ _ e1 _ (trn ((dgF W P).take 800) - 1) (by omega) (by rw [<- e1];omega) (by rw [el])] at z'
       rw [List.getElem_take] at z'
       exact z'
   . unfold dcP;rw [if_neg q];exact dp.1
   . unfold dcP;rw [if_neg q];exact dp.2
end Go.Proofs.YtejgpbhionadbaaGreatDoor
