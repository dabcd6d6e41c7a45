/-
  Holds: UScH.
-/
import Derived.Test.YtejgpbhionadbaaGreatDoorChecked
import Derived.WalkKit
import Derived.Deep.DeepMust
import Derived.Lib.Strings
import Derived.Lib.BufferWrite
import Derived.Deep.OwnRows
import Derived.Deep.RegionHeld3
import Derived.Deep.QuietTactic
import Derived.BigQuiet
import Derived.Deep.AppendLies
import Derived.Lib.ConvBytes
import Derived.Test.YtejgpbhionadbaaGreatDoorShelf
import Derived.Laws.EntriesVeiled
import Derived.Test.YtejgpbhionadbaaGreatDoorXl32
set_option maxRecDepth 100000
set_option maxHeartbeats 4000000
namespace Go.Proofs.YtejgpbhionadbaaGreatDoor
open Go.RowKit
structure IW (w wr:World) (A B:ByteArray):Prop where
 kw:KW w wr A B
 s3:w.heap.size+2<wr.heap.size
 s0:wr.cell? ⟨w.heap.size+1+1,0,none⟩=some (.string ⟨#[105,110,102,105,110,105,116,121]⟩)
 s1:wr.cell? ⟨w.heap.size+1+1,1,none⟩=some (.string ⟨#[105,110,102]⟩)
theorem IW.start (w:World) (A B:ByteArray):IW w (((w.alloc (.cells #[.string A,.string B] 138)).alloc (.cells aC 43)).alloc (.cells #[.string ⟨#[105,110,102,105,110,105,116,121]⟩,.string ⟨#[105,110,102]⟩] 9)) A B:=by
 refine ⟨(KW.start w A B).step (bz _ _),by simp,?_,?_⟩
 . rw [World.cell?_alloc_at _ _ _ _ (by simp)];rfl
 . rw [World.cell?_alloc_at _ _ _ _ (by simp)];rfl
theorem IW.step {w wr w2:World}{A B:ByteArray}(h:IW w wr A B) (hb:Bl wr w2):IW w w2 A B:=by
 have s:=h.s3
 exact ⟨h.kw.step hb,by have:=hb.size;omega,(hb.cell (p:=⟨w.heap.size+1+1,0,none⟩) (by show w.heap.size+1+1<_;omega)).trans h.s0,(hb.cell (p:=⟨w.heap.size+1+1,1,none⟩) (by show w.heap.size+1+1<_;omega)).trans h.s1⟩
theorem aEo {r:List UInt8}(h:wdB aU r=true):bJ r=some ({ kind:=3 },8):=by unfold bJ;rw [if_pos h]
theorem aEp {r:List UInt8}(h:wdB aU r=false) (h2:wdB iN r=true):bJ r=some ({ kind:=3 },3):=by unfold bJ;rw [if_neg (by rw [h];decide),if_pos h2]
theorem mD {r:List UInt8}(h:wdB aU r=false) (h2:wdB iN r=false):bJ r=none:=by unfold bJ;rw [if_neg (by rw [h];decide),if_neg (by rw [h2];decide)]
theorem yP (g r:List UInt8) (hl:r.length<=140737488351256) (w:World):Cb 69 #[.agg #[.string (sB g),.string (sB r)]] w (kV (bJ r)):=by
 have I0:=IW.start w (sB g) (sB r)
 have HI0:Hid (IW w (((w.alloc (.cells #[.string (sB g),.string (sB r)] 138)).alloc (.cells aC 43)).alloc (.cells #[.string ⟨#[105,110,102,105,110,105,116,121]⟩,.string ⟨#[105,110,102]⟩] 9)) (sB g) (sB r)):=I0
 have BG0:∀ W,Cb 94 #[.string (sB r),.string ⟨#[105,110,102,105,110,105,116,121]⟩] W (.bool (wdB aU r)):=fun W=>kA (sB r) ⟨#[105,110,102,105,110,105,116,121]⟩ hl W
 have BG1:∀ W,Cb 94 #[.string (sB r),.string ⟨#[105,110,102]⟩] W (.bool (wdB iN r)):=fun W=>kA (sB r) ⟨#[105,110,102]⟩ hl W
 unfold aC at HI0
 clear I0 hl
 go_enter Tryz.func69,Tryz.ntmps69
 go_wp2
 go_loopw [8] (fun iv wr=>∃ k:Nat,k<=2/\iv=vI (k:Int)/\Hid (IW w wr (sB g) (sB r)/\(1<=k -> wdB aU r=false)/\(2<=k -> wdB iN r=false))) (fun iv _=>2 - (intOf iv).toNat)
 case atStart=>exact ⟨0,by omega,rfl,HI0.out,fun h=>absurd h (by omega),fun h=>absurd h (by omega)⟩
 case round =>
  clear HI0
  obtain ⟨k,hk,rfl,HK⟩:=hrel
  rcases (show k=0 \/ k=1 \/ k=2 by omega) with h0 | h1 | h2
  . subst h0
    have BX:=BG0
    rcases Bool.eq_false_or_eq_true (wdB aU r) with q | q
    . rw [q] at BX
      have HV:Hid (kV (bJ r)=.tuple #[.agg #[.bool false,vI 3,.string ⟨#[]⟩,vI 0,.bool false,vU 0,vI 0,.bool false],vI 8]):=by show _=_;rw [aEo q];rfl
      clear q BG0 BG1
      obtain ⟨⟨_,sz,a0,a1,_,_⟩,s3,s0,s1⟩:=HK.out.1
      go_wp2_with fail
      refine (BX _).mono ?_
      rintro o w1 ⟨rfl,b1⟩
      have HI1:Hid (IW w w1 (sB g) (sB r)):=HK.out.1.step b1
      clear b1 sz a0 a1 s3 s0 s1
      obtain ⟨⟨_,sz,a0,a1,rr,fr⟩,s3,s0,s1⟩:=HI1.out
      have r0:=rr 0
      have r1:=rr 1
      have r2:=rr 2
      have r3:=rr 3
      have r4:=rr 4
      have r5:=rr 5
      have r6:=rr 6
      have r7:=rr 7
      simp only [aC] at r0 r1 r2 r3 r4 r5 r6 r7
      clear rr
      go_wp2
      refine bodyPost_ret (v:=.tuple #[.agg #[.bool false,vI 3,.string ⟨#[]⟩,vI 0,.bool false,vU 0,vI 0,.bool false],vI 8]) (by simp [results,Tryz.results69,go_sem, *]) rfl ⟨by rw [HV.out],?_⟩
      repeat (refine Below.setCell ?_ bC _)
      exact HI1.out.kw.bel
    . rw [q] at BX
      have HK2:Hid ((1<=1 -> wdB aU r=false)/\(2<=1 -> wdB iN r=false)):=⟨fun _=>q,fun z=>absurd z (by omega)⟩
      clear q BG0 BG1
      obtain ⟨⟨_,sz,a0,a1,_,_⟩,s3,s0,s1⟩:=HK.out.1
      go_wp2_with fail
      refine (BX _).mono ?_
      rintro o w1 ⟨rfl,b1⟩
      have HI1:Hid (IW w w1 (sB g) (sB r)):=HK.out.1.step b1
      clear b1 sz a0 a1 s3 s0 s1
      go_wp2
      go_roundw
      case rel=>exact ⟨1,by omega,by go_num,HI1.out,HK2.out⟩
      case measure=>simp [intOf]
  . subst h1
    have BX:=BG1
    rcases Bool.eq_false_or_eq_true (wdB iN r) with q | q
    . rw [q] at BX
      have HV:Hid (kV (bJ r)=.tuple #[.agg #[.bool false,vI 3,.string ⟨#[]⟩,vI 0,.bool false,vU 0,vI 0,.bool false],vI 3]):=by show _=_;rw [aEp (HK.out.2.1 (by omega)) q];rfl
      clear q BG0 BG1
      obtain ⟨⟨_,sz,a0,a1,_,_⟩,s3,s0,s1⟩:=HK.out.1
      go_wp2_with fail
      refine (BX _).mono ?_
      rintro o w1 ⟨rfl,b1⟩
      have HI1:Hid (IW w w1 (sB g) (sB r)):=HK.out.1.step b1
      clear b1 sz a0 a1 s3 s0 s1
      obtain ⟨⟨_,sz,a0,a1,rr,fr⟩,s3,s0,s1⟩:=HI1.out
      have r0:=rr 0
      have r1:=rr 1
      have r2:=rr 2
      have r3:=rr 3
      have r4:=rr 4
      have r5:=rr 5
      have r6:=rr 6
      have r7:=rr 7
      simp only [aC] at r0 r1 r2 r3 r4 r5 r6 r7
      clear rr
      go_wp2
      refine bodyPost_ret (v:=.tuple #[.agg #[.bool false,vI 3,.string ⟨#[]⟩,vI 0,.bool false,vU 0,vI 0,.bool false],vI 3]) (by simp [results,Tryz.results69,go_sem, *]) rfl ⟨by rw [HV.out],?_⟩
      repeat (refine Below.setCell ?_ bC _)
      exact HI1.out.kw.bel
    . rw [q] at BX
      have HK2:Hid ((1<=2 -> wdB aU r=false)/\(2<=2 -> wdB iN r=false)):=⟨fun _=>HK.out.2.1 (by omega),fun _=>q⟩
      clear q BG0 BG1
      obtain ⟨⟨_,sz,a0,a1,_,_⟩,s3,s0,s1⟩:=HK.out.1
      go_wp2_with fail
      refine (BX _).mono ?_
      rintro o w1 ⟨rfl,b1⟩
      have HI1:Hid (IW w w1 (sB g) (sB r)):=HK.out.1.step b1
      clear b1 sz a0 a1 s3 s0 s1
      go_wp2
      go_roundw
      case rel=>exact ⟨2,by omega,by go_num,HI1.out,HK2.out⟩
      case measure=>simp [intOf]
  . subst h2
    have HV:Hid (kV (bJ r)=.tuple #[.agg #[.bool false,vI 0,.string ⟨#[]⟩,vI 0,.bool false,vU 0,vI 0,.bool false],vI 0]):=by show _=_;rw [mD (HK.out.2.1 (by omega)) (HK.out.2.2 (by omega))];rfl
    clear BG0 BG1
    obtain ⟨⟨_,sz,a0,a1,rr,fr⟩,s3,s0,s1⟩:=HK.out.1
    have r0:=rr 0
    have r1:=rr 1
    have r2:=rr 2
    have r3:=rr 3
    have r4:=rr 4
    have r5:=rr 5
    have r6:=rr 6
    have r7:=rr 7
    simp only [aC] at r0 r1 r2 r3 r4 r5 r6 r7
    clear rr
    go_wp2
    refine bodyPost_ret (v:=.tuple #[.agg #[.bool false,vI 0,.string ⟨#[]⟩,vI 0,.bool false,vU 0,vI 0,.bool false],vI 0]) (by simp [results,Tryz.results69,go_sem, *]) rfl ⟨by rw [HV.out],?_⟩
    repeat (refine Below.setCell ?_ bC _)
    exact HK.out.1.kw.bel
def pfV:Option (Pt × Nat) -> Value
 | none=>.tuple #[.agg #[.bool false,vI 0,.string ⟨#[]⟩,vI 0,.bool false,vU 0,vI 0,.bool false],vI 0,.iface 63 (vI 3)]
 | some (p,n)=>.tuple #[spV p,vI (n:Int),.nilIface]
def fnV (k:Nat) (A B:ByteArray):Value:=.func (.func k) #[.agg #[.string A,.string B]] #[]
structure PW (w wr:World) (b:Nat) (A B:ByteArray):Prop where
 bel:Bl w wr
 s1:w.heap.size<b
 s2:b+1<wr.heap.size
 a0:wr.cell? ⟨b,0,none⟩=some (.string A)
 f0:wr.cell? ⟨b+1,0,none⟩=some (fnV 69 A B)
 f1:wr.cell? ⟨b+1,1,none⟩=some (fnV 70 A B)
 f2:wr.cell? ⟨b+1,2,none⟩=some (fnV 71 A B)
 f3:wr.cell? ⟨b+1,3,none⟩=some (fnV 72 A B)
 r:∀ o,wr.cell? ⟨w.heap.size,o,none⟩=aC[o]?
 fr:∀ o,wr.frozen? ⟨w.heap.size,o,none⟩=false
theorem PW.start {w w1:World}(A B:ByteArray) (h:Below (w.alloc (.cells aC 43)).heap.size (w.alloc (.cells aC 43)) w1):PW w ((w1.alloc (.cells #[.string A,.string B] 138)).alloc (.cells #[fnV 69 A B,fnV 70 A B,fnV 71 A B,fnV 72 A B] 140)) w1.heap.size A B:=by
 have hs:w.heap.size<w1.heap.size:=by have:=h.size;simp at this;omega
 have b0:Bl w w1:=(bz _ _).trans (h.mono (by simp))
 refine ⟨(b0.alloc (by omega) _).alloc (by simp;omega) _,hs,by simp,by simp [go_sem],?_,?_,?_,?_,fun o=>?_,fun o=>?_⟩
 . rw [World.cell?_alloc_at _ _ _ _ (by simp)];rfl
 . rw [World.cell?_alloc_at _ _ _ _ (by simp)];rfl
 . rw [World.cell?_alloc_at _ _ _ _ (by simp)];rfl
 . rw [World.cell?_alloc_at _ _ _ _ (by simp)];rfl
 . rw [World.cell?_alloc_past _ _ _ (by simp;omega),World.cell?_alloc_past _ _ _ hs,h.cell (p:=⟨w.heap.size,o,none⟩) (by simp)]
   rw [World.cell?_alloc_at _ _ _ _ rfl]
 . have e1:Bl w1 ((w1.alloc (.cells #[.string A,.string B] 138)).alloc (.cells #[fnV 69 A B,fnV 70 A B,fnV 71 A B,fnV 72 A B] 140)):=(bz _ _).alloc (by simp) _
   rw [e1.frozen (p:=⟨w.heap.size,o,none⟩) hs,h.frozen (p:=⟨w.heap.size,o,none⟩) (by simp)]
   simp [go_sem]
theorem PW.step {w wr w2:World}{b:Nat}{A B:ByteArray}(h:PW w wr b A B) (hb:Bl wr w2):PW w w2 b A B:=by
 have x1:=h.s1
 have x2:=h.s2
 have k:∀ c o,c<=b+1 -> w2.cell? ⟨c,o,none⟩=wr.cell? ⟨c,o,none⟩:=fun c o hc=>hb.cell (p:=⟨c,o,none⟩) (by show c<_;omega)
 exact ⟨h.bel.trans (hb.mono (by omega)),x1,by have:=hb.size;omega,(k _ _ (by omega)).trans h.a0,(k _ _ (by omega)).trans h.f0,(k _ _ (by omega)).trans h.f1,(k _ _ (by omega)).trans h.f2,(k _ _ (by omega)).trans h.f3,fun o=>(k _ _ (by omega)).trans (h.r o),fun o=>(hb.frozen (p:=⟨w.heap.size,o,none⟩) (by show w.heap.size<_;omega)).trans (h.fr o)⟩
theorem qL {sg:Bool}{r:List UInt8}{x:Pt × Nat}(h:bJ r=some x):bZ sg r=some x:=by unfold bZ;rw [h]
theorem yV {sg:Bool}{r:List UInt8}{x:Pt × Nat}(h1:bJ r=none) (h:bK sg r=some x):bZ sg r=some x:=by unfold bZ;rw [h1,h]
theorem yW {sg:Bool}{r:List UInt8}{x:Pt × Nat}(h1:bJ r=none) (h2:bK sg r=none) (h:aQ r=some x):bZ sg r=some x:=by unfold bZ;rw [h1,h2,h]
theorem yX {sg:Bool}{r:List UInt8}{x:Pt × Nat}(h1:bJ r=none) (h2:bK sg r=none) (h3:aQ r=none) (h:cB r=some x):bZ sg r=some x:=by unfold bZ;rw [h1,h2,h3,h]
theorem aEl {sg:Bool}{r:List UInt8}(h1:bJ r=none) (h2:bK sg r=none) (h3:aQ r=none) (h:cB r=none):bZ sg r=none:=by unfold bZ;rw [h1,h2,h3,h]
theorem iI {l:List UInt8}{p:Pt}{n:Nat}(h:bZ (decide (0<sgA l)) (l.drop (sgA l))=some (p,n)):pfx l=some ({ p with neg:=sgM l },sgA l+n):=by unfold pfx;rw [h]
theorem zR {l:List UInt8}(h:bZ (decide (0<sgA l)) (l.drop (sgA l))=none):pfx l=none:=by unfold pfx;rw [h]
theorem iT (x:Option (Pt × Nat)):(∃ p n,x=some (p,n)) \/ x=none:=by
 cases x with
 | none=>exact Or.inr rfl
 | some y=>exact Or.inl ⟨y.1,y.2,rfl⟩
theorem cC {w:World}{o:Nat}:w.heap.size<=(⟨w.heap.size,o,none⟩:Addr).block:=Nat.le_refl _
theorem sZ (l:List UInt8):(l.take (sgA l)).length=sgA l:=by rw [List.length_take];have:=mW l;omega
theorem oS (l:List UInt8) (hl:l.length<=140737488351256) (w:World):Cb 45 #[.string (sB l)] w (pfV (pfx l)):=by
 have T:=fun W=>nB l hl W
 unfold txV at T
 have hd:(l.drop (sgA l)).length<=140737488351256:=by rw [List.length_drop];omega
 have INF:=fun W=>yP (l.take (sgA l)) (l.drop (sgA l)) hd W
 have NAN:=fun W=>aI5 (l.take (sgA l)) (l.drop (sgA l)) (by rw [sZ];exact gU l) hd W
 have HEX:=fun W=>aIT (l.take (sgA l)) (l.drop (sgA l)) hd W
 have DEC:=fun W=>aAw (l.take (sgA l)) (l.drop (sgA l)) hd W
 rw [sZ] at NAN
 have hmf:∀ (fn:Fn) (first cap:Array Value) (w:World),(Instr.makeFunc fn first cap).run Tryz.prog w=.ok (.func fn first cap) w:=fun _ _ _ _=>rfl
 have sg1:=gU l
 have hA:(sB (l.take (sgA l))).size=sgA l:=sZ l
 have se:=aFm l
 go_enter Tryz.func45,Tryz.ntmps45
 go_wp2_with fail
 refine (T _).mono ?_
 rintro o w1 ⟨rfl,b1⟩
 have HP0:=PW.start (w:=w) (sB (l.take (sgA l))) (sB (l.drop (sgA l))) b1
 have HP:Hid (PW w ((w1.alloc (.cells #[.string (sB (l.take (sgA l))),.string (sB (l.drop (sgA l)))] 138)).alloc (.cells #[fnV 69 (sB (l.take (sgA l))) (sB (l.drop (sgA l))),fnV 70 (sB (l.take (sgA l))) (sB (l.drop (sgA l))),fnV 71 (sB (l.take (sgA l))) (sB (l.drop (sgA l))),fnV 72 (sB (l.take (sgA l))) (sB (l.drop (sgA l)))] 140)) w1.heap.size (sB (l.take (sgA l))) (sB (l.drop (sgA l)))):=HP0
 unfold fnV at HP
 clear HP0 b1 T
 go_wp2
 go_loopw [22] (fun iv wr=>∃ k:Nat,k<=4/\iv=vI (k:Int)/\Hid (PW w wr w1.heap.size (sB (l.take (sgA l))) (sB (l.drop (sgA l)))/\(1<=k -> bJ (l.drop (sgA l))=none)/\(2<=k -> bK (decide (0<sgA l)) (l.drop (sgA l))=none)/\(3<=k -> aQ (l.drop (sgA l))=none)/\(4<=k -> cB (l.drop (sgA l))=none))) (fun iv _=>4 - (intOf iv).toNat)
 case atStart=>exact ⟨0,by omega,rfl,HP.out,fun z=>absurd z (by omega),fun z=>absurd z (by omega),fun z=>absurd z (by omega),fun z=>absurd z (by omega)⟩
 case round =>
  clear HP hmf
  obtain ⟨k,hk,rfl,HK⟩:=hrel
  rcases (show k=0 \/ k=1 \/ k=2 \/ k=3 \/ k=4 by omega) with h0 | h1 | h2 | h3 | h4
  . subst h0
    rcases iT (bJ (l.drop (sgA l))) with ⟨p,n,q⟩ | q
    . have HV:Hid (pfV (pfx l)=.tuple #[spV { p with neg:=sgM l },vI ((sgA l+n:Nat):Int),.nilIface]):=by show _=_;rw [iI (qL  q)];rfl
      have hpn:=iC (sg:=decide (0<sgA l)) (qL  q)
      have CX:∀ W,Cb 69 #[.agg #[.string (sB (l.take (sgA l))),.string (sB (l.drop (sgA l)))]] W (.tuple #[spV p,vI (n:Int)]):=fun W=>by have:=INF W;rw [q] at this;exact this
      have HV2:Hid (pfV (pfx l)=.tuple #[.agg #[.bool (sgM l),vI p.kind,.string (sB p.dd),vI p.dp,.bool p.dc,vU (p.mant:Int),vI p.exp,.bool p.cut],vI ((sgA l:Int)+(n:Int)),.nilIface]):=HV.out
      have n0:(0:Int)<(n:Int):=by omega
      have n9:n<=140737488351256:=by omega
      unfold spV at CX
      clear q INF NAN HEX DEC HV hpn
      obtain ⟨bel,x1,x2,a0,f0,f1,f2,f3,rr,fr⟩:=HK.out.1
      unfold fnV at f0 f1 f2 f3
      generalize p.kind=v1 at *
      generalize sB p.dd=v2 at *
      generalize p.dp=v3 at *
      generalize p.dc=v4 at *
      generalize (p.mant:Int)=v5 at *
      generalize p.exp=v6 at *
      generalize p.cut=v7 at *
      generalize p.neg=v8 at *
      generalize sgM l=v0 at *
      generalize sB (l.take (sgA l))=A at *
      generalize sB (l.drop (sgA l))=B at *
      generalize sgA l=gg at *
      go_wp2_with fail
      refine (CX _).mono ?_
      rintro o w3 ⟨rfl,b3⟩
      have HP3:Hid (PW w w3 w1.heap.size A B):=HK.out.1.step b3
      clear b3 bel x1 x2 a0 f0 f1 f2 f3 rr fr HK
      obtain ⟨_,x1,x2,a0,_,_,_,_,rr,fr⟩:=HP3.out
      have x3:w1.heap.size<w3.heap.size:=by omega
      have x4:w.heap.size<w3.heap.size:=by omega
      have r0:=rr 0
      have r1:=rr 1
      have r2:=rr 2
      have r3:=rr 3
      have r4:=rr 4
      have r5:=rr 5
      have r6:=rr 6
      have r7:=rr 7
      simp only [aC] at r0 r1 r2 r3 r4 r5 r6 r7
      clear rr
      go_wp2
      go_region
      go_wp2
      refine bodyPost_ret (v:=.tuple #[.agg #[.bool v0,vI v1,.string v2,vI v3,.bool v4,vU v5,vI v6,.bool v7],vI ((gg:Int)+(n:Int)),.nilIface]) (by simp [results,Tryz.results45,go_sem, *]) rfl ⟨by rw [HV2.out],?_⟩
      refine (Below.alloc ?_ (by simp;omega) _).drew
      iterate 8 (refine Below.setCell ?_ cC _)
      exact HP3.out.bel
    . have HK2:Hid ((1<=1 -> bJ (l.drop (sgA l))=none)/\(2<=1 -> bK (decide (0<sgA l)) (l.drop (sgA l))=none)/\(3<=1 -> aQ (l.drop (sgA l))=none)/\(4<=1 -> cB (l.drop (sgA l))=none)):=⟨fun _=>q,fun z=>absurd z (by omega),fun z=>absurd z (by omega),fun z=>absurd z (by omega)⟩
      have CX:∀ W,Cb 69 #[.agg #[.string (sB (l.take (sgA l))),.string (sB (l.drop (sgA l)))]] W (.tuple #[.agg #[.bool false,vI 0,.string ⟨#[]⟩,vI 0,.bool false,vU 0,vI 0,.bool false],vI 0]):=fun W=>by have:=INF W;rw [q] at this;exact this
      clear q INF NAN HEX DEC
      obtain ⟨bel,x1,x2,a0,f0,f1,f2,f3,rr,fr⟩:=HK.out.1
      unfold fnV at f0 f1 f2 f3
      go_wp2_with fail
      refine (CX _).mono ?_
      rintro o w3 ⟨rfl,b3⟩
      have HP3:Hid (PW w w3 w1.heap.size (sB (l.take (sgA l))) (sB (l.drop (sgA l)))):=HK.out.1.step b3
      clear b3
      go_wp2
      go_roundw
      case rel=>exact ⟨1,by omega,by go_num,HP3.out.step (bz _ _),HK2.out⟩
      case measure=>simp [intOf]
  . subst h1
    rcases iT (bK (decide (0<sgA l)) (l.drop (sgA l))) with ⟨p,n,q⟩ | q
    . have HV:Hid (pfV (pfx l)=.tuple #[spV { p with neg:=sgM l },vI ((sgA l+n:Nat):Int),.nilIface]):=by show _=_;rw [iI (yV (HK.out.2.1 (by omega)) q)];rfl
      have hpn:=iC (sg:=decide (0<sgA l)) (yV (HK.out.2.1 (by omega)) q)
      have CX:∀ W,Cb 70 #[.agg #[.string (sB (l.take (sgA l))),.string (sB (l.drop (sgA l)))]] W (.tuple #[spV p,vI (n:Int)]):=fun W=>by have:=NAN W;rw [q] at this;exact this
      have HV2:Hid (pfV (pfx l)=.tuple #[.agg #[.bool (sgM l),vI p.kind,.string (sB p.dd),vI p.dp,.bool p.dc,vU (p.mant:Int),vI p.exp,.bool p.cut],vI ((sgA l:Int)+(n:Int)),.nilIface]):=HV.out
      have n0:(0:Int)<(n:Int):=by omega
      have n9:n<=140737488351256:=by omega
      unfold spV at CX
      clear q INF NAN HEX DEC HV hpn
      obtain ⟨bel,x1,x2,a0,f0,f1,f2,f3,rr,fr⟩:=HK.out.1
      unfold fnV at f0 f1 f2 f3
      generalize p.kind=v1 at *
      generalize sB p.dd=v2 at *
      generalize p.dp=v3 at *
      generalize p.dc=v4 at *
      generalize (p.mant:Int)=v5 at *
      generalize p.exp=v6 at *
      generalize p.cut=v7 at *
      generalize p.neg=v8 at *
      generalize sgM l=v0 at *
      generalize sB (l.take (sgA l))=A at *
      generalize sB (l.drop (sgA l))=B at *
      generalize sgA l=gg at *
      go_wp2_with fail
      refine (CX _).mono ?_
      rintro o w3 ⟨rfl,b3⟩
      have HP3:Hid (PW w w3 w1.heap.size A B):=HK.out.1.step b3
      clear b3 bel x1 x2 a0 f0 f1 f2 f3 rr fr HK
      obtain ⟨_,x1,x2,a0,_,_,_,_,rr,fr⟩:=HP3.out
      have x3:w1.heap.size<w3.heap.size:=by omega
      have x4:w.heap.size<w3.heap.size:=by omega
      have r0:=rr 0
      have r1:=rr 1
      have r2:=rr 2
      have r3:=rr 3
      have r4:=rr 4
      have r5:=rr 5
      have r6:=rr 6
      have r7:=rr 7
      simp only [aC] at r0 r1 r2 r3 r4 r5 r6 r7
      clear rr
      go_wp2
      go_region
      go_wp2
      refine bodyPost_ret (v:=.tuple #[.agg #[.bool v0,vI v1,.string v2,vI v3,.bool v4,vU v5,vI v6,.bool v7],vI ((gg:Int)+(n:Int)),.nilIface]) (by simp [results,Tryz.results45,go_sem, *]) rfl ⟨by rw [HV2.out],?_⟩
      refine (Below.alloc ?_ (by simp;omega) _).drew
      iterate 8 (refine Below.setCell ?_ cC _)
      exact HP3.out.bel
    . have HK2:Hid ((1<=2 -> bJ (l.drop (sgA l))=none)/\(2<=2 -> bK (decide (0<sgA l)) (l.drop (sgA l))=none)/\(3<=2 -> aQ (l.drop (sgA l))=none)/\(4<=2 -> cB (l.drop (sgA l))=none)):=⟨fun _=>HK.out.2.1 (by omega),fun _=>q,fun z=>absurd z (by omega),fun z=>absurd z (by omega)⟩
      have CX:∀ W,Cb 70 #[.agg #[.string (sB (l.take (sgA l))),.string (sB (l.drop (sgA l)))]] W (.tuple #[.agg #[.bool false,vI 0,.string ⟨#[]⟩,vI 0,.bool false,vU 0,vI 0,.bool false],vI 0]):=fun W=>by have:=NAN W;rw [q] at this;exact this
      clear q INF NAN HEX DEC
      obtain ⟨bel,x1,x2,a0,f0,f1,f2,f3,rr,fr⟩:=HK.out.1
      unfold fnV at f0 f1 f2 f3
      go_wp2_with fail
      refine (CX _).mono ?_
      rintro o w3 ⟨rfl,b3⟩
      have HP3:Hid (PW w w3 w1.heap.size (sB (l.take (sgA l))) (sB (l.drop (sgA l)))):=HK.out.1.step b3
      clear b3
      go_wp2
      go_roundw
      case rel=>exact ⟨2,by omega,by go_num,HP3.out.step (bz _ _),HK2.out⟩
      case measure=>simp [intOf]
  . subst h2
    rcases iT (aQ (l.drop (sgA l))) with ⟨p,n,q⟩ | q
    . have HV:Hid (pfV (pfx l)=.tuple #[spV { p with neg:=sgM l },vI ((sgA l+n:Nat):Int),.nilIface]):=by show _=_;rw [iI (yW (HK.out.2.1 (by omega)) (HK.out.2.2.1 (by omega)) q)];rfl
      have hpn:=iC (sg:=decide (0<sgA l)) (yW (HK.out.2.1 (by omega)) (HK.out.2.2.1 (by omega)) q)
      have CX:∀ W,Cb 71 #[.agg #[.string (sB (l.take (sgA l))),.string (sB (l.drop (sgA l)))]] W (.tuple #[spV p,vI (n:Int)]):=fun W=>by have:=HEX W;rw [q] at this;exact this
      have HV2:Hid (pfV (pfx l)=.tuple #[.agg #[.bool (sgM l),vI p.kind,.string (sB p.dd),vI p.dp,.bool p.dc,vU (p.mant:Int),vI p.exp,.bool p.cut],vI ((sgA l:Int)+(n:Int)),.nilIface]):=HV.out
      have n0:(0:Int)<(n:Int):=by omega
      have n9:n<=140737488351256:=by omega
      unfold spV at CX
      clear q INF NAN HEX DEC HV hpn
      obtain ⟨bel,x1,x2,a0,f0,f1,f2,f3,rr,fr⟩:=HK.out.1
      unfold fnV at f0 f1 f2 f3
      generalize p.kind=v1 at *
      generalize sB p.dd=v2 at *
      generalize p.dp=v3 at *
      generalize p.dc=v4 at *
      generalize (p.mant:Int)=v5 at *
      generalize p.exp=v6 at *
      generalize p.cut=v7 at *
      generalize p.neg=v8 at *
      generalize sgM l=v0 at *
      generalize sB (l.take (sgA l))=A at *
      generalize sB (l.drop (sgA l))=B at *
      generalize sgA l=gg at *
      go_wp2_with fail
      refine (CX _).mono ?_
      rintro o w3 ⟨rfl,b3⟩
      have HP3:Hid (PW w w3 w1.heap.size A B):=HK.out.1.step b3
      clear b3 bel x1 x2 a0 f0 f1 f2 f3 rr fr HK
      obtain ⟨_,x1,x2,a0,_,_,_,_,rr,fr⟩:=HP3.out
      have x3:w1.heap.size<w3.heap.size:=by omega
      have x4:w.heap.size<w3.heap.size:=by omega
      have r0:=rr 0
      have r1:=rr 1
      have r2:=rr 2
      have r3:=rr 3
      have r4:=rr 4
      have r5:=rr 5
      have r6:=rr 6
      have r7:=rr 7
      simp only [aC] at r0 r1 r2 r3 r4 r5 r6 r7
      clear rr
      go_wp2
      go_region
      go_wp2
      refine bodyPost_ret (v:=.tuple #[.agg #[.bool v0,vI v1,.string v2,vI v3,.bool v4,vU v5,vI v6,.bool v7],vI ((gg:Int)+(n:Int)),.nilIface]) (by simp [results,Tryz.results45,go_sem, *]) rfl ⟨by rw [HV2.out],?_⟩
      refine (Below.alloc ?_ (by simp;omega) _).drew
      iterate 8 (refine Below.setCell ?_ cC _)
      exact HP3.out.bel
    . have HK2:Hid ((1<=3 -> bJ (l.drop (sgA l))=none)/\(2<=3 -> bK (decide (0<sgA l)) (l.drop (sgA l))=none)/\(3<=3 -> aQ (l.drop (sgA l))=none)/\(4<=3 -> cB (l.drop (sgA l))=none)):=⟨fun _=>HK.out.2.1 (by omega),fun _=>HK.out.2.2.1 (by omega),fun _=>q,fun z=>absurd z (by omega)⟩
      have CX:∀ W,Cb 71 #[.agg #[.string (sB (l.take (sgA l))),.string (sB (l.drop (sgA l)))]] W (.tuple #[.agg #[.bool false,vI 0,.string ⟨#[]⟩,vI 0,.bool false,vU 0,vI 0,.bool false],vI 0]):=fun W=>by have:=HEX W;rw [q] at this;exact this
      clear q INF NAN HEX DEC
      obtain ⟨bel,x1,x2,a0,f0,f1,f2,f3,rr,fr⟩:=HK.out.1
      unfold fnV at f0 f1 f2 f3
      go_wp2_with fail
      refine (CX _).mono ?_
      rintro o w3 ⟨rfl,b3⟩
      have HP3:Hid (PW w w3 w1.heap.size (sB (l.take (sgA l))) (sB (l.drop (sgA l)))):=HK.out.1.step b3
      clear b3
      go_wp2
      go_roundw
      case rel=>exact ⟨3,by omega,by go_num,HP3.out.step (bz _ _),HK2.out⟩
      case measure=>simp [intOf]
  . subst h3
    rcases iT (cB (l.drop (sgA l))) with ⟨p,n,q⟩ | q
    . have HV:Hid (pfV (pfx l)=.tuple #[spV { p with neg:=sgM l },vI ((sgA l+n:Nat):Int),.nilIface]):=by show _=_;rw [iI (yX (HK.out.2.1 (by omega)) (HK.out.2.2.1 (by omega)) (HK.out.2.2.2.1 (by omega)) q)];rfl
      have hpn:=iC (sg:=decide (0<sgA l)) (yX (HK.out.2.1 (by omega)) (HK.out.2.2.1 (by omega)) (HK.out.2.2.2.1 (by omega)) q)
      have CX:∀ W,Cb 72 #[.agg #[.string (sB (l.take (sgA l))),.string (sB (l.drop (sgA l)))]] W (.tuple #[spV p,vI (n:Int)]):=fun W=>by have:=DEC W;rw [q] at this;exact this
      have HV2:Hid (pfV (pfx l)=.tuple #[.agg #[.bool (sgM l),vI p.kind,.string (sB p.dd),vI p.dp,.bool p.dc,vU (p.mant:Int),vI p.exp,.bool p.cut],vI ((sgA l:Int)+(n:Int)),.nilIface]):=HV.out
      have n0:(0:Int)<(n:Int):=by omega
      have n9:n<=140737488351256:=by omega
      unfold spV at CX
      clear q INF NAN HEX DEC HV hpn
      obtain ⟨bel,x1,x2,a0,f0,f1,f2,f3,rr,fr⟩:=HK.out.1
      unfold fnV at f0 f1 f2 f3
      generalize p.kind=v1 at *
      generalize sB p.dd=v2 at *
      generalize p.dp=v3 at *
      generalize p.dc=v4 at *
      generalize (p.mant:Int)=v5 at *
      generalize p.exp=v6 at *
      generalize p.cut=v7 at *
      generalize p.neg=v8 at *
      generalize sgM l=v0 at *
      generalize sB (l.take (sgA l))=A at *
      generalize sB (l.drop (sgA l))=B at *
      generalize sgA l=gg at *
      go_wp2_with fail
      refine (CX _).mono ?_
      rintro o w3 ⟨rfl,b3⟩
      have HP3:Hid (PW w w3 w1.heap.size A B):=HK.out.1.step b3
      clear b3 bel x1 x2 a0 f0 f1 f2 f3 rr fr HK
      obtain ⟨_,x1,x2,a0,_,_,_,_,rr,fr⟩:=HP3.out
      have x3:w1.heap.size<w3.heap.size:=by omega
      have x4:w.heap.size<w3.heap.size:=by omega
      have r0:=rr 0
      have r1:=rr 1
      have r2:=rr 2
      have r3:=rr 3
      have r4:=rr 4
      have r5:=rr 5
      have r6:=rr 6
      have r7:=rr 7
      simp only [aC] at r0 r1 r2 r3 r4 r5 r6 r7
      clear rr
      go_wp2
      go_region
      go_wp2
      refine bodyPost_ret (v:=.tuple #[.agg #[.bool v0,vI v1,.string v2,vI v3,.bool v4,vU v5,vI v6,.bool v7],vI ((gg:Int)+(n:Int)),.nilIface]) (by simp [results,Tryz.results45,go_sem, *]) rfl ⟨by rw [HV2.out],?_⟩
      refine (Below.alloc ?_ (by simp;omega) _).drew
      iterate 8 (refine Below.setCell ?_ cC _)
      exact HP3.out.bel
    . have HK2:Hid ((1<=4 -> bJ (l.drop (sgA l))=none)/\(2<=4 -> bK (decide (0<sgA l)) (l.drop (sgA l))=none)/\(3<=4 -> aQ (l.drop (sgA l))=none)/\(4<=4 -> cB (l.drop (sgA l))=none)):=⟨fun _=>HK.out.2.1 (by omega),fun _=>HK.out.2.2.1 (by omega),fun _=>HK.out.2.2.2.1 (by omega),fun _=>q⟩
      have CX:∀ W,Cb 72 #[.agg #[.string (sB (l.take (sgA l))),.string (sB (l.drop (sgA l)))]] W (.tuple #[.agg #[.bool false,vI 0,.string ⟨#[]⟩,vI 0,.bool false,vU 0,vI 0,.bool false],vI 0]):=fun W=>by have:=DEC W;rw [q] at this;exact this
      clear q INF NAN HEX DEC
      obtain ⟨bel,x1,x2,a0,f0,f1,f2,f3,rr,fr⟩:=HK.out.1
      unfold fnV at f0 f1 f2 f3
      go_wp2_with fail
      refine (CX _).mono ?_
      rintro o w3 ⟨rfl,b3⟩
      have HP3:Hid (PW w w3 w1.heap.size (sB (l.take (sgA l))) (sB (l.drop (sgA l)))):=HK.out.1.step b3
      clear b3
      go_wp2
      go_roundw
      case rel=>exact ⟨4,by omega,by go_num,HP3.out.step (bz _ _),HK2.out⟩
      case measure=>simp [intOf]
  . subst h4
    have HV:Hid (pfV (pfx l)=.tuple #[.agg #[.bool false,vI 0,.string ⟨#[]⟩,vI 0,.bool false,vU 0,vI 0,.bool false],vI 0,.iface 63 (vI 3)]):=by show _=_;rw [zR (aEl (HK.out.2.1 (by omega)) (HK.out.2.2.1 (by omega)) (HK.out.2.2.2.1 (by omega)) (HK.out.2.2.2.2 (by omega)))];rfl
    clear INF NAN HEX DEC
    obtain ⟨_,x1,x2,a0,_,_,_,_,rr,fr⟩:=HK.out.1
    have r0:=rr 0
    have r1:=rr 1
    have r2:=rr 2
    have r3:=rr 3
    have r4:=rr 4
    have r5:=rr 5
    have r6:=rr 6
    have r7:=rr 7
    simp only [aC] at r0 r1 r2 r3 r4 r5 r6 r7
    clear rr
    go_wp2
    refine bodyPost_ret (v:=.tuple #[.agg #[.bool false,vI 0,.string ⟨#[]⟩,vI 0,.bool false,vU 0,vI 0,.bool false],vI 0,.iface 63 (vI 3)]) (by simp [results,Tryz.results45,go_sem, *]) rfl ⟨by rw [HV.out],?_⟩
    iterate 8 (refine Below.setCell ?_ cC _)
    exact HK.out.1.bel
def scV:Option Pt -> Value
 | none=>.tuple #[.agg #[.bool false,vI 0,.string ⟨#[]⟩,vI 0,.bool false,vU 0,vI 0,.bool false],.iface 63 (vI 3)]
 | some p=>.tuple #[spV p,.nilIface]
theorem aAu {l:List UInt8}(h:pfx l=none):scn l=none:=by unfold scn;rw [h]
theorem aAv {l:List UInt8}{p:Pt}{n:Nat}(h:pfx l=some (p,n)):scn l=if n=l.length then some p else none:=by unfold scn;rw [h]
structure SW (w wr:World):Prop where
 bel:Bl w wr
 s1:w.heap.size<wr.heap.size
 r:∀ o,wr.cell? ⟨w.heap.size,o,none⟩=aC[o]?
 fr:∀ o,wr.frozen? ⟨w.heap.size,o,none⟩=false
theorem SW.start {w w1:World}(h:Below (w.alloc (.cells aC 43)).heap.size (w.alloc (.cells aC 43)) w1):SW w w1:=by
 have hs:w.heap.size<w1.heap.size:=by have:=h.size;simp at this;omega
 refine ⟨(bz _ _).trans (h.mono (by simp)),hs,fun o=>?_,fun o=>?_⟩
 . rw [h.cell (p:=⟨w.heap.size,o,none⟩) (by simp),World.cell?_alloc_at _ _ _ _ rfl]
 . rw [h.frozen (p:=⟨w.heap.size,o,none⟩) (by simp)]
   simp [go_sem]
theorem aHy      (l : List UInt8) (hl : l.length ≤ 140737488351256) (w : World) : Calls Tryz.prog 27 #[.string (sB l)] w fun e w' => e = .returned (scV (scn l)) ∧ Below w.heap.size w w' := by
  have PX := fun W => oS          l hl W
  have hz : (sB l).size = l.length := rfl
  cases q : pfx l with
  | none =>
    rw [aAu      q]
    have PX2 : ∀ W, Calls Tryz.prog 45 #[.string (sB l)] W fun e w' => e = .returned (.tuple #[.agg #[.bool false, .int .i64 0, .string ⟨#[]⟩, .int .i64 0, .bool false, .int .u64 0, .int .i64 0, .bool false], .int .i64 0, .iface 63 (.int .i64 3)]) ∧ Below W.heap.size W w' := fun W => by have := PX W; rw [q] at this; exact this
    clear PX q hl hz
    generalize sB l = s at *
    show Calls _ _ _ _ fun e w' => e = .returned (.tuple #[.agg #[.bool false, .int .i64 0, .string ⟨#[]⟩, .int .i64 0, .bool false, .int .u64 0, .int .i64 0, .bool false], .iface 63 (.int .i64 3)]) ∧ _
    go_enter Tryz.func27, Tryz.ntmps27
    go_wp2_with fail
    refine (PX2 _).mono ?_
    rintro o w1 ⟨rfl, b1⟩
    have HS1 : Hid (SW w w1) := SW.start b1
    clear b1
    obtain ⟨_, x1, rr, fr⟩ := HS1.out
    have r0 := rr 0
    have r1 := rr 1
    have r2 := rr 2
    have r3 := rr 3
    have r4 := rr 4
    have r5 := rr 5
    have r6 := rr 6
    have r7 := rr 7
    simp only [aC   ] at r0 r1 r2 r3 r4 r5 r6 r7
    clear rr
    go_wp2
    refine bodyPost_ret (v := .tuple #[.agg #[.bool false, .int .i64 0, .string ⟨#[]⟩, .int .i64 0, .bool false, .int .u64 0, .int .i64 0, .bool false], .iface 63 (.int .i64 3)]) (by simp [results, Tryz.results27, go_sem, *]) rfl ⟨rfl, ?_⟩
    refine Below.alloc ?_ (by simp; omega) _
    iterate 8 (refine Below.setCell ?_ cC      _)
    exact HS1.out.bel
  | some x =>
    obtain ⟨p, n⟩ := x
    rw [aAv      q]
    have hpn := aBB     q
    have PX2 : ∀ W, Calls Tryz.prog 45 #[.string (sB l)] W fun e w' => e = .returned (.tuple #[spV p, .int .i64 (n : Int), .nilIface]) ∧ Below W.heap.size W w' := fun W => by have := PX W; rw [q] at this; exact this
    unfold spV at PX2
    by_cases z : n = l.length
    · rw [if_pos z]
      show Calls _ _ _ _ fun e w' => e = .returned (.tuple #[.agg #[.bool p.neg, .int .i64 p.kind, .string (sB p.dd), .int .i64 p.dp, .bool p.dc, .int .u64 (p.mant : Int), .int .i64 p.exp, .bool p.cut], .nilIface]) ∧ _
      have n0 : ¬ (n : Int) < ((sB l).size : Int) := by omega
      clear q PX hl hz z hpn
      generalize sB l = s at *
      generalize p.kind = v1 at *
      generalize sB p.dd = v2 at *
      generalize p.dp = v3 at *
      generalize p.dc = v4 at *
      generalize (p.mant : Int) = v5 at *
      generalize p.exp = v6 at *
      generalize p.cut = v7 at *
      generalize p.neg = v0 at *
      go_enter Tryz.func27, Tryz.ntmps27
      go_wp2_with fail
      refine (PX2 _).mono ?_
      rintro o w1 ⟨rfl, b1⟩
      have HS1 : Hid (SW w w1) := SW.start b1
      clear b1
      obtain ⟨_, x1, rr, fr⟩ := HS1.out
      have r0 := rr 0
      have r1 := rr 1
      have r2 := rr 2
      have r3 := rr 3
      have r4 := rr 4
      have r5 := rr 5
      have r6 := rr 6
      have r7 := rr 7
      simp only [aC   ] at r0 r1 r2 r3 r4 r5 r6 r7
      clear rr
      go_wp2
      refine bodyPost_ret (v := .tuple #[.agg #[.bool v0, .int .i64 v1, .string v2, .int .i64 v3, .bool v4, .int .u64 v5, .int .i64 v6, .bool v7], .nilIface]) (by simp [results, Tryz.results27, go_sem, *]) rfl ⟨rfl, ?_⟩
      refine Below.alloc ?_ (by simp; omega) _
      iterate 8 (refine Below.setCell ?_ cC      _)
      exact HS1.out.bel
    · rw [if_neg z]
      show Calls _ _ _ _ fun e w' => e = .returned (.tuple #[.agg #[.bool false, .int .i64 0, .string ⟨#[]⟩, .int .i64 0, .bool false, .int .u64 0, .int .i64 0, .bool false], .iface 63 (.int .i64 3)]) ∧ _
      have n0 : (n : Int) < ((sB l).size : Int) := by omega
      clear q PX hl hz z hpn
      generalize sB l = s at *
      generalize p.kind = v1 at *
      generalize sB p.dd = v2 at *
      generalize p.dp = v3 at *
      generalize p.dc = v4 at *
      generalize (p.mant : Int) = v5 at *
      generalize p.exp = v6 at *
      generalize p.cut = v7 at *
      generalize p.neg = v0 at *
      go_enter Tryz.func27, Tryz.ntmps27
      go_wp2_with fail
      refine (PX2 _).mono ?_
      rintro o w1 ⟨rfl, b1⟩
      have HS1 : Hid (SW w w1) := SW.start b1
      clear b1
      obtain ⟨_, x1, rr, fr⟩ := HS1.out
      have r0 := rr 0
      have r1 := rr 1
      have r2 := rr 2
      have r3 := rr 3
      have r4 := rr 4
      have r5 := rr 5
      have r6 := rr 6
      have r7 := rr 7
      simp only [aC   ] at r0 r1 r2 r3 r4 r5 r6 r7
      clear rr
      go_wp2
      refine bodyPost_ret (v := .tuple #[.agg #[.bool false, .int .i64 0, .string ⟨#[]⟩, .int .i64 0, .bool false, .int .u64 0, .int .i64 0, .bool false], .iface 63 (.int .i64 3)]) (by simp [results, Tryz.results27, go_sem, *]) rfl ⟨rfl, ?_⟩
      refine Below.alloc ?_ (by simp; omega) _
      iterate 8 (refine Below.setCell ?_ cC      _)
      exact HS1.out.bel
end Go.Proofs.YtejgpbhionadbaaGreatDoor
