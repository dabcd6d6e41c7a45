/-
  Holds: UHxB.
-/
import Derived.Test.YtejgpbhionadbaaGreatDoorRows
import Derived.Laws.Externs
import Derived.WalkKit
import Derived.WalkSpells
import Derived.WalkLawsBesides
import Derived.Lib.Mul64
import Derived.Lib.TrailingZeros
import Derived.Lib.ItoaNum
import Derived.Deep.OwnRows
import Derived.Laws.CopyOwn
import Derived.BigQuiet
import Derived.Deep.RegionHeld3
import Derived.Deep.LoopGhost
import Derived.Deep.AppendLies
import Derived.Deep.DeepCutAuto
import Derived.Stop.Asserts
import Derived.RowKitTokens
import Derived.Lib.Strings
import Derived.Lib.BufferWrite
import Derived.Lib.ConvBytes
import Derived.Test.YtejgpbhionadbaaGreatDoorXl19
import Derived.Test.YtejgpbhionadbaaGreatDoorXl24
import Derived.Test.YtejgpbhionadbaaGreatDoorXl33
set_option maxRecDepth 100000
set_option maxHeartbeats 4000000
namespace Go.Proofs.YtejgpbhionadbaaGreatDoor
open Go.RowKit
theorem aGB {s:Int}{g n f T:Nat}{L:Int}(hz:Fz s g n f T L) {m:Nat}{e:Int}(hm:m<18446744073709551616) (h0:-4398046511104<=e) (h1:e<=4398046511104) (w:World):Cb 103 #[.agg #[vI s,vI ((f:Int)+1),vI L],vU (m:Int),vI e] w (vI (((dpD f L m e).toNat:Nat):Int)):=by
 have HL:=fun W=>aO (m:Int) ⟨by omega,by omega⟩ W
 rw [show aM (m:Int)=(ln m:Int) from bF m hm] at HL
 have hf:f<=52:=by rcases hz with ⟨_,_,_,h,_⟩ | ⟨_,_,_,h,_⟩ <;> omega
 have hL:-1074<=L/\L<=0:=by rcases hz with ⟨_,_,_,_,_,h⟩ | ⟨_,_,_,_,_,h⟩ <;> omega
 have hl:ln m<=64:=(aE m 64).2 (by omega)
 obtain ⟨D,hD⟩:∃ D:Nat,(dpD f L m e).toNat=D:=⟨_,rfl⟩
 have hD':dpD f L m e=(D:Int):=by rw [<- hD];unfold dpD;omega
 have E:(if (if 0<IntKind.i64.wrap ((ln m:Int) - ((f:Int)+1)) then IntKind.i64.wrap ((ln m:Int) - ((f:Int)+1)) else 0)<IntKind.i64.wrap (L - e) then IntKind.i64.wrap (L - e) else if 0<IntKind.i64.wrap ((ln m:Int) - ((f:Int)+1)) then IntKind.i64.wrap ((ln m:Int) - ((f:Int)+1)) else 0)=(D:Int):=by
  rw [IntWalk.i64_in ((ln m:Int) - ((f:Int)+1)) ⟨by omega,by omega⟩,IntWalk.i64_in (L - e) ⟨by omega,by omega⟩,<- hD']
  unfold dpD
  split <;> split <;> omega
 rw [hD]
 have HE:Hid _:=E
 clear E hD hD' hL hl hf hz
 generalize ln m=l at *
 go_enter Tryz.func103,Tryz.ntmps103
 go_upto_region 1 with fail
 go_region_held3 (fun w'=>w'.cell? ⟨w.heap.size,0,none⟩=some (vI s)/\w'.cell? ⟨w.heap.size,1,none⟩=some (vI ((f:Int)+1))/\w'.cell? ⟨w.heap.size,2,none⟩=some (vI L)) (simp [*,go_sem])
  (first
   | (go_at_call 140;refine (HL _).mono ?_;rintro x1 w2 ⟨rfl,hh⟩;subst hh))
 rw [HE.out]
 clear HE
 have B0:Hid (Bl w (w.alloc (.cells #[vI s,vI ((f:Int)+1),vI L] 175)).drew):=(bz _ _).drew
 generalize (w.alloc (.cells #[vI s,vI ((f:Int)+1),vI L] 175)).drew=v at *
 go_wp2
 go_ret
 exact ⟨rfl,B0.out⟩
def hpA (f T:Nat) (L:Int) (m:Nat) (p:Int):Nat × Bool:=if m=0 then (0,false) else match pk f (T:Int) L m p with | some b=>(b,false) | none=>(T * 2 ^ f,true)
theorem aEi       {s : Int} {g n f T : Nat} {L : Int} (hz : Fz s g n f T L) (c : Bool) {m : Nat} {p : Int} (hm : m < 18446744073709551616) (hp0 : -9223372036854775808 ≤ p) (a b : Int) (w : World) (hT : Tab w) : Calls Tryz.prog 104 #[.agg #[.int .i64 s, .int .i64 a, .int .i64 b], .bool c, .int .u64 (m : Int), .int .i64 p] w fun e w' => e = .returned (anV g c (hpA f T L m p)) ∧ Below w.heap.size w w' := by
  have B0 : Hid (Below w.heap.size w (w.alloc (.cells #[.int .i64 s, .int .i64 a, .int .i64 b] 175))) := (Below.refl _ _).alloc (Nat.le_refl _) _
  have G0 : Hid (GrB (w.alloc (.cells #[.int .i64 s, .int .i64 a, .int .i64 b] 175)) w.heap.size _ _ _) := GrB.new w _ _ _ _
  by_cases m0 : m = 0
  · subst m0
    have e : anV g c (hpA f T L 0 p) = .tuple #[.int .u64 ((sgd g c 0 : Nat) : Int), .nilIface] := by unfold hpA; rw [if_pos rfl]; rfl
    rw [e]
    have HZ := fun W => rP     hz c W
    clear e hz hT
    generalize sgd g c 0 = y at *
    go_enter Tryz.func104, Tryz.ntmps104
    go_wp2_with fail
    refine (HZ _).mono ?_
    rintro e w1 ⟨rfl, hb⟩
    have B1 : Hid (Below w.heap.size w w1) := B0.out.trans (hb.mono B0.out.size)
    clear hb
    go_wp2
    go_ret2
    exact ⟨rfl, B1.out⟩
  · have q0 : ((m : Int) == 0) = false := by simp; omega
    have HP := fun W hW => rA     (p := p) hz c hm m0 hp0 W hW
    have HI := fun W => nT    hz c W
    have HT : Hid (Tab w) := hT
    cases hk : pk f (T : Int) L m p with
    | some y =>
      have e : anV g c (hpA f T L m p) = .tuple #[.int .u64 ((sgd g c y : Nat) : Int), .nilIface] := by unfold hpA; rw [if_neg m0, hk]; rfl
      rw [e]
      simp only [hk] at HP
      clear e hk hT hz
      generalize sgd g c y = y at *
      go_enter Tryz.func104, Tryz.ntmps104
      go_wp2_with fail
      refine (HP _ (HT.out.below B0.out HT.out.pos)).mono ?_
      rintro e w1 ⟨rfl, hb⟩
      have B1 : Hid (Below w.heap.size w w1) := B0.out.trans (hb.mono B0.out.size)
      clear hb
      go_wp2
      go_ret2
      exact ⟨rfl, B1.out⟩
    | none =>
      have e : anV g c (hpA f T L m p) = .tuple #[.int .u64 ((sgd g c (T * 2 ^ f) : Nat) : Int), .iface 63 (.int .i64 4)] := by unfold hpA; rw [if_neg m0, hk]; rfl
      rw [e]
      simp only [hk] at HP
      clear e hk hT hz
      generalize sgd g c (T * 2 ^ f) = y at *
      go_enter Tryz.func104, Tryz.ntmps104
      go_wp2_with fail
      refine (HP _ (HT.out.below B0.out HT.out.pos)).mono ?_
      rintro e w1 ⟨rfl, hb⟩
      have B1 : Hid (Below w.heap.size w w1) := B0.out.trans (hb.mono B0.out.size)
      have G1 : Hid (GrB w1 w.heap.size _ _ _) := G0.out.step hb
      clear hb B0 G0
      obtain ⟨_, a0, a1, a2, _, _, _⟩ := G1.out
      go_wp2_with fail
      refine (HI _).mono ?_
      rintro e w2 ⟨rfl, hb⟩
      have B2 : Hid (Below w.heap.size w w2) := B1.out.trans (hb.mono B1.out.size)
      clear hb
      go_wp2
      go_ret2
      exact ⟨rfl, B2.out⟩
theorem aAU {s:Int}{f:Nat}{L:Int}{c more:Bool}{m D dd y:Nat}{e e' p:Int}{E V:Value}{w:World}(hT:Tab w) (he:e'=clK 2000 e) (hp:e'+(D:Int)=p) (hp1:-9223372036854775808<=p) (hp2:p<9223372036854775808)
 (HG:∀ W,Cb 102 #[vI s] W (.tuple #[.agg #[vI s,vI ((f:Int)+1),vI L],.nilIface]))
 (HR:∀ W,Cb 103 #[.agg #[vI s,vI ((f:Int)+1),vI L],vU (m:Int),vI e'] W (vI (D:Int)))
 (HD:∀ W,Cb 105 #[vU (m:Int),vI (D:Int),.bool more] W (vU (dd:Int)))
 (HP:∀ W,Tab W -> Cb 104 #[.agg #[vI s,vI ((f:Int)+1),vI L],.bool c,vU (dd:Int),vI p] W (.tuple #[vU (y:Int),E]))
 (hV:(more=false/\V=.tuple #[vU (y:Int),E]) \/ (more=true/\D ≠ 0/\V=.tuple #[vU (y:Int),E]) \/ (more=true/\D=0/\E=.iface 63 (vI 4)/\V=.tuple #[vU (y:Int),E]) \/ (more=true/\D=0/\E=.nilIface/\V=.tuple #[vU 0,.iface 63 (vI 1)])) :
 Cb 75 #[.bool c,vU (m:Int),vI e,.bool more,vI s] w V:=by
 have HT:Hid (Tab w):=hT
 have HE:Hid (e'=clK 2000 e):=he
 have HV:Hid _:=hV
 have HPP:Hid (e'+(D:Int)=p):=hp
 clear hT he hV hp
 go_enter Tryz.func75,Tryz.ntmps75
 go_wp2_with fail
 refine (HG _).mono ?_
 rintro x w1 ⟨rfl,hb⟩
 have B2:Hid (Bl w (w1.alloc (.cells #[vI s,vI ((f:Int)+1),vI L] 175))):=hb.alloc hb.size _
 have G2:Hid (GrB (w1.alloc (.cells #[vI s,vI ((f:Int)+1),vI L] 175)) w1.heap.size _ _ _):=GrB.new w1 _ _ _ _
 clear hb
 go_upto_region 4 with fail
 generalize (w1.alloc (.cells #[vI s,vI ((f:Int)+1),vI L] 175))=w2 at *
 generalize w1.heap.size=k at *
 go_cut [2] (fun ev wx=>wx=w2/\ev=vI e')
 case first =>
  go_wp2
  all_goals go_meet
  all_goals exact ⟨rfl,congrArg (Value.int .i64) (by have:=HE.out;unfold clK at this;omega)⟩
 case rest =>
 obtain ⟨hcw,rfl⟩:=hcut
 have hcw2:=hcw.symm
 subst hcw2
 obtain ⟨l2,a0,a1,a2,_,_,_⟩:=G2.out
 go_wp2_with fail
 refine (HR _).mono ?_
 rintro x w3 ⟨rfl,hb⟩
 have B3:Hid (Bl w w3):=B2.out.trans (hb.mono B2.out.size)
 have G3:Hid (GrB w3 k _ _ _):=G2.out.step hb
 clear hb B2 G2 a0 a1 a2 l2
 obtain ⟨l3,a0,a1,a2,_,_,_⟩:=G3.out
 have wp:IntKind.i64.wrap (e'+(D:Int))=p:=by rw [HPP.out];exact IntWalk.i64_in _ ⟨by omega,by omega⟩
 go_upto_region 6 with fail
 have TD:Hid (Tab w3.drew):=HT.out.below B3.out.drew HT.out.pos
 go_region_held3 (fun w'=>w'.cell? ⟨k,0,none⟩=some (vI s)/\w'.cell? ⟨k,1,none⟩=some (vI ((f:Int)+1))/\w'.cell? ⟨k,2,none⟩=some (vI L)) (simp [*,go_sem])
  (first
   | (go_at_call 105;refine (HD _).mono ?_;rintro x1 w4 ⟨rfl,hh⟩;obtain ⟨hc2,hf2⟩:=dG hh;have s2:=hh.size;have k0:=hc2 k 0 (by simpa using l3);have k1:=hc2 k 1 (by simpa using l3);have k2:=hc2 k 2 (by simpa using l3);have T4:Hid (Tab w4):=TD.out.next hh;have B4:Hid (Bl w w4):=B3.out.drew.trans (hh.mono B3.out.drew.size);have l4:k<w4.heap.size:=Nat.lt_of_lt_of_le l3 s2)
   | (go_at_call 104;refine (HP _ T4.out).mono ?_;rintro x1 w5 ⟨rfl,hh3⟩;obtain ⟨hc3,hf3⟩:=dG hh3;have j0:=hc3 k 0 l4;have j1:=hc3 k 1 l4;have j2:=hc3 k 2 l4;have B5:Hid (Bl w w5):=B4.out.trans (hh3.mono B4.out.size)))
 all_goals
  clear a0 a1 a2
  rcases HV.out with ⟨rfl,rfl⟩ | ⟨rfl,d0,rfl⟩ | ⟨rfl,rfl,rfl,rfl⟩ | ⟨rfl,rfl,rfl,rfl⟩
  . go_wp2
    go_ret2
    exact ⟨rfl,B5.out⟩
  . have dz:((D:Int) == 0)=false:=by simp;omega
    go_wp2
    go_ret2
    exact ⟨rfl,B5.out⟩
  . go_wp2
    go_ret2
    exact ⟨rfl,B5.out⟩
  . go_wp2
    go_ret2
    exact ⟨rfl,B5.out⟩
def hxV (g:Nat) (c:Bool):Option (Nat × Bool) -> Value
 | none=>.tuple #[vU 0,.iface 63 (vI 1)]
 | some p=>anV g c p
theorem aI8 (f T:Nat) (L:Int) (m:Nat) (e:Int) (more:Bool):ndA f T L m e more=hpA f T L (dpK m (dpD f L m e).toNat more) (e+dpD f L m e):=rfl
theorem aGy {s:Int}{g n f T:Nat}{L:Int}(hz:Fz s g n f T L):0<f/\f<=52/\2<=T/\(f:Int)+L+T<=2000 /\ -1900<=L/\L<=0/\T * 2 ^ f<g/\g<=9223372036854775808:=by
 rcases hz with ⟨rfl,rfl,rfl,rfl,rfl,rfl⟩ | ⟨rfl,rfl,rfl,rfl,rfl,rfl⟩
 . decide
 . decide
theorem aEj {s:Int}{g n f T:Nat}{L:Int}(hz:Fz s g n f T L) (c:Bool) {m:Nat}(hm:m<18446744073709551616) (e:Int) (more:Bool) (w:World) (hT:Tab w):Cb 75 #[.bool c,vU (m:Int),vI e,.bool more,vI s] w (hxV g c (hxA f T L m e more)):=by
 obtain ⟨f1,f2,t1,b1,l1,l2,_⟩:=aGy hz
 obtain ⟨e',he⟩:∃ e',e'=clK 2000 e:=⟨_,rfl⟩
 rw [<- aK0 f1 (by omega) b1 l1 l2 (show m<2 ^ 64 from hm) (show (2000:Int)<=2000 by decide) e more,<- he]
 have eb:-2000<=e'/\e'<=2000:=by rw [he];unfold clK;omega
 have nd:=zH (T:=T) (L:=L) (e:=e') f1 t1 more (show m<2 ^ 64 from hm)
 rw [aI8] at nd
 have hl:ln m<=64:=(aE m 64).2 (by omega)
 obtain ⟨D,hD⟩:∃ D:Nat,(dpD f L m e').toNat=D:=⟨_,rfl⟩
 have hD':dpD f L m e'=(D:Int):=by rw [<- hD];unfold dpD;omega
 have hD2:D<4000:=by rw [<- hD];unfold dpD;omega
 have HR:=fun W=>aGB hz (m:=m) (e:=e') hm (by omega) (by omega) W
 have HD:=fun W=>yO (D:=D) hm (by omega) more W
 have HP:=fun W hW=>aEi hz c (m:=dpK m D more) (p:=e'+(D:Int)) (xS hm) (by omega) ((f:Int)+1) L W hW
 rw [hD] at HR
 rw [hD,hD'] at nd
 rw [nd] at HP
 unfold hxA
 rw [hD']
 generalize rdA f T L m 1 e' more=P at *
 obtain ⟨b,ov⟩:=P
 refine aAU (E:=if ov then .iface 63 (vI 4) else .nilIface) (y:=sgd g c b) hT he rfl (by omega) (by omega) (fun W=>aEh hz W) HR HD HP ?_
 cases more
 . exact .inl ⟨rfl,by rw [if_neg (by simp)];rfl⟩
 . by_cases d0:D=0
   . subst d0
     cases ov
     . exact .inr (.inr (.inr ⟨rfl,rfl,rfl,by rw [if_pos ⟨rfl,rfl,rfl⟩];rfl⟩))
     . exact .inr (.inr (.inl ⟨rfl,rfl,rfl,by rw [if_neg (by simp)];rfl⟩))
   . exact .inr (.inl ⟨rfl,d0,by rw [if_neg (by simp;omega)];rfl⟩)
def ptV (c:Bool) (k:Int) (d:ByteArray) (q:Int) (u:Bool) (m e:Int) (r:Bool):Value:=.agg #[.bool c,vI k,.string d,vI q,.bool u,vU m,vI e,.bool r]
structure PtB (W:World) (K:Nat) (c:Bool) (k:Int) (d:ByteArray) (q:Int) (u:Bool) (m e:Int) (r:Bool):Prop where
 lt:K<W.heap.size
 a0:W.cell? ⟨K,0,none⟩=some (.bool c)
 a1:W.cell? ⟨K,1,none⟩=some (vI k)
 a2:W.cell? ⟨K,2,none⟩=some (.string d)
 a3:W.cell? ⟨K,3,none⟩=some (vI q)
 a4:W.cell? ⟨K,4,none⟩=some (.bool u)
 a5:W.cell? ⟨K,5,none⟩=some (vU m)
 a6:W.cell? ⟨K,6,none⟩=some (vI e)
 a7:W.cell? ⟨K,7,none⟩=some (.bool r)
theorem PtB.step {W W':World}{K:Nat}{c:Bool}{k:Int}{d:ByteArray}{q:Int}{u:Bool}{m e:Int}{r:Bool}(h:PtB W K c k d q u m e r) (hb:Bl W W'):PtB W' K c k d q u m e r:=by
 have j:=fun o=>hb.cell (p:=⟨K,o,none⟩) h.lt
 exact ⟨Nat.lt_of_lt_of_le h.lt hb.size,(j 0).trans h.a0,(j 1).trans h.a1,(j 2).trans h.a2,(j 3).trans h.a3,(j 4).trans h.a4,(j 5).trans h.a5,(j 6).trans h.a6,(j 7).trans h.a7⟩
theorem PtB.new (W:World) (c:Bool) (k:Int) (d:ByteArray) (q:Int) (u:Bool) (m e:Int) (r:Bool) (T:TypeId):PtB (W.alloc (.cells #[.bool c,vI k,.string d,vI q,.bool u,vU m,vI e,.bool r] T)) W.heap.size c k d q u m e r :=
 ⟨by simp,by simp,by simp,by simp,by simp,by simp,by simp,by simp,by simp⟩
theorem aKZ {s:Int}{g n f T:Nat}{L:Int}(hz:Fz s g n f T L) (c:Bool) (d:ByteArray) (q:Int) (u:Bool) {m:Nat}(hm:m<18446744073709551616) (e:Int) (r:Bool) (w:World) (hT:Tab w):Cb 48 #[ptV c 2 d q u (m:Int) e r,vI s] w (hxV g c (hxA f T L m e r)):=by
 have H:=fun W=>jK hz W
 have HR:=fun W hW=>aEj hz c hm e r W hW
 have HT:Hid (Tab w):=hT
 have B0:Hid (Bl w (w.alloc (.cells #[.bool c,vI 2,.string d,vI q,.bool u,vU (m:Int),vI e,.bool r] 43))):=bz _ _
 have G0:Hid (PtB (w.alloc (.cells #[.bool c,vI 2,.string d,vI q,.bool u,vU (m:Int),vI e,.bool r] 43)) w.heap.size c 2 d q u m e r):=PtB.new w c 2 d q u m e r _
 obtain ⟨V1,V2,hV⟩:∃ V1 V2,hxV g c (hxA f T L m e r)=.tuple #[V1,V2]:=by
  cases hxA f T L m e r with
  | none=>exact ⟨_,_,rfl⟩
  | some p=>exact ⟨_,_,rfl⟩
 rw [hV] at HR ⊢
 clear hz hm hV hT
 unfold ptV
 go_enter Tryz.func48,Tryz.ntmps48
 go_wp2_with fail
 refine (H _).mono ?_
 rintro x w1 ⟨rfl,hb⟩
 have B1:Hid (Bl w w1):=B0.out.trans (hb.mono B0.out.size)
 have G1:Hid (PtB w1 w.heap.size c 2 d q u m e r):=G0.out.step hb
 clear hb G0 B0
 obtain ⟨_,a0,a1,_,_,_,a5,a6,a7⟩:=G1.out
 go_wp2_with fail
 refine (HR _ (HT.out.below B1.out HT.out.pos)).mono ?_
 rintro x w2 ⟨rfl,hb⟩
 have B2:Hid (Bl w w2):=B1.out.trans (hb.mono B1.out.size)
 clear hb
 go_wp2
 go_ret2
 exact ⟨rfl,B2.out⟩
end Go.Proofs.YtejgpbhionadbaaGreatDoor
