/-
  Holds: UScR UScS.
-/
import Derived.Test.YtejgpbhionadbaaGreatDoorChecked
import Derived.WalkKit
import Derived.Deep.DeepMust
import Derived.Lib.Strings
import Derived.Lib.BufferWrite
import Derived.Deep.OwnRows
import Derived.Deep.RegionHeld3
import Derived.Deep.QuietTactic
import Derived.BigQuiet
import Derived.Deep.AppendLies
import Derived.Lib.ConvBytes
import Derived.Test.YtejgpbhionadbaaGreatDoorXl26
import Derived.Test.YtejgpbhionadbaaGreatDoorXl30
set_option maxRecDepth 100000
set_option maxHeartbeats 4000000
namespace Go.Proofs.YtejgpbhionadbaaGreatDoor
open Go.RowKit
theorem aCD {b:Nat}{l:List UInt8}(h:hdD b l=true) (j i:Bool):rdg b j l=rdg b i l:=by
 cases l with
 | nil=>rfl
 | cons c r=>rw [bM h,bM h]
theorem aCC {b:Nat}{l:List UInt8}(h:hdD b l=true) (j i:Bool):rch b j l=rch b i l:=by
 cases l with
 | nil=>rfl
 | cons c r=>rw [bB h,bB h]
structure RuS (w wr:World) (l:List UInt8) (b:Nat) (i0:Nat) (f0:Bool) (k:Nat) (f:Bool) (v:Value) (o:List UInt8):Prop where
 row:RB w wr v o
 len:o.length<=k
 dg:rdg b f0 (l.drop i0)=o ++ rdg b (f || !o.isEmpty) (l.drop k)
 go:i0+rch b f0 (l.drop i0)=k+rch b (f || !o.isEmpty) (l.drop k)
theorem kX (s:ByteArray) (hs:s.size<=140737488351232) (i0:Nat) (hi0:i0<=s.size+2) (x f0:Bool) (w:World) :
 Cb 83 #[.string s,vI (i0:Int),.bool x,.bool f0] w (.tuple #[.string (sB (rdg (bs x) f0 (s.data.toList.drop i0))),vI ((i0+rch (bs x) f0 (s.data.toList.drop i0):Nat):Int)]):=by
 obtain ⟨ii,hi,hz0,hz1,hz2⟩:=info_parts nU
 have AT:=fun k W=>lM s k W
 have DG:=fun c W=>rE c x W
 obtain ⟨b,hb⟩:∃ b,b=bs x:=⟨_,rfl⟩
 rw [<- hb] at DG ⊢
 have HB:Hid (b<=36):=by show _;rw [hb];exact aL0 x
 obtain ⟨D,hD⟩:∃ D,D=rdg b f0 (s.data.toList.drop i0):=⟨_,rfl⟩
 obtain ⟨E,hE⟩:∃ E,E=i0+rch b f0 (s.data.toList.drop i0):=⟨_,rfl⟩
 rw [<- hD,<- hE]
 have HD:Hid (D=rdg b f0 (s.data.toList.drop i0)/\E=i0+rch b f0 (s.data.toList.drop i0)):=⟨hD,hE⟩
 have HSZ:Hid (s.size<=140737488351232/\i0<=s.size+2):=⟨hs,hi0⟩
 have hs2:s.size<=140737488351232:=hs
 have B1:Hid (RuS w w s.data.toList b i0 f0 i0 f0 (.slice none 0 0) []):=⟨⟨World.ownsRow_nil _ _ _ _,Below.refl _ _⟩,Nat.zero_le _,by simp,by simp⟩
 clear hD hE hb hs hi0
 go_enter Tryz.func83,Tryz.ntmps83
 go_wp2
 go_loopw [1,3,10] (fun iv fv ov wr=>∃ (k:Nat) (f:Bool) (o:List UInt8),k<=s.size+2/\iv=vI (k:Int)/\fv=.bool f/\Hid (RuS w wr s.data.toList b i0 f0 k f ov o)) (fun iv _ _ _=>s.size+3 - (intOf iv).toNat)
 case atStart=>exact ⟨i0,f0,[],HSZ.out.2,rfl,rfl,B1⟩
 case round =>
  clear B1
  obtain ⟨k,f,o,hk,rfl,rfl,B3⟩:=hrel
  have A1:=fun W=>AT k W
  have A2:=fun W=>AT (k+1) W
  simp only [Int.natCast_add,Int.natCast_one] at A2
  have HZ:Hid (w.heap.size<=wr.heap.size):=B3.out.row.bel.size
  obtain ⟨c,hc⟩:∃ c,h0 (s.data.toList.drop k)=c:=⟨_,rfl⟩
  obtain ⟨c2,hc2⟩:∃ c,h0 (s.data.toList.drop (k+1))=c:=⟨_,rfl⟩
  have HC:Hid (h0 (s.data.toList.drop k)=c/\h0 (s.data.toList.drop (k+1))=c2):=⟨hc,hc2⟩
  rw [hc] at A1
  rw [hc2] at A2
  have D1:=fun W=>DG c W
  have D2:=fun W=>DG c2 W
  clear hc hc2 AT DG
  by_cases q:isD b c=true
  . rw [q] at D1
    have hlt:k<s.size:=by
     rcases Nat.lt_or_ge k s.size with z | z
     . exact z
     . have:=HC.out.1
       rw [aD4 (by omega)] at this
       rw [<- this] at q
       unfold isD at q
       rw [show dv (0:UInt8).toNat=36 by decide] at q
       have:=of_decide_eq_true q
       have:=HB.out
       omega
    have i1:(k:Int)<(s.size:Int):=by omega
    have i2:(0:Int)<=(k:Int):=by omega
    have hx:((((s[k]'hlt).toNat:Nat):Int))=(c.toNat:Int):=by have:=HC.out.1;rw [wG hlt] at this;rw [this]
    have HT:Hid (s.data.toList.drop k=c :: s.data.toList.drop (k+1)):=by
     have:=bN s hlt
     rw [<- wG hlt,HC.out.1] at this
     exact this
    have HQ:Hid (isD b c=true):=q
    clear q D2 A2
    go_wp2_with fail
    refine (A1 _).mono ?_
    rintro e wr ⟨rfl,rfl⟩
    go_wp2_with fail
    refine (D1 _).mono ?_
    rintro e wr ⟨rfl,rfl⟩
    go_wp2_with (first | (at_builtin;refine wpList_append_own _ rfl _ _ 157 rfl w.heap.size 5 ii (.int .u8 0) 1 1 fU hi hz0 hz1 hz2 rfl (by decide) _ _ _ rfl (B3.out.row.own.alloc _) ⟨wr.heap.size,0,none⟩ 1 1 [.int .u8 (c.toNat:Int)] rfl rfl (World.news_of_block (cs:=#[.int .u8 (c.toNat:Int)]) (t:=5) (fr:=(0,0)) (heap_alloc_new _ _)) (by simp [Value.oneCell']) (by have:=B3.out.len;have:=HSZ.out;unfold maxLen;simp;omega) (by have:=B3.out.len;have:=HSZ.out;simp;omega) (by have:=HZ.out;simp;omega) ?_) | go_in)
    intro v5 w5 ho5 hg5 _
    have B5:Hid (RuS w w5 s.data.toList b i0 f0 (k+1) false v5 (o ++ [c])):=by
     have e:(false || !(o ++ [c]).isEmpty)=true:=by simp
     refine ⟨B3.out.row.app (m:=[c]) ho5 hg5,by have:=B3.out.len;simp;omega,?_,?_⟩
     . rw [B3.out.dg,HT.out,bM HQ.out,e];simp
     . rw [B3.out.go,HT.out,bB HQ.out,e];omega
    clear ho5 hg5
    go_wp2
    go_roundw
    case rel=>exact ⟨k+1,false,o ++ [c],by omega,by go_num,rfl,B5⟩
    case measure=>simp [intOf];omega
  . have q':isD b c=false:=by simpa using q
    rw [q'] at D1
    have HQ:Hid (isD b c=false):=q'
    have HDR:Hid (s.data.toList.drop k=[] \/ s.data.toList.drop k=c :: s.data.toList.drop (k+1)):=by
     rcases Nat.lt_or_ge k s.size with z | z
     . right
       have:=bN s z
       rw [<- wG z,HC.out.1] at this
       exact this
     . left;exact bP s (by omega)
    have cv:=B3.out.row.text
    obtain ⟨ao,cp,rfl⟩:=B3.out.row.len
    obtain ⟨L,hL⟩:∃ L,o.length=L:=⟨_,rfl⟩
    have HL:Hid (o.length=L):=hL
    rw [hL] at B3 cv ⊢
    clear hL
    have HST:Hid (¬ (c=95/\(f || !o.isEmpty)=true/\hdD b (s.data.toList.drop (k+1))=true) -> D=o/\E=k):=fun hn=>by
     rcases HDR.out with z | z
     . constructor
       . rw [HD.out.1,B3.out.dg,z];simp [rdg]
       . rw [HD.out.2,B3.out.go,z];simp [rch]
     . constructor
       . rw [HD.out.1,B3.out.dg,z,fH HQ.out hn];simp
       . rw [HD.out.2,B3.out.go,z,cR HQ.out hn];simp
    clear q q'
    by_cases z:c=95
    . have HZC:Hid (c=95):=z
      have hc95:(c.toNat:Int)=95:=by rw [z];rfl
      rw [hc95] at A1 D1
      have hh:hdD b (s.data.toList.drop (k+1))=isD b c2:=by rw [aKW HB.out,HC.out.2]
      have HH:Hid (hdD b (s.data.toList.drop (k+1))=isD b c2):=hh
      clear z hc95 hh
      by_cases g:isD b c2=true
      . rw [g] at D2
        have HG:Hid (hdD b (s.data.toList.drop (k+1))=true):=by show _=_;rw [HH.out];exact g
        clear g
        by_cases y:(f || !o.isEmpty)=true
        . have HT:Hid (s.data.toList.drop k=c :: s.data.toList.drop (k+1)):=by
           rcases HDR.out with u | u
           . exfalso
             have:=HG.out
             rw [show s.data.toList.drop (k+1)=[] by rw [<- List.drop_drop,u];rfl] at this
             cases this
           . exact u
          have hlt:k<s.size:=by
           rcases Nat.lt_or_ge k s.size with u | u
           . exact u
           . have:=HT.out;rw [bP s (by omega)] at this;cases this
          have B5:Hid (RuS w wr s.data.toList b i0 f0 (k+1) false (.slice ao L cp) o):=by
           refine ⟨B3.out.row,by have:=B3.out.len;omega,?_,?_⟩
           . rw [B3.out.dg,HT.out,y,gR HQ.out HZC.out rfl HG.out,aCD HG.out false (false || !o.isEmpty)]
           . rw [B3.out.go,HT.out,y,fF HQ.out HZC.out rfl HG.out,aCC HG.out false (false || !o.isEmpty)];omega
          by_cases u:o=[]
          . have hf:f=true:=by rw [u] at y;simpa using y
            subst hf
            have ol2:L=0:=by have:=HL.out;rw [u] at this;simp at this;omega
            subst ol2
            clear u y HST
            go_wp2_with fail
            refine (A1 _).mono ?_
            rintro e wr ⟨rfl,rfl⟩
            go_wp2_with fail
            refine (D1 _).mono ?_
            rintro e wr ⟨rfl,rfl⟩
            go_wp2_with fail
            refine (A1 _).mono ?_
            rintro e wr ⟨rfl,rfl⟩
            go_wp2_with fail
            refine (A2 _).mono ?_
            rintro e wr ⟨rfl,rfl⟩
            go_wp2_with fail
            refine (D2 _).mono ?_
            rintro e wr ⟨rfl,rfl⟩
            go_wp2
            go_roundw
            case rel=>exact ⟨k+1,false,o,by omega,by go_num,rfl,B5⟩
            case measure=>simp [intOf];omega
          . have ol2:(0:Int)<(L:Int):=by have:=List.length_pos_iff.2 u;have:=HL.out;omega
            clear u y HST
            go_wp2_with fail
            refine (A1 _).mono ?_
            rintro e wr ⟨rfl,rfl⟩
            go_wp2_with fail
            refine (D1 _).mono ?_
            rintro e wr ⟨rfl,rfl⟩
            go_wp2_with fail
            refine (A1 _).mono ?_
            rintro e wr ⟨rfl,rfl⟩
            go_wp2_with fail
            refine (A2 _).mono ?_
            rintro e wr ⟨rfl,rfl⟩
            go_wp2_with fail
            refine (D2 _).mono ?_
            rintro e wr ⟨rfl,rfl⟩
            go_wp2
            go_roundw
            case rel=>exact ⟨k+1,false,o,by omega,by go_num,rfl,B5⟩
            case measure=>simp [intOf];omega
        . have y':(f || !o.isEmpty)=false:=by simpa using y
          have hf:f=false:=by cases f with
           | false=>rfl
           | true=>simp at y'
          have u:o=[]:=by cases o with
           | nil=>rfl
           | cons a t=>rw [hf] at y';simp at y'
          subst hf
          have ol2:L=0:=by have:=HL.out;rw [u] at this;simp at this;omega
          subst ol2
          have HS2:Hid (D=o/\E=k):=HST.out (fun t=>y t.2.1)
          clear u y y' HST
          go_wp2_with fail
          refine (A1 _).mono ?_
          rintro e wr ⟨rfl,rfl⟩
          go_wp2_with fail
          refine (D1 _).mono ?_
          rintro e wr ⟨rfl,rfl⟩
          go_wp2_with fail
          refine (A1 _).mono ?_
          rintro e wr ⟨rfl,rfl⟩
          go_wp2_with fail
          refine (A2 _).mono ?_
          rintro e wr ⟨rfl,rfl⟩
          go_wp2_with fail
          refine (D2 _).mono ?_
          rintro e wr ⟨rfl,rfl⟩
          go_wp2
          go_ret2
          exact ⟨by rw [HS2.out.1,HS2.out.2];rfl,B3.out.row.bel⟩
      . have g':isD b c2=false:=by simpa using g
        rw [g'] at D2
        have HS2:Hid (D=o/\E=k):=HST.out (fun t=>g (by rw [<- HH.out];exact t.2.2))
        clear g g' HST
        go_wp2_with fail
        refine (A1 _).mono ?_
        rintro e wr ⟨rfl,rfl⟩
        go_wp2_with fail
        refine (D1 _).mono ?_
        rintro e wr ⟨rfl,rfl⟩
        go_wp2_with fail
        refine (A1 _).mono ?_
        rintro e wr ⟨rfl,rfl⟩
        go_wp2_with fail
        refine (A2 _).mono ?_
        rintro e wr ⟨rfl,rfl⟩
        go_wp2_with fail
        refine (D2 _).mono ?_
        rintro e wr ⟨rfl,rfl⟩
        go_wp2
        go_ret2
        exact ⟨by rw [HS2.out.1,HS2.out.2];rfl,B3.out.row.bel⟩
    . have z2:((c.toNat:Int) == 95)=false:=dU z
      have HS2:Hid (D=o/\E=k):=HST.out (fun t=>z t.1)
      clear z HST D2 A2
      generalize (c.toNat:Int)=cc at *
      go_wp2_with fail
      refine (A1 _).mono ?_
      rintro e wr ⟨rfl,rfl⟩
      go_wp2_with fail
      refine (D1 _).mono ?_
      rintro e wr ⟨rfl,rfl⟩
      go_wp2_with fail
      refine (A1 _).mono ?_
      rintro e wr ⟨rfl,rfl⟩
      go_wp2
      go_ret2
      exact ⟨by rw [HS2.out.1,HS2.out.2];rfl,B3.out.row.bel⟩
theorem sH      {r : List UInt8} (h : h0 r = 45) : sgM r = true ∧ sgA r = 1 := by
  cases r with
  | nil => cases h
  | cons c t =>
    have h' : c = 45 := h
    subst h'
    exact ⟨rfl, oH      (Or.inr rfl)⟩
theorem sG      {r : List UInt8} (h : h0 r = 43) : sgM r = false ∧ sgA r = 1 := by
  cases r with
  | nil => cases h
  | cons c t =>
    have h' : c = 43 := h
    subst h'
    exact ⟨rfl, oH      (Or.inl rfl)⟩
theorem yL     {r : List UInt8} (h : h0 r ≠ 45) (h2 : h0 r ≠ 43) : sgM r = false ∧ sgA r = 0 := by
  cases r with
  | nil => exact ⟨rfl, rfl⟩
  | cons c t =>
    have h' : c ≠ 45 := h
    have h2' : c ≠ 43 := h2
    exact ⟨beq_eq_false_iff_ne.mpr h', aAy    (fun z => z.elim h2' h')⟩
theorem aFb (s:ByteArray) (hs:s.size<=140737488351232) (i:Nat) (hi:i<=s.size+1) (hz:rch 10 false (s.data.toList.drop (i+sgA (s.data.toList.drop i)))=0) (w:World):Cb 55 #[.string s,vI (i:Int)] w (.tuple #[vI 0,vI ((i+sgA (s.data.toList.drop i):Nat):Int),.bool false]):=by
 have A1:=fun W=>lM s i W
 have sg:=gU (s.data.toList.drop i)
 have hr:=bT 10 (s.data.toList.drop (i+sgA (s.data.toList.drop i))) false
 rw [List.length_drop,Array.length_toList,show s.data.size=s.size from rfl] at hr
 have R:=fun W=>kX s hs (i+sgA (s.data.toList.drop i)) (by omega) false false W
 rw [show bs false=10 from rfl] at R
 rw [dI.2 hz,hz,show sB []=⟨#[]⟩ from rfl] at R
 have HI:Hid (i<=140737488351233):=(by omega:i<=140737488351233)
 obtain ⟨c,hc⟩:∃ c,h0 (s.data.toList.drop i)=c:=⟨_,rfl⟩
 rw [hc] at A1
 by_cases q:c=45
 . have hc2:(c.toNat:Int)=45:=by rw [q];rfl
   have hg:=sH (hc.trans q)
   rw [hc2] at A1
   rw [hg.2] at R
   rw [hg.2]
   clear hc sg hr hz hg q hc2
   simp only [Int.natCast_add,Int.natCast_one,Int.natCast_zero,Int.add_zero] at R ⊢
   have hi2:=HI.out
   go_enter Tryz.func55,Tryz.ntmps55
   go_wp2_with fail
   refine (A1 _).mono ?_
   rintro o w ⟨rfl,rfl⟩
   go_wp2_with fail
   refine (R _).mono ?_
   rintro o w1 ⟨rfl,b1⟩
   go_wp2
   refine bodyPost_ret (results_tmp3 rfl _ _ _) rfl ?_
   exact ⟨by first | rfl | simp,b1⟩
 . by_cases q2:c=43
   . have hc2:(c.toNat:Int)=43:=by rw [q2];rfl
     have hg:=sG (hc.trans q2)
     rw [hc2] at A1
     rw [hg.2] at R
     rw [hg.2]
     clear hc sg hr hz hg q q2 hc2
     simp only [Int.natCast_add,Int.natCast_one,Int.natCast_zero,Int.add_zero] at R ⊢
     have hi2:=HI.out
     go_enter Tryz.func55,Tryz.ntmps55
     go_wp2_with fail
     refine (A1 _).mono ?_
     rintro o w ⟨rfl,rfl⟩
     go_wp2_with fail
     refine (A1 _).mono ?_
     rintro o w ⟨rfl,rfl⟩
     go_wp2_with fail
     refine (R _).mono ?_
     rintro o w1 ⟨rfl,b1⟩
     go_wp2
     refine bodyPost_ret (results_tmp3 rfl _ _ _) rfl ?_
     exact ⟨by first | rfl | simp,b1⟩
   . have hg:=yL (fun z=>q (hc.symm.trans z)) (fun z=>q2 (hc.symm.trans z))
     have n1:((c.toNat:Int) == 45)=false:=dU q
     have n2:((c.toNat:Int) == 43)=false:=dU q2
     generalize (c.toNat:Int)=cc at *
     rw [hg.2] at R
     rw [hg.2]
     clear hc sg hr hz hg q q2
     simp only [Nat.add_zero] at R ⊢
     have hi2:=HI.out
     go_enter Tryz.func55,Tryz.ntmps55
     go_wp2_with fail
     refine (A1 _).mono ?_
     rintro o w ⟨rfl,rfl⟩
     go_wp2_with fail
     refine (A1 _).mono ?_
     rintro o w ⟨rfl,rfl⟩
     go_wp2_with fail
     refine (R _).mono ?_
     rintro o w1 ⟨rfl,b1⟩
     go_wp2
     refine bodyPost_ret (results_tmp3 rfl _ _ _) rfl ?_
     exact ⟨by first | rfl | simp,b1⟩
theorem aHs (s:ByteArray) (hs:s.size<=140737488351232) (i:Nat) (hi:i<=s.size+1) (hz:rch 10 false (s.data.toList.drop (i+sgA (s.data.toList.drop i))) ≠ 0) (w:World):Cb 55 #[.string s,vI (i:Int)] w (.tuple #[vI (dK (s.data.toList.drop i)),vI ((i+sgA (s.data.toList.drop i)+rch 10 false (s.data.toList.drop (i+sgA (s.data.toList.drop i))):Nat):Int),.bool true]):=by
 have A1:=fun W=>lM s i W
 have sg:=gU (s.data.toList.drop i)
 have hr:=bT 10 (s.data.toList.drop (i+sgA (s.data.toList.drop i))) false
 rw [List.length_drop,Array.length_toList,show s.data.size=s.size from rfl] at hr
 have R:=fun W=>kX s hs (i+sgA (s.data.toList.drop i)) (by omega) false false W
 rw [show bs false=10 from rfl] at R
 have e1:(sB (rdg 10 false (s.data.toList.drop (i+sgA (s.data.toList.drop i))))).toList.isEmpty=false:=aI (by rw [aA];exact List.length_pos_iff.2 (fun z=>hz (dI.1 z)))
 have hlen:=gS (b:=10) (s.data.toList.drop (i+sgA (s.data.toList.drop i))) false
 have NB:=fun W=>aCw (sB (rdg 10 false (s.data.toList.drop (i+sgA (s.data.toList.drop i))))) (by rw [aA];omega) (fun c hc=>fI _ _ _ hc) W
 rw [bR] at NB
 have hcm:=xM (rdg 10 false (s.data.toList.drop (i+sgA (s.data.toList.drop i)))) 0 (by omega)
 have HX:Hid (dK (s.data.toList.drop i)=if sgM (s.data.toList.drop i)=true then -(cnt 0 (rdg 10 false (s.data.toList.drop (i+sgA (s.data.toList.drop i)))):Int) else (cnt 0 (rdg 10 false (s.data.toList.drop (i+sgA (s.data.toList.drop i)))):Int)):=by
  show _=_
  unfold dK;rw [List.drop_drop]
 have HI:Hid (i<=140737488351233):=(by omega:i<=140737488351233)
 obtain ⟨c,hc⟩:∃ c,h0 (s.data.toList.drop i)=c:=⟨_,rfl⟩
 rw [hc] at A1
 by_cases q:c=45
 . have hc2:(c.toNat:Int)=45:=by rw [q];rfl
   have hg:=sH (hc.trans q)
   rw [hc2] at A1
   rw [hg.2] at R NB e1 HX hcm
   rw [hg.2]
   rw [hg.1] at HX
   have HX2:Hid (dK (s.data.toList.drop i) = -(cnt 0 (rdg 10 false (s.data.toList.drop (i+1))):Int)):=by have:=HX.out;rw [if_pos rfl] at this;exact this
   rw [HX2.out]
   clear hc sg hr hz hg HX HX2 hlen q hc2
   generalize cnt 0 (rdg 10 false (s.data.toList.drop (i+1)))=K at *
   generalize sB (rdg 10 false (s.data.toList.drop (i+1)))=T at *
   generalize rch 10 false (s.data.toList.drop (i+1))=n at *
   simp only [Int.natCast_add,Int.natCast_one] at R ⊢
   have hi2:=HI.out
   go_enter Tryz.func55,Tryz.ntmps55
   go_wp2_with fail
   refine (A1 _).mono ?_
   rintro o w ⟨rfl,rfl⟩
   go_wp2_with fail
   refine (R _).mono ?_
   rintro o w1 ⟨rfl,b1⟩
   go_wp2_with fail
   refine (NB _).mono ?_
   rintro o w1 ⟨rfl,rfl⟩
   go_wp2
   refine bodyPost_ret (results_tmp3 rfl _ _ _) rfl ?_
   exact ⟨by first | rfl | simp,b1⟩
 . by_cases q2:c=43
   . have hc2:(c.toNat:Int)=43:=by rw [q2];rfl
     have hg:=sG (hc.trans q2)
     rw [hc2] at A1
     rw [hg.2] at R NB e1 HX hcm
     rw [hg.2]
     rw [hg.1] at HX
     have HX2:Hid (dK (s.data.toList.drop i)=(cnt 0 (rdg 10 false (s.data.toList.drop (i+1))):Int)):=by have:=HX.out;rw [if_neg (by decide)] at this;exact this
     rw [HX2.out]
     clear hc sg hr hz hg HX HX2 hlen q q2 hc2
     generalize cnt 0 (rdg 10 false (s.data.toList.drop (i+1)))=K at *
     generalize sB (rdg 10 false (s.data.toList.drop (i+1)))=T at *
     generalize rch 10 false (s.data.toList.drop (i+1))=n at *
     simp only [Int.natCast_add,Int.natCast_one] at R ⊢
     have hi2:=HI.out
     go_enter Tryz.func55,Tryz.ntmps55
     go_wp2_with fail
     refine (A1 _).mono ?_
     rintro o w ⟨rfl,rfl⟩
     go_wp2_with fail
     refine (A1 _).mono ?_
     rintro o w ⟨rfl,rfl⟩
     go_wp2_with fail
     refine (R _).mono ?_
     rintro o w1 ⟨rfl,b1⟩
     go_wp2_with fail
     refine (NB _).mono ?_
     rintro o w1 ⟨rfl,rfl⟩
     go_wp2
     refine bodyPost_ret (results_tmp3 rfl _ _ _) rfl ?_
     exact ⟨by first | rfl | simp,b1⟩
   . have hg:=yL (fun z=>q (hc.symm.trans z)) (fun z=>q2 (hc.symm.trans z))
     have n1:((c.toNat:Int) == 45)=false:=dU q
     have n2:((c.toNat:Int) == 43)=false:=dU q2
     generalize (c.toNat:Int)=cc at *
     rw [hg.2] at R NB e1 HX hcm
     rw [hg.2]
     rw [hg.1] at HX
     have HX2:Hid (dK (s.data.toList.drop i)=(cnt 0 (rdg 10 false (s.data.toList.drop (i+0))):Int)):=by have:=HX.out;rw [if_neg (by decide)] at this;exact this
     rw [HX2.out]
     clear hc sg hr hz hg HX HX2 hlen q q2
     generalize cnt 0 (rdg 10 false (s.data.toList.drop (i+0)))=K at *
     generalize sB (rdg 10 false (s.data.toList.drop (i+0)))=T at *
     generalize rch 10 false (s.data.toList.drop (i+0))=n at *
     simp only [Nat.add_zero,Int.natCast_add] at R ⊢
     have hi2:=HI.out
     go_enter Tryz.func55,Tryz.ntmps55
     go_wp2_with fail
     refine (A1 _).mono ?_
     rintro o w ⟨rfl,rfl⟩
     go_wp2_with fail
     refine (A1 _).mono ?_
     rintro o w ⟨rfl,rfl⟩
     go_wp2_with fail
     refine (R _).mono ?_
     rintro o w1 ⟨rfl,b1⟩
     go_wp2_with fail
     refine (NB _).mono ?_
     rintro o w1 ⟨rfl,rfl⟩
     go_wp2
     refine bodyPost_ret (results_tmp3 rfl _ _ _) rfl ?_
     exact ⟨by first | rfl | simp,b1⟩
def rmV (i:Nat):Option (List UInt8 × List UInt8 × Nat) -> Value
 | none=>.tuple #[.string ⟨#[]⟩,.string ⟨#[]⟩,vI (i:Int),.bool false]
 | some (W,P,n)=>.tuple #[.string (sB W),.string (sB P),vI ((i+n:Nat):Int),.bool true]
theorem dE {fn:Func}{t u v x:Tmp}(h:fn.results=#[.tmp t,.tmp u,.tmp v,.tmp x]) (tmps:Array Value) (P:Program) (w:World) :
 (results fn tmps).run P w=.ok (.tuple #[tmps.getD t undef,tmps.getD u undef,tmps.getD v undef,tmps.getD x undef]) w:=by
 simp [results,h]
theorem aD3    {l : List UInt8} : h0 l = 46 ↔ hdC l = 46 := by
  cases l with
  | nil => exact ⟨fun h => absurd h (by decide), fun h => absurd h (by decide)⟩
  | cons c r =>
    constructor
    · intro h
      have h' : c = 46 := h
      rw [h']; rfl
    · intro h
      exact UInt8.toNat_inj.1 h
theorem zI {b:Nat}{j:Bool}{l:List UInt8}(h:rch b j l ≠ 0):(sB (rdg b j l)).toList.isEmpty=false:=aI (by rw [aA];exact List.length_pos_iff.2 (fun z=>h (dI.1 z)))
theorem uR (s:ByteArray) (hs:s.size<=140737488351232) (i:Nat) (hi:i<=s.size+2) (x:Bool) (w:World):Cb 54 #[.string s,vI (i:Int),.bool x] w (rmV i (mnt (bs x) x (s.data.toList.drop i))):=by
 have R:=fun W=>kX s hs i hi x x W
 have hr:=bT (bs x) (s.data.toList.drop i) x
 have hll:s.data.toList.length=s.size:=rfl
 rw [List.length_drop,hll] at hr
 have A1:=fun W=>lM s (i+rch (bs x) x (s.data.toList.drop i)) W
 have dd:(s.data.toList.drop i).drop (rch (bs x) x (s.data.toList.drop i))=s.data.toList.drop (i+rch (bs x) x (s.data.toList.drop i)):=List.drop_drop
 have HI:Hid (i<=140737488351234/\rch (bs x) x (s.data.toList.drop i)<=140737488351232):=⟨by omega,by omega⟩
 by_cases q:hdC (s.data.toList.drop (i+rch (bs x) x (s.data.toList.drop i)))=46
 . have hc:h0 (s.data.toList.drop (i+rch (bs x) x (s.data.toList.drop i)))=46:=aD3.2 q
   rw [hc,show ((46:UInt8).toNat:Int)=46 from rfl] at A1
   have hlt:i+rch (bs x) x (s.data.toList.drop i)<s.size:=by
    rcases Nat.lt_or_ge (i+rch (bs x) x (s.data.toList.drop i)) s.size with z | z
    . exact z
    . rw [bP s (by omega)] at q;cases q
   have R2:=fun W=>kX s hs (i+rch (bs x) x (s.data.toList.drop i)+1) (by omega) x false W
   have hr2:=bT (bs x) (s.data.toList.drop (i+rch (bs x) x (s.data.toList.drop i)+1)) false
   rw [List.length_drop,hll] at hr2
   have dd2:(s.data.toList.drop i).drop (rch (bs x) x (s.data.toList.drop i)+1)=s.data.toList.drop (i+rch (bs x) x (s.data.toList.drop i)+1):=by rw [List.drop_drop];rfl
   have HV:Hid (mnt (bs x) x (s.data.toList.drop i)=if rch (bs x) x (s.data.toList.drop i)+rch (bs x) false (s.data.toList.drop (i+rch (bs x) x (s.data.toList.drop i)+1))=0 then none else some (rdg (bs x) x (s.data.toList.drop i),rdg (bs x) false (s.data.toList.drop (i+rch (bs x) x (s.data.toList.drop i)+1)),rch (bs x) x (s.data.toList.drop i)+1+rch (bs x) false (s.data.toList.drop (i+rch (bs x) x (s.data.toList.drop i)+1)))):=by
    show _=_
    unfold mnt;rw [dd,dd2,if_pos q]
   rw [HV.out]
   have HI2:Hid (rch (bs x) false (s.data.toList.drop (i+rch (bs x) x (s.data.toList.drop i)+1))<=140737488351232):=(by omega:rch (bs x) false (s.data.toList.drop (i+rch (bs x) x (s.data.toList.drop i)+1))<=140737488351232)
   clear dd dd2 HV q hc hr hr2 hlt
   have E1:=fun h=>zI (b:=bs x) (j:=x) (l:=s.data.toList.drop i) h
   have E2:=fun h=>zI (b:=bs x) (j:=false) (l:=s.data.toList.drop (i+rch (bs x) x (s.data.toList.drop i)+1)) h
   have Z1:rch (bs x) x (s.data.toList.drop i)=0 -> rdg (bs x) x (s.data.toList.drop i)=[]:=fun z=>dI.2 z
   have Z2:rch (bs x) false (s.data.toList.drop (i+rch (bs x) x (s.data.toList.drop i)+1))=0 -> rdg (bs x) false (s.data.toList.drop (i+rch (bs x) x (s.data.toList.drop i)+1))=[]:=fun z=>dI.2 z
   generalize rdg (bs x) false (s.data.toList.drop (i+rch (bs x) x (s.data.toList.drop i)+1))=P at *
   generalize rch (bs x) false (s.data.toList.drop (i+rch (bs x) x (s.data.toList.drop i)+1))=m at *
   generalize rdg (bs x) x (s.data.toList.drop i)=W at *
   generalize rch (bs x) x (s.data.toList.drop i)=n at *
   simp only [Int.natCast_add,Int.natCast_one] at R A1 R2
   have hi2:=HI.out.1
   have hn2:=HI.out.2
   have hm2:=HI2.out
   clear hi hll HI HI2
   by_cases zn:n=0
   . have hW:=Z1 zn
     rw [hW,show sB []=⟨#[]⟩ from rfl] at R
     rw [hW]
     clear E1 Z1 hW W
     by_cases zm:m=0
     . rw [if_pos (by omega)]
       have hP:=Z2 zm
       rw [hP,show sB []=⟨#[]⟩ from rfl] at R2
       clear E2 Z2 hP P
       subst zn
       subst zm
       simp only [Int.natCast_zero,Int.add_zero] at R A1 R2
       show Calls _ _ _ _ fun e w'=>e=.returned (.tuple #[.string ⟨#[]⟩,.string ⟨#[]⟩,vI (i:Int),.bool false])/\_
       go_enter Tryz.func54,Tryz.ntmps54
       go_wp2_with fail
       refine (R _).mono ?_
       rintro o w1 ⟨rfl,b1⟩
       have B1:Hid (Bl w w1):=b1
       clear b1
       go_wp2_with fail
       refine (A1 _).mono ?_
       rintro o w1 ⟨rfl,rfl⟩
       go_wp2_with fail
       refine (R2 _).mono ?_
       rintro o w2 ⟨rfl,b2⟩
       have B2:Hid (Bl w w2):=B1.out.trans (b2.mono B1.out.size)
       clear b2
       go_wp2
       refine bodyPost_ret (dE rfl _ _ _) rfl ?_
       exact ⟨by first | rfl | (simp;done) | (simp;omega),B2.out⟩
     . rw [if_neg (by omega)]
       have e2:=E2 zm
       clear E2 Z2
       subst zn
       simp only [Int.natCast_zero,Int.add_zero] at R A1 R2
       show Calls _ _ _ _ fun e w'=>e=.returned (.tuple #[.string ⟨#[]⟩,.string (sB P),vI ((i+(0+1+m):Nat):Int),.bool true])/\_
       generalize sB P=t at *
       go_enter Tryz.func54,Tryz.ntmps54
       go_wp2_with fail
       refine (R _).mono ?_
       rintro o w1 ⟨rfl,b1⟩
       have B1:Hid (Bl w w1):=b1
       clear b1
       go_wp2_with fail
       refine (A1 _).mono ?_
       rintro o w1 ⟨rfl,rfl⟩
       go_wp2_with fail
       refine (R2 _).mono ?_
       rintro o w2 ⟨rfl,b2⟩
       have B2:Hid (Bl w w2):=B1.out.trans (b2.mono B1.out.size)
       clear b2
       go_wp2
       refine bodyPost_ret (dE rfl _ _ _) rfl ?_
       exact ⟨by first | rfl | (simp;done) | (simp;omega),B2.out⟩
   . have e1:=E1 zn
     rw [if_neg (by omega)]
     clear E1 Z1 E2 Z2
     show Calls _ _ _ _ fun e w'=>e=.returned (.tuple #[.string (sB W),.string (sB P),vI ((i+(n+1+m):Nat):Int),.bool true])/\_
     generalize sB P=t at *
     generalize sB W=u at *
     clear zn
     go_enter Tryz.func54,Tryz.ntmps54
     go_wp2_with fail
     refine (R _).mono ?_
     rintro o w1 ⟨rfl,b1⟩
     have B1:Hid (Bl w w1):=b1
     clear b1
     go_wp2_with fail
     refine (A1 _).mono ?_
     rintro o w1 ⟨rfl,rfl⟩
     go_wp2_with fail
     refine (R2 _).mono ?_
     rintro o w2 ⟨rfl,b2⟩
     have B2:Hid (Bl w w2):=B1.out.trans (b2.mono B1.out.size)
     clear b2
     go_wp2
     refine bodyPost_ret (dE rfl _ _ _) rfl ?_
     exact ⟨by first | rfl | (simp;done) | (simp;omega),B2.out⟩
 . have hc:h0 (s.data.toList.drop (i+rch (bs x) x (s.data.toList.drop i))) ≠ 46:=fun z=>q (aD3.1 z)
   have n46:=dU hc
   have HV:Hid (mnt (bs x) x (s.data.toList.drop i)=if rch (bs x) x (s.data.toList.drop i)=0 then none else some (rdg (bs x) x (s.data.toList.drop i),[],rch (bs x) x (s.data.toList.drop i))):=by
    show _=_
    unfold mnt;rw [dd,if_neg q]
   rw [HV.out]
   clear dd HV q hc hr
   have E1:=fun h=>zI (b:=bs x) (j:=x) (l:=s.data.toList.drop i) h
   have Z1:rch (bs x) x (s.data.toList.drop i)=0 -> rdg (bs x) x (s.data.toList.drop i)=[]:=fun z=>dI.2 z
   generalize ((h0 (s.data.toList.drop (i+rch (bs x) x (s.data.toList.drop i)))).toNat:Int)=cc at *
   have n47:(cc == 46)=false:=n46
   generalize rdg (bs x) x (s.data.toList.drop i)=W at *
   generalize rch (bs x) x (s.data.toList.drop i)=n at *
   simp only [Int.natCast_add] at R A1
   have hi2:=HI.out.1
   have hn2:=HI.out.2
   clear hi hll HI n46
   by_cases zn:n=0
   . have hW:=Z1 zn
     rw [hW,show sB []=⟨#[]⟩ from rfl] at R
     rw [hW,if_pos zn]
     clear E1 Z1 hW W
     subst zn
     simp only [Int.natCast_zero,Int.add_zero] at R A1
     show Calls _ _ _ _ fun e w'=>e=.returned (.tuple #[.string ⟨#[]⟩,.string ⟨#[]⟩,vI (i:Int),.bool false])/\_
     go_enter Tryz.func54,Tryz.ntmps54
     go_wp2_with fail
     refine (R _).mono ?_
     rintro o w1 ⟨rfl,b1⟩
     have B1:Hid (Bl w w1):=b1
     clear b1
     go_wp2_with fail
     refine (A1 _).mono ?_
     rintro o w1 ⟨rfl,rfl⟩
     go_wp2
     refine bodyPost_ret (dE rfl _ _ _) rfl ?_
     exact ⟨by first | rfl | (simp;done) | (simp;omega),B1.out⟩
   . have e1:=E1 zn
     rw [if_neg zn]
     clear E1 Z1
     show Calls _ _ _ _ fun e w'=>e=.returned (.tuple #[.string (sB W),.string ⟨#[]⟩,vI ((i+n:Nat):Int),.bool true])/\_
     generalize sB W=u at *
     clear zn
     go_enter Tryz.func54,Tryz.ntmps54
     go_wp2_with fail
     refine (R _).mono ?_
     rintro o w1 ⟨rfl,b1⟩
     have B1:Hid (Bl w w1):=b1
     clear b1
     go_wp2_with fail
     refine (A1 _).mono ?_
     rintro o w1 ⟨rfl,rfl⟩
     go_wp2
     refine bodyPost_ret (dE rfl _ _ _) rfl ?_
     exact ⟨by first | rfl | (simp;done) | (simp;omega),B1.out⟩
end Go.Proofs.YtejgpbhionadbaaGreatDoor
