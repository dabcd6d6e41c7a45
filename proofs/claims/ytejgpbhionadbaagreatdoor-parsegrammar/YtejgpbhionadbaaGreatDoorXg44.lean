/-
  Holds: UScR.
-/
import Derived.Test.YtejgpbhionadbaaGreatDoorChecked
import Derived.WalkKit
import Derived.Deep.DeepMust
import Derived.Lib.Strings
import Derived.Lib.BufferWrite
import Derived.Deep.OwnRows
import Derived.Deep.RegionHeld3
import Derived.Deep.QuietTactic
import Derived.BigQuiet
import Derived.Deep.AppendLies
import Derived.Test.YtejgpbhionadbaaGreatDoorXg26
import Derived.Test.YtejgpbhionadbaaGreatDoorXg30
set_option maxRecDepth 100000
set_option maxHeartbeats 4000000
namespace Go.Proofs.YtejgpbhionadbaaGreatDoor
open Go.RowKit
theorem rdg_hd_any {b:Nat}{l:List UInt8}(h:hdD b l=true) (j i:Bool):rdg b j l=rdg b i l:=by
 cases l with
 | nil=>rfl
 | cons c r=>rw [rdg_digit h,rdg_digit h]
theorem rch_hd_any {b:Nat}{l:List UInt8}(h:hdD b l=true) (j i:Bool):rch b j l=rch b i l:=by
 cases l with
 | nil=>rfl
 | cons c r=>rw [rch_digit h,rch_digit h]
structure RuS (w wr:World) (l:List UInt8) (b:Nat) (i0:Nat) (f0:Bool) (k:Nat) (f:Bool) (v:Value) (o:List UInt8):Prop where
 row:RB w wr v o
 len:o.length≤k
 dg:rdg b f0 (l.drop i0)=o ++ rdg b (f || !o.isEmpty) (l.drop k)
 go:i0+rch b f0 (l.drop i0)=k+rch b (f || !o.isEmpty) (l.drop k)
theorem rrun_any (s:ByteArray) (hs:s.size≤140737488351232) (i0:Nat) (hi0:i0≤s.size+2) (x f0:Bool) (w:World) :
 Cb 83 #[.string s,vI (i0:Int),.bool x,.bool f0] w (.tuple #[.string (sB (rdg (bs x) f0 (s.data.toList.drop i0))),vI ((i0+rch (bs x) f0 (s.data.toList.drop i0):Nat):Int)]):=by
 obtain ⟨ii,hi,hz0,hz1,hz2⟩:=info_parts info_b8
 have AT:=fun k W=>at_any s k W
 have DG:=fun c W=>rdigit_any c x W
 obtain ⟨b,hb⟩:∃ b,b=bs x:=⟨_,rfl⟩
 rw [← hb] at DG ⊢
 have HB:Hid (b≤36):=by show _;rw [hb];exact bs_le x
 obtain ⟨D,hD⟩:∃ D,D=rdg b f0 (s.data.toList.drop i0):=⟨_,rfl⟩
 obtain ⟨E,hE⟩:∃ E,E=i0+rch b f0 (s.data.toList.drop i0):=⟨_,rfl⟩
 rw [← hD,← hE]
 have HD:Hid (D=rdg b f0 (s.data.toList.drop i0)∧E=i0+rch b f0 (s.data.toList.drop i0)):=⟨hD,hE⟩
 have HSZ:Hid (s.size≤140737488351232∧i0≤s.size+2):=⟨hs,hi0⟩
 have hs2:s.size≤140737488351232:=hs
 have B1:Hid (RuS w w s.data.toList b i0 f0 i0 f0 (.slice none 0 0) []):=⟨⟨World.ownsRow_nil _ _ _ _,Below.refl _ _⟩,Nat.zero_le _,by simp,by simp⟩
 clear hD hE hb hs hi0
 go_enter Tryz.func83,Tryz.ntmps83
 go_wp2
 go_loopw [1,3,10] (fun iv fv ov wr=>∃ (k:Nat) (f:Bool) (o:List UInt8),k≤s.size+2∧iv=vI (k:Int)∧fv=.bool f∧Hid (RuS w wr s.data.toList b i0 f0 k f ov o)) (fun iv _ _ _=>s.size+3 - (intOf iv).toNat)
 case atStart=>exact ⟨i0,f0,[],HSZ.out.2,rfl,rfl,B1⟩
 case round =>
  clear B1
  obtain ⟨k,f,o,hk,rfl,rfl,B3⟩:=hrel
  have A1:=fun W=>AT k W
  have A2:=fun W=>AT (k+1) W
  simp only [Int.natCast_add,Int.natCast_one] at A2
  have HZ:Hid (w.heap.size≤wr.heap.size):=B3.out.row.bel.size
  obtain ⟨c,hc⟩:∃ c,h0 (s.data.toList.drop k)=c:=⟨_,rfl⟩
  obtain ⟨c2,hc2⟩:∃ c,h0 (s.data.toList.drop (k+1))=c:=⟨_,rfl⟩
  have HC:Hid (h0 (s.data.toList.drop k)=c∧h0 (s.data.toList.drop (k+1))=c2):=⟨hc,hc2⟩
  rw [hc] at A1
  rw [hc2] at A2
  have D1:=fun W=>DG c W
  have D2:=fun W=>DG c2 W
  clear hc hc2 AT DG
  by_cases q:isD b c=true
  · rw [q] at D1
    have hlt:k<s.size:=by
     rcases Nat.lt_or_ge k s.size with z | z
     · exact z
     · have:=HC.out.1
       rw [h0_out (by omega)] at this
       rw [← this] at q
       unfold isD at q
       rw [show dv (0:UInt8).toNat=36 by decide] at q
       have:=of_decide_eq_true q
       have:=HB.out
       omega
    have i1:(k:Int)<(s.size:Int):=by omega
    have i2:(0:Int)≤(k:Int):=by omega
    have hx:((((s[k]'hlt).toNat:Nat):Int))=(c.toNat:Int):=by have:=HC.out.1;rw [h0_at hlt] at this;rw [this]
    have HT:Hid (s.data.toList.drop k=c :: s.data.toList.drop (k+1)):=by
     have:=drop_at s hlt
     rw [← h0_at hlt,HC.out.1] at this
     exact this
    have HQ:Hid (isD b c=true):=q
    clear q D2 A2
    go_wp2_with fail
    refine (A1 _).mono ?_
    rintro e wr ⟨rfl,rfl⟩
    go_wp2_with fail
    refine (D1 _).mono ?_
    rintro e wr ⟨rfl,rfl⟩
    go_wp2_with (first | (at_builtin;refine wpList_append_own _ rfl _ _ 157 rfl w.heap.size 5 ii (.int .u8 0) 1 1 und_bs hi hz0 hz1 hz2 rfl (by decide) _ _ _ rfl (B3.out.row.own.alloc _) ⟨wr.heap.size,0,none⟩ 1 1 [.int .u8 (c.toNat:Int)] rfl rfl (World.news_of_block (cs:=#[.int .u8 (c.toNat:Int)]) (t:=5) (fr:=(0,0)) (heap_alloc_new _ _)) (by simp [Value.oneCell']) (by have:=B3.out.len;have:=HSZ.out;unfold maxLen;simp;omega) (by have:=B3.out.len;have:=HSZ.out;simp;omega) (by have:=HZ.out;simp;omega) ?_) | go_in)
    intro v5 w5 ho5 hg5 _
    have B5:Hid (RuS w w5 s.data.toList b i0 f0 (k+1) false v5 (o ++ [c])):=by
     have e:(false || !(o ++ [c]).isEmpty)=true:=by simp
     refine ⟨B3.out.row.app (m:=[c]) ho5 hg5,by have:=B3.out.len;simp;omega,?_,?_⟩
     · rw [B3.out.dg,HT.out,rdg_digit HQ.out,e];simp
     · rw [B3.out.go,HT.out,rch_digit HQ.out,e];omega
    clear ho5 hg5
    go_wp2
    go_roundw
    case rel=>exact ⟨k+1,false,o ++ [c],by omega,by go_num,rfl,B5⟩
    case measure=>simp [intOf];omega
  · have q':isD b c=false:=by simpa using q
    rw [q'] at D1
    have HQ:Hid (isD b c=false):=q'
    have HDR:Hid (s.data.toList.drop k=[] ∨ s.data.toList.drop k=c :: s.data.toList.drop (k+1)):=by
     rcases Nat.lt_or_ge k s.size with z | z
     · right
       have:=drop_at s z
       rw [← h0_at z,HC.out.1] at this
       exact this
     · left;exact drop_end s (by omega)
    have cv:=B3.out.row.text
    obtain ⟨ao,cp,rfl⟩:=B3.out.row.len
    obtain ⟨L,hL⟩:∃ L,o.length=L:=⟨_,rfl⟩
    have HL:Hid (o.length=L):=hL
    rw [hL] at B3 cv ⊢
    clear hL
    have HST:Hid (¬ (c=95∧(f || !o.isEmpty)=true∧hdD b (s.data.toList.drop (k+1))=true) → D=o∧E=k):=fun hn=>by
     rcases HDR.out with z | z
     · constructor
       · rw [HD.out.1,B3.out.dg,z];simp [rdg]
       · rw [HD.out.2,B3.out.go,z];simp [rch]
     · constructor
       · rw [HD.out.1,B3.out.dg,z,rdg_bad HQ.out hn];simp
       · rw [HD.out.2,B3.out.go,z,rch_bad HQ.out hn];simp
    clear q q'
    by_cases z:c=95
    · have HZC:Hid (c=95):=z
      have hc95:(c.toNat:Int)=95:=by rw [z];rfl
      rw [hc95] at A1 D1
      have hh:hdD b (s.data.toList.drop (k+1))=isD b c2:=by rw [hdD_h0 HB.out,HC.out.2]
      have HH:Hid (hdD b (s.data.toList.drop (k+1))=isD b c2):=hh
      clear z hc95 hh
      by_cases g:isD b c2=true
      · rw [g] at D2
        have HG:Hid (hdD b (s.data.toList.drop (k+1))=true):=by show _=_;rw [HH.out];exact g
        clear g
        by_cases y:(f || !o.isEmpty)=true
        · have HT:Hid (s.data.toList.drop k=c :: s.data.toList.drop (k+1)):=by
           rcases HDR.out with u | u
           · exfalso
             have:=HG.out
             rw [show s.data.toList.drop (k+1)=[] by rw [← List.drop_drop,u];rfl] at this
             cases this
           · exact u
          have hlt:k<s.size:=by
           rcases Nat.lt_or_ge k s.size with u | u
           · exact u
           · have:=HT.out;rw [drop_end s (by omega)] at this;cases this
          have B5:Hid (RuS w wr s.data.toList b i0 f0 (k+1) false (.slice ao L cp) o):=by
           refine ⟨B3.out.row,by have:=B3.out.len;omega,?_,?_⟩
           · rw [B3.out.dg,HT.out,y,rdg_bar HQ.out HZC.out rfl HG.out,rdg_hd_any HG.out false (false || !o.isEmpty)]
           · rw [B3.out.go,HT.out,y,rch_bar HQ.out HZC.out rfl HG.out,rch_hd_any HG.out false (false || !o.isEmpty)];omega
          by_cases u:o=[]
          · have hf:f=true:=by rw [u] at y;simpa using y
            subst hf
            have ol2:L=0:=by have:=HL.out;rw [u] at this;simp at this;omega
            subst ol2
            clear u y HST
            go_wp2_with fail
            refine (A1 _).mono ?_
            rintro e wr ⟨rfl,rfl⟩
            go_wp2_with fail
            refine (D1 _).mono ?_
            rintro e wr ⟨rfl,rfl⟩
            go_wp2_with fail
            refine (A1 _).mono ?_
            rintro e wr ⟨rfl,rfl⟩
            go_wp2_with fail
            refine (A2 _).mono ?_
            rintro e wr ⟨rfl,rfl⟩
            go_wp2_with fail
            refine (D2 _).mono ?_
            rintro e wr ⟨rfl,rfl⟩
            go_wp2
            go_roundw
            case rel=>exact ⟨k+1,false,o,by omega,by go_num,rfl,B5⟩
            case measure=>simp [intOf];omega
          · have ol2:(0:Int)<(L:Int):=by have:=List.length_pos_iff.2 u;have:=HL.out;omega
            clear u y HST
            go_wp2_with fail
            refine (A1 _).mono ?_
            rintro e wr ⟨rfl,rfl⟩
            go_wp2_with fail
            refine (D1 _).mono ?_
            rintro e wr ⟨rfl,rfl⟩
            go_wp2_with fail
            refine (A1 _).mono ?_
            rintro e wr ⟨rfl,rfl⟩
            go_wp2_with fail
            refine (A2 _).mono ?_
            rintro e wr ⟨rfl,rfl⟩
            go_wp2_with fail
            refine (D2 _).mono ?_
            rintro e wr ⟨rfl,rfl⟩
            go_wp2
            go_roundw
            case rel=>exact ⟨k+1,false,o,by omega,by go_num,rfl,B5⟩
            case measure=>simp [intOf];omega
        · have y':(f || !o.isEmpty)=false:=by simpa using y
          have hf:f=false:=by cases f with
           | false=>rfl
           | true=>simp at y'
          have u:o=[]:=by cases o with
           | nil=>rfl
           | cons a t=>rw [hf] at y';simp at y'
          subst hf
          have ol2:L=0:=by have:=HL.out;rw [u] at this;simp at this;omega
          subst ol2
          have HS2:Hid (D=o∧E=k):=HST.out (fun t=>y t.2.1)
          clear u y y' HST
          go_wp2_with fail
          refine (A1 _).mono ?_
          rintro e wr ⟨rfl,rfl⟩
          go_wp2_with fail
          refine (D1 _).mono ?_
          rintro e wr ⟨rfl,rfl⟩
          go_wp2_with fail
          refine (A1 _).mono ?_
          rintro e wr ⟨rfl,rfl⟩
          go_wp2_with fail
          refine (A2 _).mono ?_
          rintro e wr ⟨rfl,rfl⟩
          go_wp2_with fail
          refine (D2 _).mono ?_
          rintro e wr ⟨rfl,rfl⟩
          go_wp2
          go_ret2
          exact ⟨by rw [HS2.out.1,HS2.out.2];rfl,B3.out.row.bel⟩
      · have g':isD b c2=false:=by simpa using g
        rw [g'] at D2
        have HS2:Hid (D=o∧E=k):=HST.out (fun t=>g (by rw [← HH.out];exact t.2.2))
        clear g g' HST
        go_wp2_with fail
        refine (A1 _).mono ?_
        rintro e wr ⟨rfl,rfl⟩
        go_wp2_with fail
        refine (D1 _).mono ?_
        rintro e wr ⟨rfl,rfl⟩
        go_wp2_with fail
        refine (A1 _).mono ?_
        rintro e wr ⟨rfl,rfl⟩
        go_wp2_with fail
        refine (A2 _).mono ?_
        rintro e wr ⟨rfl,rfl⟩
        go_wp2_with fail
        refine (D2 _).mono ?_
        rintro e wr ⟨rfl,rfl⟩
        go_wp2
        go_ret2
        exact ⟨by rw [HS2.out.1,HS2.out.2];rfl,B3.out.row.bel⟩
    · have z2:((c.toNat:Int) == 95)=false:=u8_ne z
      have HS2:Hid (D=o∧E=k):=HST.out (fun t=>z t.1)
      clear z HST D2 A2
      generalize (c.toNat:Int)=cc at *
      go_wp2_with fail
      refine (A1 _).mono ?_
      rintro e wr ⟨rfl,rfl⟩
      go_wp2_with fail
      refine (D1 _).mono ?_
      rintro e wr ⟨rfl,rfl⟩
      go_wp2_with fail
      refine (A1 _).mono ?_
      rintro e wr ⟨rfl,rfl⟩
      go_wp2
      go_ret2
      exact ⟨by rw [HS2.out.1,HS2.out.2];rfl,B3.out.row.bel⟩
end Go.Proofs.YtejgpbhionadbaaGreatDoor
