/-
  Holds: UScE UScT.
-/
import Derived.Test.YtejgpbhionadbaaGreatDoorChecked
import Derived.WalkKit
import Derived.Deep.DeepMust
import Derived.Lib.Strings
import Derived.Lib.BufferWrite
import Derived.Deep.OwnRows
import Derived.Deep.RegionHeld3
import Derived.Deep.QuietTactic
import Derived.BigQuiet
import Derived.Deep.AppendLies
import Derived.Lib.ConvBytes
import Derived.Test.YtejgpbhionadbaaGreatDoorXl1
import Derived.Test.YtejgpbhionadbaaGreatDoorXl25
import Derived.Test.YtejgpbhionadbaaGreatDoorXl26
set_option maxRecDepth 100000
set_option maxHeartbeats 4000000
namespace Go.Proofs.YtejgpbhionadbaaGreatDoor
open Go.RowKit
theorem u48 {c:UInt8}:c.toNat=48 ↔ c=48:=⟨fun h=>UInt8.toNat_inj.1 h,fun h=>by rw [h];rfl⟩
theorem fT (l:List UInt8) (hl:l.length<=140737488351256) (w:World):Cs 132 #[.string (sB l),.string ⟨#[48]⟩] w (.string (sB (l.drop (nz l)))):=by
 by_cases h:l=[]
 . subst h
   show Calls _ _ #[.string ⟨#[]⟩,_] _ fun e w'=>e=.returned (.string ⟨#[]⟩)/\w'=w
   go_enter Tryz.func132,Tryz.ntmps132
   go_wp2
   go_ret
   exact ⟨rfl,rfl⟩
 . have h0:0<l.length:=List.length_pos_iff.2 h
   have T:=nE (sB l) (by rw [aA];omega) (nz l) (cW l) h0 (fun i hi=>u48.2 (kH l i (by have:=cW l;omega) hi)) (fun hm=>fun z=>gF l hm (u48.1 z)) w
   rw [aJ] at T
   exact T
theorem nG (l:List UInt8) (hl:l.length<=140737488351256) (w:World):Cs 221 #[.string (sB l),.string ⟨#[48]⟩] w (.string (sB (l.take (trn l)))):=by
 have T:=aA9 (sB l) (by rw [aA];omega) (trn l) (dS l) (fun i hi h=>u48.2 (jX l i h hi)) (fun hm=>fun z=>nH l hm (u48.1 z)) w
 rw [eO] at T
 exact T
theorem oY {l:List UInt8}:(sB l).toList.isEmpty=l.isEmpty:=by rw [dD,bR]
theorem aHG {l:List UInt8}:trn l=0 ↔ anz l=false:=by
 rw [rS]
 constructor
 . intro h;exact decide_eq_false (by omega)
 . intro h;have:=of_decide_eq_false h;omega
theorem aA7         (l : List UInt8) (hl : l.length ≤ 140737488351256) (w : World) : Calls Tryz.prog 183 #[.string (sB l), .bool false] w fun e w' => e = .returned (.tuple #[.string (sB (shT l)), .bool (anz (l.drop 800))]) ∧ Below w.heap.size w w' := by
  have C := fun (m : List UInt8) (h : m.length ≤ 140737488351256) W => lV        (sB m) (by rw [aA     ]; omega) W
  by_cases g : 800 < l.length
  · have g' : (800 : Int) < ((sB l).size : Int) := by rw [aA     ]; omega
    have hb : (sB l).size ≤ 140737488351256 := hl
    have T1 := fun W => nG        (l.drop 800) (by rw [List.length_drop]; omega) W
    have x1 := aJ      l 800
    have x2 := eO    l 800
    cases q : anz (l.drop 800) with
    | true =>
      have HS : Hid (shT l = l.take 800) := by show _ = _; unfold shT; rw [if_pos q]
      have e1 : (sB ((l.drop 800).take (trn (l.drop 800)))).toList.isEmpty = false := by
        apply aI
        rw [aA     , List.length_take]
        have := rS      (l.drop 800)
        rw [q] at this
        have := of_decide_eq_true this.symm
        have := dS     (l.drop 800)
        omega
      have C1 := fun W => C (l.take 800) (by rw [List.length_take]; omega) W
      rw [HS.out]
      clear q HS C hl g
      generalize sB ((l.drop 800).take (trn (l.drop 800))) = t1 at *
      generalize sB (l.drop 800) = t2 at *
      generalize sB (l.take 800) = t3 at *
      generalize sB l = s at *
      go_enter Tryz.func183, Tryz.ntmps183
      go_wp2_with fail
      refine (T1 _).mono ?_
      rintro e w ⟨rfl, rfl⟩
      go_wp2_with fail
      refine (C1 _).mono ?_
      rintro e w1 ⟨rfl, b1⟩
      go_wp2
      go_ret2
      exact ⟨rfl, b1⟩
    | false =>
      have HS : Hid (shT l = (l.take 800).take (trn (l.take 800))) := by show _ = _; unfold shT; rw [if_neg (by rw [q]; decide)]
      rw [     aHG.2 q, List.take_zero, show sB [] = ⟨#[]⟩ from rfl] at T1
      have T2 := fun W => nG        (l.take 800) (by rw [List.length_take]; omega) W
      have C1 := fun W => C ((l.take 800).take (trn (l.take 800))) (by rw [List.length_take, List.length_take]; omega) W
      rw [HS.out]
      clear q HS C hl g
      generalize sB ((l.take 800).take (trn (l.take 800))) = t1 at *
      generalize sB (l.drop 800) = t2 at *
      generalize sB (l.take 800) = t3 at *
      generalize sB l = s at *
      go_enter Tryz.func183, Tryz.ntmps183
      go_wp2_with fail
      refine (T1 _).mono ?_
      rintro e w ⟨rfl, rfl⟩
      go_wp2_with fail
      refine (T2 _).mono ?_
      rintro e w ⟨rfl, rfl⟩
      go_wp2_with fail
      refine (C1 _).mono ?_
      rintro e w1 ⟨rfl, b1⟩
      go_wp2
      go_ret2
      exact ⟨rfl, b1⟩
  · have g' : ¬ (800 : Int) < ((sB l).size : Int) := by rw [aA     ]; omega
    have e0 : l.drop 800 = [] := List.drop_eq_nil_of_le (by omega)
    have HS : Hid (shT l = l.take (trn l)) := by
      show _ = _
      unfold shT
      rw [e0, if_neg (by decide), List.take_of_length_le (show l.length ≤ 800 by omega)]
    have T2 := fun W => nG        l hl W
    have C1 := fun W => C (l.take (trn l)) (by rw [List.length_take]; omega) W
    rw [HS.out, e0, show anz [] = false from rfl]
    clear HS C hl g e0
    generalize sB (l.take (trn l)) = t1 at *
    generalize sB l = s at *
    go_enter Tryz.func183, Tryz.ntmps183
    go_wp2_with fail
    refine (T2 _).mono ?_
    rintro e w ⟨rfl, rfl⟩
    go_wp2_with fail
    refine (C1 _).mono ?_
    rintro e w1 ⟨rfl, b1⟩
    go_wp2
    go_ret2
    exact ⟨rfl, b1⟩
theorem gJ {l:List UInt8}(h:∀ c ∈ l,isD 10 c=true):DG (sB l):=by
 intro k hk
 have hk':k<l.length:=hk
 have:=h (l[k]'hk') (List.getElem_mem hk')
 rw [jO rfl] at this
 exact of_decide_eq_true this
theorem aDF (l:List UInt8) (hl:l.length<=140737488351256) (hd:∀ c ∈ l,isD 10 c=true) (h0:l ≠ []) (hz:nz l=0) (p:Int) (hp0:-1099511627776<=p) (hp9:p<=1099511627776) (w:World) :
 Cb 136 #[.string (sB l),vI p,.bool false] w (.tuple #[dcV (sB (shT l)) p (anz (l.drop 800)),.nilIface]):=by
 have D:=fun W=>pU (sB l) (by rw [aA];omega) (gJ hd) W
 have T:=fun W=>fT l hl W
 rw [hz,List.drop_zero] at T
 have S:=fun W=>aA7 l hl W
 have hE:(sB l).toList.isEmpty=false:=aI (by rw [aA];exact List.length_pos_iff.2 h0)
 have r1:decide (p < -1099511627776)=false:=decide_eq_false (by omega)
 have r2:decide (1099511627776<p)=false:=decide_eq_false (by omega)
 have hb:(sB l).size<=140737488351256:=hl
 have wp:wrap64 p=p:=by unfold wrap64;omega
 clear hd hl h0 hz hp0 hp9
 generalize sB (shT l)=s2 at *
 generalize anz (l.drop 800)=c2 at *
 generalize sB l=s at *
 unfold dcV
 go_enter Tryz.func136,Tryz.ntmps136
 go_wp2_with fail
 refine (D _).mono ?_
 rintro e w0 ⟨rfl,rfl⟩
 go_wp2_with fail
 refine (T _).mono ?_
 rintro e w0 ⟨rfl,rfl⟩
 go_wp2_with fail
 refine (S _).mono ?_
 rintro e w1 ⟨rfl,hb⟩
 have hs1:w.heap.size<w1.heap.size:=by have:=hb.size;simp at this;omega
 obtain ⟨hc,hf⟩:(∀ o,w1.cell? ⟨w.heap.size,o,none⟩=(w.alloc (.cells #[.string ⟨#[]⟩,vI 0,.bool false] 41)).cell? ⟨w.heap.size,o,none⟩)/\(∀ o,w1.frozen? ⟨w.heap.size,o,none⟩=(w.alloc (.cells #[.string ⟨#[]⟩,vI 0,.bool false] 41)).frozen? ⟨w.heap.size,o,none⟩) :=
  ⟨fun o=>hb.cell (p:=⟨w.heap.size,o,none⟩) (by simp),fun o=>hb.frozen (p:=⟨w.heap.size,o,none⟩) (by simp)⟩
 go_wp2
 refine bodyPost_ret (v:=.tuple #[.agg #[.string s2,vI p,.bool c2],.nilIface]) (by simp [results,Tryz.results136,go_sem,hc]) rfl ⟨rfl,?_⟩
 exact (((((bz _ _).trans (hb.mono (by simp))).setCell (Nat.le_refl _) _).setCell (Nat.le_refl _) _).setCell (Nat.le_refl _) _)
structure BRow (W:World) (g n:Nat) (F:Nat -> Nat):Prop where
 cell:∀ i,i<n -> W.cell? ⟨g,i,none⟩=some (.int .u8 (F i:Int))
 fr:∀ i,i<n -> W.frozen? ⟨g,i,none⟩=false
def mQ (F:Nat -> Nat) (i r:Nat):Nat -> Nat:=fun j=>if j=i then r else F j
theorem BRow.set {W:World}{g n:Nat}{F:Nat -> Nat}(R:BRow W g n F) {i:Nat}(hi:i<n) (r:Nat):BRow (W.setCell ⟨g,i,none⟩ (.int .u8 (r:Int))) g n (mQ F i r):=by
 refine ⟨fun j hj=>?_,fun j hj=>?_⟩
 . unfold mQ
   by_cases z:j=i
   . rw [if_pos z,z];exact World.cell?_setCell_same W ⟨g,i,none⟩ _ (R.cell i hi)
   . rw [if_neg z,World.cell?_setCell_other W ⟨g,i,none⟩ ⟨g,j,none⟩ _ (by intro h;injection h with _ h _;exact z h.symm)];exact R.cell j hj
 . rw [World.frozen?_setCell];exact R.fr j hj
theorem aFJ:Tryz.prog.underlying 9=some .string:=by kernel_rfl
theorem aJR:Tryz.prog.underlying 5=some (.int .u8):=by kernel_rfl
def lgt (l:List UInt8) (i:Nat):Nat:=(l.getD i 0).toNat
theorem aF7 (w:World) (l:List UInt8) (hs:l.length<=140737488351256):∃ W1 C,(Go.convert 9 157 (.string (sB l))).run Tryz.prog w=.ok (.slice (some ⟨w.heap.size,0,none⟩) l.length C) W1/\l.length<=C/\C<=maxLen/\Bl w W1/\BRow W1 w.heap.size l.length (lgt l):=by
 have hL:=Lib.run_convert_string_bytes (P:=Tryz.prog) w 9 157 5 (sB l) aFJ fU aJR
 refine ⟨Lib.bytesWorld w 5 (sB l),grownCap w l.length 0 5,hL,grownCap_ge _ _ _ _,grownCap_le_maxLen _ _ _ _ (Nat.le_trans hs (by decide)),⟨rfl,rfl,rfl,by rw [Lib.bytesWorld_size];omega,fun k hk=>Lib.bytesWorld_at_old w 5 (sB l) k hk⟩,?_⟩
 refine ⟨fun i hi=>?_,fun i hi=>?_⟩
 . exact Lib.bytesWorld_cell w 5 (sB l) i hi
 . have q:=Lib.bytesWorld_at_new w 5 (sB l)
   unfold World.frozen?
   rw [q]
   have z:¬ (Lib.bytesCells w 5 (sB l)).size<=i:=by
    have e:(sB l).size=l.length:=rfl
    unfold Lib.bytesCells
    simp [e]
    omega
   simp [z]
theorem fQ (a b:List UInt8):sB a ++ sB b=sB (a ++ b):=by
 apply ByteArray.ext
 rw [ByteArray.data_append]
 apply Array.toList_inj.1
 rw [Array.toList_append]
 rfl
theorem zB {l:List UInt8}{i:Nat}(h:i<l.length):lgt l i=(l[i]'h).toNat:=by
 unfold lgt
 rw [List.getD_eq_getElem?_getD,List.getElem?_eq_getElem h];rfl
theorem BRow.text {W:World}{g:Nat}{l:List UInt8}{F:Nat -> Nat}(h:BRow W g l.length F) (hF:∀ i,i<l.length -> F i=lgt l i) (C:Nat):(Go.convert 157 9 (.slice (some ⟨g,0,none⟩) l.length C)).run Tryz.prog W=.ok (.string (sB l)) W:=by
 have:=run_convert_bytes_arg (P:=Tryz.prog) W 157 5 fU aFG g 0 l.length C (l.map fun c=>(c.toNat:Int)) (by simp) (fun i hi=>by
  have e:(⟨g,0,none⟩:Addr).add i=⟨g,0+i,none⟩:=jY g 0 i
  have q:=h.cell i hi
  rw [hF i hi,zB hi] at q
  rw [Nat.zero_add,q]
  congr 2
  simp [List.getD_eq_getElem?_getD,hi]) 9 aFI
 rw [uO] at this
 exact this
theorem aEV (W P:List UInt8) (hl:W.length+P.length<=140737488351256) (w:World):Cb 135 #[.string (sB W),.string (sB P)] w (.string (sB (plD W P))):=by
 have ap:=fQ W P
 have hsum:¬ 9223372036854775807<(sB W).size+(sB P).size:=by rw [aA,aA];omega
 have hlen:(W ++ P).length<=140737488351256:=by rw [List.length_append];exact hl
 obtain ⟨W1,C,hcv,hC,hC',B1,R1⟩:=aF7 w (W ++ P) hlen
 have HB1:Hid (Bl w W1):=B1
 have HR1:Hid (BRow W1 w.heap.size (W ++ P).length (lgt (W ++ P))):=R1
 have HP:Hid ((plD W P).length=(W ++ P).length/\∀ i,i<(W ++ P).length -> lgt (plD W P) i=(if 48<=lgt (W ++ P) i/\lgt (W ++ P) i<=57 then lgt (W ++ P) i else 48)):=by
  have e:(plD W P).length=(W ++ P).length:=by unfold plD;rw [List.length_map]
  refine ⟨e,fun i hi=>?_⟩
  rw [zB (by rw [e];exact hi),zB hi]
  have:(plD W P)[i]'(by rw [e];exact hi)=pln ((W ++ P)[i]'hi):=by unfold plD;rw [List.getElem_map]
  rw [this]
  unfold pln
  rw [jO rfl]
  by_cases z:48<=((W ++ P)[i]'hi).toNat/\((W ++ P)[i]'hi).toNat<=57
  . rw [if_pos (decide_eq_true z),if_pos z]
  . rw [if_neg (by rw [decide_eq_false z];decide),if_neg z];rfl
 have HT:Hid (∀ W2 F,BRow W2 w.heap.size (W ++ P).length F -> (∀ i,i<(W ++ P).length -> F i=lgt (plD W P) i) -> (Go.convert 157 9 (.slice (some ⟨w.heap.size,0,none⟩) (W ++ P).length C)).run Tryz.prog W2=.ok (.string (sB (plD W P))) W2):=fun W2 F h hF=>by
  have e:=HP.out.1
  rw [<- e] at h hF ⊢
  exact h.text hF C
 have hb8:∀ i,lgt (W ++ P) i<256:=fun i=>UInt8.toNat_lt _
 clear B1 R1 hl
 generalize lgt (plD W P)=G at *
 generalize sB (plD W P)=r at *
 generalize lgt (W ++ P)=F0 at *
 generalize (W ++ P).length=n at *
 generalize sB (W ++ P)=u at *
 generalize sB W=s at *
 generalize sB P=t at *
 go_enter Tryz.func135,Tryz.ntmps135
 go_wp2
 go_loopw [14] (fun iv wr=>∃ (k:Nat) (F:Nat -> Nat),k<=n/\iv=vI (k:Int)/\Hid (Bl w wr/\BRow wr w.heap.size n F/\(∀ j,j<k -> F j=G j)/\(∀ j,k<=j -> F j=F0 j))) (fun iv _=>n - (intOf iv).toNat)
 case atStart=>exact ⟨0,F0,Nat.zero_le _,rfl,HB1.out,HR1.out,fun j h=>absurd h (by omega),fun _ _=>rfl⟩
 case round =>
  clear HB1 HR1 hcv
  obtain ⟨k,F,hk,rfl,HK⟩:=hrel
  by_cases c1:k<n
  . have i1:(k:Int)<(n:Int):=by omega
    have i0:(0:Int)<=(k:Int):=by omega
    have hc:=HK.out.2.1.cell k c1
    have hf:=HK.out.2.1.fr k c1
    have e9:F k=F0 k:=HK.out.2.2.2 k (Nat.le_refl _)
    have hG:=HP.out.2 k c1
    have hx8:=hb8 k
    rw [e9] at hc
    obtain ⟨x,hx⟩:∃ x,F0 k=x:=⟨_,rfl⟩
    rw [hx] at hc hG hx8
    have HF:Hid (F k=x):=e9.trans hx
    clear e9 hx hb8
    by_cases z:48<=x/\x<=57
    . rw [if_pos z] at hG
      have z1:¬ (x:Int)<48:=by omega
      have z2:¬ (57:Int)<(x:Int):=by omega
      have HG:Hid (G k=x):=hG
      clear z hG
      go_wp2
      go_roundw
      case rel =>
       refine ⟨k+1,F,by omega,by go_num,HK.out.1,HK.out.2.1,fun j hj=>?_,fun j hj=>HK.out.2.2.2 j (by omega)⟩
       by_cases y:j=k
       . rw [y,HF.out,HG.out]
       . exact HK.out.2.2.1 j (by omega)
      case measure=>simp [intOf];omega
    . rw [if_neg z] at hG
      have HG:Hid (G k=48):=hG
      have HK2:Hid ((∀ j,j<k+1 -> mQ F k 48 j=G j)/\(∀ j,k+1<=j -> mQ F k 48 j=F0 j)):=by
       refine ⟨fun j hj=>?_,fun j hj=>?_⟩
       . unfold mQ
         by_cases y:j=k
         . rw [if_pos y,y,HG.out]
         . rw [if_neg y];exact HK.out.2.2.1 j (by omega)
       . unfold mQ
         rw [if_neg (by omega)]
         exact HK.out.2.2.2 j (by omega)
      have HC:Hid (k<n):=c1
      clear hG HG HF
      by_cases z1:(x:Int)<48
      . clear z
        go_wp2
        go_roundw
        case rel=>exact ⟨k+1,mQ F k 48,by omega,by go_num,HK.out.1.setCell (Nat.le_refl _) _,HK.out.2.1.set HC.out 48,HK2.out⟩
        case measure=>simp [intOf];omega
      . have z2:(57:Int)<(x:Int):=by omega
        clear z
        go_wp2
        go_roundw
        case rel=>exact ⟨k+1,mQ F k 48,by omega,by go_num,HK.out.1.setCell (Nat.le_refl _) _,HK.out.2.1.set HC.out 48,HK2.out⟩
        case measure=>simp [intOf];omega
  . obtain rfl:k=n:=by omega
    have i1:¬ (k:Int)<(k:Int):=by omega
    have ct:=HT.out wr F HK.out.2.1 (fun i hi=>HK.out.2.2.1 i hi)
    go_wp2
    go_ret
    exact ⟨rfl,HK.out.1⟩
theorem fO {T:List UInt8}{j i:Nat}(hT:i<T.length):∀ hh:i<(sB (T.take j)).size,(sB (T.take j))[i]'hh=T[i]'hT:=fun hh=>by
 have h2:i<(T.take j).length:=hh
 have:=List.getElem_take (xs:=T) (i:=i) (j:=j) (h:=h2)
 exact this
theorem rH     {D : List UInt8} (h : D ≠ []) (h0 : nz D = 0) : shT D ≠ [] ∧ (anz (D.drop 800) = false → 0 < trn (D.take 800)) := by
  cases D with
  | nil => exact absurd rfl h
  | cons c r =>
    have hc : c ≠ 48 := fun z => by subst z; rw [iH    ] at h0; omega
    have k : 0 < trn ((c :: r).take 800) := by
      rw [show (c :: r).take 800 = c :: r.take 799 from rfl]
      show 0 < (if _ then _ else _)
      rw [if_neg (fun z => hc z.2)]; omega
    refine ⟨?_, fun _ => k⟩
    unfold shT
    split
    · rw [show (c :: r).take 800 = c :: r.take 799 from rfl]; simp
    · intro z
      have := congrArg List.length z
      rw [List.length_take] at this
      have := dS     ((c :: r).take 800)
      simp at *
      omega
def mkR (z:Nat) (d:ByteArray) (c:Bool):Value:=match decide (z<=1099511627776) with
 | true=>.tuple #[.agg #[.string d,vI (-(z:Int)),.bool c],vI 0]
 | false=>.tuple #[.agg #[.string ⟨#[]⟩,vI 0,.bool false],vI 4]
theorem kF {z:Nat}(h:z<=1099511627776) (d:ByteArray) (c:Bool):mkR z d c=.tuple #[.agg #[.string d,vI (-(z:Int)),.bool c],vI 0]:=by unfold mkR;rw [decide_eq_true h]
theorem oC {z:Nat}(h:1099511627776<z) (d:ByteArray) (c:Bool):mkR z d c=.tuple #[.agg #[.string ⟨#[]⟩,vI 0,.bool false],vI 4]:=by unfold mkR;rw [decide_eq_false (by omega)]
theorem aCH (l:List UInt8) (hl:l.length<=140737488351256) (hd:∀ c ∈ l,isD 10 c=true) (h0:nz l=l.length) (w:World) :
 Cb 88 #[.string (sB l),vI 0,.bool false] w (.tuple #[.agg #[.string ⟨#[]⟩,vI 0,.bool false],vI 0]):=by
 have D:=fun W=>iJ (sB l) (by rw [aA];omega) (gJ hd) W
 have hz:=cW l
 have HA:Hid (∀ i (h:i<l.length),i<nz l -> l[i]'h=48):=kH l
 have HN:Hid (∀ h:nz l<l.length,l[nz l]'h ≠ 48):=gF l
 have HG:Hid ((sB l).size=l.length/\∀ k (h:k<l.length) (h':k<(sB l).size),(sB l)[k]'h'=l[k]'h):=⟨rfl,fun _ _ _=>rfl⟩
 have hb:(sB l).size<=140737488351256:=hl
 have hzb:nz l<=(sB l).size:=hz
 have xz:=aJ l (nz l)
 rw [h0,List.drop_eq_nil_of_le (Nat.le_refl _),<- aA,show sB []=⟨#[]⟩ from rfl] at xz
 obtain ⟨z,hz2⟩:∃ z,z=nz l:=⟨_,rfl⟩
 have hzs:z=(sB l).size:=by rw [hz2,h0];rfl
 rw [<- hz2] at HA hzb
 clear hz2 HN hl hd h0 hz
 generalize sB l=s at *
 go_enter Tryz.func88,Tryz.ntmps88
 go_wp2_with fail
 refine (D _).mono ?_
 rintro e w0 ⟨rfl,rfl⟩
 go_wp2
 go_loop [8] (fun iv=>∃ k:Nat,iv=vI (k:Int)/\k<=z) (fun iv=>z - (intOf iv).toNat)
 case atStart=>exact ⟨0,rfl,Nat.zero_le _⟩
 case round =>
  obtain ⟨k,rfl,hk⟩:=hrel
  by_cases c0:k<z
  . have hks:k<s.size:=by omega
    have hkl:k<l.length:=by have:=HG.out.1;omega
    have x0:((((s[k]'hks).toNat:Nat):Int))=48:=by rw [HG.out.2 k hkl hks,HA.out k hkl c0];rfl
    have i0:(k:Int)<(s.size:Int):=by omega
    have i1:(0:Int)<=(k:Int):=by omega
    go_wp2
    go_round
    case rel=>exact ⟨k+1,by go_num,by omega⟩
    case measure=>simp [intOf];omega
  . obtain rfl:k=z:=by omega
    have i0:¬ (k:Int)<(s.size:Int):=by omega
    have i2:(k:Int)<=(s.size:Int):=by omega
    have i3:(0:Int)<=(k:Int):=by omega
    rw [<- hzs] at xz
    have xz2:s.extract k s.size=⟨#[]⟩:=by rw [<- hzs];exact xz
    go_wp2
    go_loop [0] (fun v=>v=.string ⟨#[]⟩) (fun _=>0)
    case atStart=>rfl
    case round =>
     subst hrel
     go_wp2
     refine bodyPost_ret (v:=.tuple #[.agg #[.string ⟨#[]⟩,vI 0,.bool false],vI 0]) (by simp [results,Tryz.results88,go_sem]) rfl ⟨rfl,?_⟩
     exact bz _ _
theorem lG {c:UInt8}(h:c ≠ 48):((c.toNat:Int) == 48)=false:=beq_eq_false_iff_ne.mpr fun y=>h (UInt8.toNat_inj.1 (Int.ofNat_inj.1 y))
theorem NZD : ∀ l : List UInt8, nz (l.drop (nz l)) = 0
  | [] => rfl
  | c :: r => by
    by_cases h : c = 48
    · subst h; rw [iH    , List.drop_succ_cons]; exact NZD r
    · rw [iS    h, List.drop_zero, iS    h]
theorem aFg (l:List UInt8) (hl:l.length<=140737488351256) (hd:∀ c ∈ l,isD 10 c=true) (h0:nz l<l.length) (h8:(l.drop (nz l)).length<=800) (w:World) :
 Cb 88 #[.string (sB l),vI 0,.bool false] w (mkR (nz l) (sB ((l.drop (nz l)).take (trn (l.drop (nz l))))) false):=by
 have D:=fun W=>iJ (sB l) (by rw [aA];omega) (gJ hd) W
 have hz:=cW l
 have HA:Hid (∀ i (h:i<l.length),i<nz l -> l[i]'h=48):=kH l
 have HN:Hid (∀ h:nz l<l.length,l[nz l]'h ≠ 48):=gF l
 have HG:Hid ((sB l).size=l.length/\∀ k (h:k<l.length) (h':k<(sB l).size),(sB l)[k]'h'=l[k]'h):=⟨rfl,fun _ _ _=>rfl⟩
 have hb:(sB l).size<=140737488351256:=hl
 have hzb:nz l<=(sB l).size:=hz
 have xz:=aJ l (nz l)
 have HLT:Hid (nz l<l.length):=h0
 have HLEN:Hid ((l.drop (nz l)).length<=140737488351256):=(by omega:(l.drop (nz l)).length<=140737488351256)
 have ht:0<trn (l.drop (nz l)):=by
  have:=(rH (D:=l.drop (nz l)) (fun z=>by have:=congrArg List.length z;rw [List.length_drop] at this;simp at this;omega) (NZD l)).2 (by rw [List.drop_eq_nil_of_le h8];rfl)
  rw [List.take_of_length_le h8] at this
  exact this
 have h8':¬ (800:Int)<((sB (l.drop (nz l))).size:Int):=by rw [aA];omega
 have HT0:Hid (∀ hh,((sB ((l.drop (nz l)).take (trn (l.drop (nz l)))))[trn (l.drop (nz l)) - 1]'hh) ≠ 48):=fun hh=>by
  rw [fO (by have:=dS (l.drop (nz l));omega) hh];exact nH _ ht
 obtain ⟨z,hz2⟩:∃ z,z=nz l:=⟨_,rfl⟩
 rw [<- hz2] at HA HN HLT HLEN hzb xz ht h8' HT0 ⊢
 clear hz2 hl hd h0 hz h8
 generalize l.drop z=T at *
 generalize sB l=s at *
 go_enter Tryz.func88,Tryz.ntmps88
 go_wp2_with fail
 refine (D _).mono ?_
 rintro e w0 ⟨rfl,rfl⟩
 go_wp2
 go_loop [8] (fun iv=>∃ k:Nat,iv=vI (k:Int)/\k<=z) (fun iv=>z - (intOf iv).toNat)
 case atStart=>exact ⟨0,rfl,Nat.zero_le _⟩
 case round =>
  obtain ⟨k,rfl,hk⟩:=hrel
  by_cases c0:k<z
  . have hks:k<s.size:=by omega
    have hkl:k<l.length:=by have:=HG.out.1;omega
    have x0:((((s[k]'hks).toNat:Nat):Int))=48:=by rw [HG.out.2 k hkl hks,HA.out k hkl c0];rfl
    have i0:(k:Int)<(s.size:Int):=by omega
    have i1:(0:Int)<=(k:Int):=by omega
    go_wp2
    go_round
    case rel=>exact ⟨k+1,by go_num,by omega⟩
    case measure=>simp [intOf];omega
  . obtain rfl:k=z:=by omega
    have hks:k<s.size:=by have:=HLT.out;have:=HG.out.1;omega
    have hkl:k<l.length:=HLT.out
    have x0:((((s[k]'hks).toNat:Nat):Int) == 48)=false:=by rw [HG.out.2 k hkl hks];exact lG (HN.out hkl)
    have i0:(k:Int)<(s.size:Int):=by omega
    have i1:(0:Int)<=(k:Int):=by omega
    have i2:(k:Int)<=(s.size:Int):=by omega
    go_wp2
    go_loop [0] (fun v=>∃ j,v=.string (sB ((T).take j))/\trn (T)<=j/\j<=(T).length) (fun v=>oK v)
    case atStart=>exact ⟨(T).length,by rw [List.take_length],dS _,Nat.le_refl _⟩
    case round =>
     obtain ⟨j,rfl,hj1,hj2⟩:=hrel
     have HSZ:Hid ((sB ((T).take j)).size=j):=by show _=_;rw [aA,List.length_take];omega
     by_cases c1:trn (T)<j
     . obtain ⟨i,rfl⟩:∃ i,j=i+1:=⟨j - 1,by omega⟩
       have hit:i<(T).length:=by omega
       have e0:∀ hh,(((sB ((T).take (i+1)))[i]'hh).toNat:Int)=48:=fun hh=>by
        rw [fO hit hh,jX _ i hit (by omega)];rfl
       have cut:(sB ((T).take (i+1))).extract 0 i=sB ((T).take i):=by rw [eO,List.take_take,Nat.min_eq_left (by omega)]
       have HM:Hid ((sB ((T).take i)).size=i):=by show _=_;rw [aA,List.length_take];omega
       generalize sB ((T).take (i+1))=X at *
       have hX:(X.size:Int)=(i:Int)+1:=by have:=HSZ.out;omega
       have hiX:i<X.size:=by have:=HSZ.out;omega
       have e1:=e0 hiX
       have ix:((X.size:Int) - 1).toNat=i:=by omega
       have ix2:(X.size:Int) - 1=(i:Int):=by omega
       have hpos:0<X.size:=by omega
       have hbig:X.size<=140737488351256:=by have:=HSZ.out;have:=HLEN.out;omega
       have HX:Hid (X.size=i+1):=HSZ.out
       clear HSZ e0
       go_wp2
       go_round
       case rel=>exact ⟨i,rfl,by omega,by omega⟩
       case measure =>
        show (sB ((T).take i)).size<X.size
        have a:=HM.out
        have b:=HX.out
        omega
     . obtain rfl:j=trn (T):=by omega
       have HX:=HSZ.out
       have e9:=HT0.out
       generalize hXX:sB (T.take (trn T))=X at *
       have HXX:Hid (sB (T.take (trn T))=X):=hXX
       have hiX:trn T - 1<X.size:=by omega
       have e1:=lG (e9 hiX)
       have ix:((X.size:Int) - 1).toNat=trn T - 1:=by omega
       have hpos:0<X.size:=by omega
       have hbig:X.size<=140737488351256:=by have:=HLEN.out;omega
       have tz:((X.size:Int) == 0)=false:=beq_eq_false_iff_ne.mpr (by omega)
       have p1:(0:Int)<(X.size:Int):=by omega
       clear hXX HX e9 HSZ
       generalize trn T - 1=y at *
       rcases Nat.lt_or_ge 1099511627776 k with k9 | k9
       . have k8:k<=140737488351256:=by omega
         go_wp2
         refine bodyPost_ret (v:=.tuple #[.agg #[.string ⟨#[]⟩,vI 0,.bool false],vI 4]) (by simp [results,Tryz.results88,go_sem]) rfl ⟨by rw [oC k9],?_⟩
         exact bz _ _
       have k8:k<=1099511627776:=k9
       clear k9
       go_wp2
       refine bodyPost_ret (v:=.tuple #[.agg #[.string X,vI (-(k:Int)),.bool false],vI 0]) (by simp [results,Tryz.results88,go_sem]) rfl ⟨by rw [HXX.out,kF k8],?_⟩
       exact bz _ _
theorem aFf (l:List UInt8) (hl:l.length<=140737488351256) (hd:∀ c ∈ l,isD 10 c=true) (h0:nz l<l.length) (h8:800<(l.drop (nz l)).length) (hm:anz ((l.drop (nz l)).drop 800)=true) (w:World) :
 Cb 88 #[.string (sB l),vI 0,.bool false] w (mkR (nz l) (sB ((l.drop (nz l)).take 800)) true):=by
 have D:=fun W=>iJ (sB l) (by rw [aA];omega) (gJ hd) W
 have hz:=cW l
 have HA:Hid (∀ i (h:i<l.length),i<nz l -> l[i]'h=48):=kH l
 have HN:Hid (∀ h:nz l<l.length,l[nz l]'h ≠ 48):=gF l
 have HG:Hid ((sB l).size=l.length/\∀ k (h:k<l.length) (h':k<(sB l).size),(sB l)[k]'h'=l[k]'h):=⟨rfl,fun _ _ _=>rfl⟩
 have hb:(sB l).size<=140737488351256:=hl
 have hzb:nz l<=(sB l).size:=hz
 have xz:=aJ l (nz l)
 have HLT:Hid (nz l<l.length):=h0
 have hdl:(l.drop (nz l)).length<=140737488351256:=by rw [List.length_drop];omega
 have HMORE:Hid (anz ((l.drop (nz l)).drop 800)=true):=hm
 have HU:Hid (800<(sB (l.drop (nz l))).size/\(sB (l.drop (nz l))).size=(l.drop (nz l)).length/\∀ k (h:k<(l.drop (nz l)).length) (h':k<(sB (l.drop (nz l))).size),(sB (l.drop (nz l)))[k]'h'=(l.drop (nz l))[k]'h):=⟨h8,rfl,fun _ _ _=>rfl⟩
 have h8':(800:Int)<((sB (l.drop (nz l))).size:Int):=by rw [aA];omega
 have hub:(sB (l.drop (nz l))).size<=140737488351256:=hdl
 have x8:=eO (l.drop (nz l)) 800
 have h8s:((sB ((l.drop (nz l)).take 800)).size:Int)=800:=by rw [aA,List.length_take];omega
 obtain ⟨z,hz2⟩:∃ z,z=nz l:=⟨_,rfl⟩
 rw [<- hz2] at HA HN HLT hzb xz h8' HMORE HU hub x8 h8s ⊢
 clear hz2 hl hd h0 hz h8 hm hdl
 generalize l.drop z=T at *
 generalize sB T=u at *
 generalize sB l=s at *
 go_enter Tryz.func88,Tryz.ntmps88
 go_wp2_with fail
 refine (D _).mono ?_
 rintro e w0 ⟨rfl,rfl⟩
 go_wp2
 go_loop [8] (fun iv=>∃ k:Nat,iv=vI (k:Int)/\k<=z) (fun iv=>z - (intOf iv).toNat)
 case atStart=>exact ⟨0,rfl,Nat.zero_le _⟩
 case round =>
  obtain ⟨k,rfl,hk⟩:=hrel
  by_cases c0:k<z
  . have hks:k<s.size:=by omega
    have hkl:k<l.length:=by have:=HG.out.1;omega
    have x0:((((s[k]'hks).toNat:Nat):Int))=48:=by rw [HG.out.2 k hkl hks,HA.out k hkl c0];rfl
    have i0:(k:Int)<(s.size:Int):=by omega
    have i1:(0:Int)<=(k:Int):=by omega
    go_wp2
    go_round
    case rel=>exact ⟨k+1,by go_num,by omega⟩
    case measure=>simp [intOf];omega
  . obtain rfl:k=z:=by omega
    have hks:k<s.size:=by have:=HLT.out;have:=HG.out.1;omega
    have hkl:k<l.length:=HLT.out
    have x0:((((s[k]'hks).toNat:Nat):Int) == 48)=false:=by rw [HG.out.2 k hkl hks];exact lG (HN.out hkl)
    have i0:(k:Int)<(s.size:Int):=by omega
    have i1:(0:Int)<=(k:Int):=by omega
    have i2:(k:Int)<=(s.size:Int):=by omega
    go_wp2
    go_loop [2,9] (fun mv iv=>∃ i:Nat,800<=i/\i<=u.size/\iv=vI (i:Int)/\mv=.bool (anz ((T.take i).drop 800))) (fun _ iv=>u.size - (intOf iv).toNat)
    case atStart=>exact ⟨800,Nat.le_refl _,by have:=HU.out;omega,rfl,by rw [List.drop_eq_nil_of_le (by rw [List.length_take];omega)];rfl⟩
    case round =>
     obtain ⟨i,hi1,hi2,rfl,rfl⟩:=hrel
     by_cases c1:i<u.size
     . have hiT:i<T.length:=by have:=HU.out.2.1;omega
       have i4:(i:Int)<(u.size:Int):=by omega
       have i5:(0:Int)<=(i:Int):=by omega
       have ui:u[i]'c1=T[i]'hiT:=HU.out.2.2 i hiT c1
       have HS:Hid (anz ((T.take (i+1)).drop 800)=(anz ((T.take i).drop 800) || (T[i]'hiT != 48))):=by
        show _=_
        rw [List.take_succ_eq_append_getElem hiT,List.drop_append_of_le_length (by rw [List.length_take];omega)]
        unfold anz
        rw [List.any_append];simp
       rcases Bool.eq_false_or_eq_true (anz ((T.take i).drop 800)) with q | q
       . rw [q] at HS ⊢
         go_wp2
         go_round
         case rel=>exact ⟨i+1,by omega,by omega,by go_num,by rw [HS.out];rfl⟩
         case measure=>simp [intOf];omega
       . rw [q] at HS ⊢
         by_cases y:T[i]'hiT=48
         . have x9:((((u[i]'c1).toNat:Nat):Int))=48:=by rw [ui,y];rfl
           have HS2:Hid (anz ((T.take (i+1)).drop 800)=false):=by have:=HS.out;rw [y] at this;exact this
           clear ui HS y q
           go_wp2
           go_round
           case rel=>exact ⟨i+1,by omega,by omega,by go_num,by rw [HS2.out]⟩
           case measure=>simp [intOf];omega
         . have x9:((((u[i]'c1).toNat:Nat):Int) == 48)=false:=by rw [ui];exact lG y
           have x8:((((u[i]'c1).toNat:Nat):Int) != 48)=true:=by rw [bne,x9];rfl
           have HS2:Hid (anz ((T.take (i+1)).drop 800)=true):=by
            have:=HS.out
            rw [show (T[i]'hiT != 48)=true from bne_iff_ne.mpr y] at this
            exact this
           clear ui HS y q x9
           go_wp2
           go_round
           case rel=>exact ⟨i+1,by omega,by omega,by go_num,by rw [HS2.out]⟩
           case measure=>simp [intOf];omega
     . obtain rfl:i=u.size:=by omega
       have i4:¬ (u.size:Int)<(u.size:Int):=by omega
       have eT:anz ((T.take u.size).drop 800)=true:=by rw [HU.out.2.1,List.take_length];exact HMORE.out
       rw [eT]
       have i8:(800:Int)<=(u.size:Int):=by omega
       generalize hXX:sB (T.take 800)=X at *
       have HXX:Hid (sB (T.take 800)=X):=hXX
       have tz:((X.size:Int) == 0)=false:=beq_eq_false_iff_ne.mpr (by omega)
       clear hXX eT
       go_wp2
       go_loop [0] (fun v=>v=.string X) (fun _=>0)
       case atStart=>rfl
       case round =>
        subst hrel
        rcases Nat.lt_or_ge 1099511627776 k with k9 | k9
        . have k8:k<=140737488351256:=by omega
          go_wp2
          refine bodyPost_ret (v:=.tuple #[.agg #[.string ⟨#[]⟩,vI 0,.bool false],vI 4]) (by simp [results,Tryz.results88,go_sem]) rfl ⟨by rw [oC k9],?_⟩
          exact bz _ _
        have k8:k<=1099511627776:=k9
        clear k9
        go_wp2
        refine bodyPost_ret (v:=.tuple #[.agg #[.string X,vI (-(k:Int)),.bool true],vI 0]) (by simp [results,Tryz.results88,go_sem]) rfl ⟨by rw [HXX.out,kF k8],?_⟩
        exact bz _ _
theorem aCG (l:List UInt8) (hl:l.length<=140737488351256) (hd:∀ c ∈ l,isD 10 c=true) (h0:nz l<l.length) (h8:800<(l.drop (nz l)).length) (hm:anz ((l.drop (nz l)).drop 800)=false) (w:World) :
 Cb 88 #[.string (sB l),vI 0,.bool false] w (mkR (nz l) (sB (((l.drop (nz l)).take 800).take (trn ((l.drop (nz l)).take 800)))) false):=by
 have D:=fun W=>iJ (sB l) (by rw [aA];omega) (gJ hd) W
 have hz:=cW l
 have HA:Hid (∀ i (h:i<l.length),i<nz l -> l[i]'h=48):=kH l
 have HN:Hid (∀ h:nz l<l.length,l[nz l]'h ≠ 48):=gF l
 have HG:Hid ((sB l).size=l.length/\∀ k (h:k<l.length) (h':k<(sB l).size),(sB l)[k]'h'=l[k]'h):=⟨rfl,fun _ _ _=>rfl⟩
 have hb:(sB l).size<=140737488351256:=hl
 have hzb:nz l<=(sB l).size:=hz
 have xz:=aJ l (nz l)
 have HLT:Hid (nz l<l.length):=h0
 have hdl:(l.drop (nz l)).length<=140737488351256:=by rw [List.length_drop];omega
 have HMORE:Hid (anz ((l.drop (nz l)).drop 800)=false):=hm
 have HU:Hid (800<(sB (l.drop (nz l))).size/\(sB (l.drop (nz l))).size=(l.drop (nz l)).length/\∀ k (h:k<(l.drop (nz l)).length) (h':k<(sB (l.drop (nz l))).size),(sB (l.drop (nz l)))[k]'h'=(l.drop (nz l))[k]'h):=⟨h8,rfl,fun _ _ _=>rfl⟩
 have h8':(800:Int)<((sB (l.drop (nz l))).size:Int):=by rw [aA];omega
 have hub:(sB (l.drop (nz l))).size<=140737488351256:=hdl
 have x8:=eO (l.drop (nz l)) 800
 have h8s:((sB ((l.drop (nz l)).take 800)).size:Int)=800:=by rw [aA,List.length_take];omega
 have ht:0<trn ((l.drop (nz l)).take 800):=(rH (D:=l.drop (nz l)) (fun z=>by have:=congrArg List.length z;rw [List.length_drop] at this;simp at this;omega) (NZD l)).2 hm
 have HLEN:Hid (((l.drop (nz l)).take 800).length<=140737488351256):=(by rw [List.length_take];omega:((l.drop (nz l)).take 800).length<=140737488351256)
 have HT0:Hid (∀ hh,((sB (((l.drop (nz l)).take 800).take (trn ((l.drop (nz l)).take 800))))[trn ((l.drop (nz l)).take 800) - 1]'hh) ≠ 48):=fun hh=>by
  rw [fO (by have:=dS ((l.drop (nz l)).take 800);omega) hh];exact nH _ ht
 obtain ⟨z,hz2⟩:∃ z,z=nz l:=⟨_,rfl⟩
 rw [<- hz2] at HA HN HLT hzb xz h8' HMORE HU hub x8 h8s ht HLEN HT0 ⊢
 clear hz2 hl hd h0 hz h8 hm hdl
 generalize l.drop z=T at *
 generalize sB T=u at *
 generalize sB l=s at *
 go_enter Tryz.func88,Tryz.ntmps88
 go_wp2_with fail
 refine (D _).mono ?_
 rintro e w0 ⟨rfl,rfl⟩
 go_wp2
 go_loop [8] (fun iv=>∃ k:Nat,iv=vI (k:Int)/\k<=z) (fun iv=>z - (intOf iv).toNat)
 case atStart=>exact ⟨0,rfl,Nat.zero_le _⟩
 case round =>
  obtain ⟨k,rfl,hk⟩:=hrel
  by_cases c0:k<z
  . have hks:k<s.size:=by omega
    have hkl:k<l.length:=by have:=HG.out.1;omega
    have x0:((((s[k]'hks).toNat:Nat):Int))=48:=by rw [HG.out.2 k hkl hks,HA.out k hkl c0];rfl
    have i0:(k:Int)<(s.size:Int):=by omega
    have i1:(0:Int)<=(k:Int):=by omega
    go_wp2
    go_round
    case rel=>exact ⟨k+1,by go_num,by omega⟩
    case measure=>simp [intOf];omega
  . obtain rfl:k=z:=by omega
    have hks:k<s.size:=by have:=HLT.out;have:=HG.out.1;omega
    have hkl:k<l.length:=HLT.out
    have x0:((((s[k]'hks).toNat:Nat):Int) == 48)=false:=by rw [HG.out.2 k hkl hks];exact lG (HN.out hkl)
    have i0:(k:Int)<(s.size:Int):=by omega
    have i1:(0:Int)<=(k:Int):=by omega
    have i2:(k:Int)<=(s.size:Int):=by omega
    go_wp2
    go_loop [2,9] (fun mv iv=>∃ i:Nat,800<=i/\i<=u.size/\iv=vI (i:Int)/\mv=.bool (anz ((T.take i).drop 800))) (fun _ iv=>u.size - (intOf iv).toNat)
    case atStart=>exact ⟨800,Nat.le_refl _,by have:=HU.out;omega,rfl,by rw [List.drop_eq_nil_of_le (by rw [List.length_take];omega)];rfl⟩
    case round =>
     obtain ⟨i,hi1,hi2,rfl,rfl⟩:=hrel
     by_cases c1:i<u.size
     . have hiT:i<T.length:=by have:=HU.out.2.1;omega
       have i4:(i:Int)<(u.size:Int):=by omega
       have i5:(0:Int)<=(i:Int):=by omega
       have ui:u[i]'c1=T[i]'hiT:=HU.out.2.2 i hiT c1
       have HS:Hid (anz ((T.take (i+1)).drop 800)=(anz ((T.take i).drop 800) || (T[i]'hiT != 48))):=by
        show _=_
        rw [List.take_succ_eq_append_getElem hiT,List.drop_append_of_le_length (by rw [List.length_take];omega)]
        unfold anz
        rw [List.any_append];simp
       rcases Bool.eq_false_or_eq_true (anz ((T.take i).drop 800)) with q | q
       . rw [q] at HS ⊢
         go_wp2
         go_round
         case rel=>exact ⟨i+1,by omega,by omega,by go_num,by rw [HS.out];rfl⟩
         case measure=>simp [intOf];omega
       . rw [q] at HS ⊢
         by_cases y:T[i]'hiT=48
         . have x9:((((u[i]'c1).toNat:Nat):Int))=48:=by rw [ui,y];rfl
           have HS2:Hid (anz ((T.take (i+1)).drop 800)=false):=by have:=HS.out;rw [y] at this;exact this
           clear ui HS y q
           go_wp2
           go_round
           case rel=>exact ⟨i+1,by omega,by omega,by go_num,by rw [HS2.out]⟩
           case measure=>simp [intOf];omega
         . have x9:((((u[i]'c1).toNat:Nat):Int) == 48)=false:=by rw [ui];exact lG y
           have x8:((((u[i]'c1).toNat:Nat):Int) != 48)=true:=by rw [bne,x9];rfl
           have HS2:Hid (anz ((T.take (i+1)).drop 800)=true):=by
            have:=HS.out
            rw [show (T[i]'hiT != 48)=true from bne_iff_ne.mpr y] at this
            exact this
           clear ui HS y q x9
           go_wp2
           go_round
           case rel=>exact ⟨i+1,by omega,by omega,by go_num,by rw [HS2.out]⟩
           case measure=>simp [intOf];omega
     . obtain rfl:i=u.size:=by omega
       have i4:¬ (u.size:Int)<(u.size:Int):=by omega
       have eT:anz ((T.take u.size).drop 800)=false:=by rw [HU.out.2.1,List.take_length];exact HMORE.out
       rw [eT]
       have i8:(800:Int)<=(u.size:Int):=by omega
       clear eT h8s
       generalize hYY:T.take 800=Y at *
       have HYY:Hid (T.take 800=Y):=hYY
       clear hYY
       go_wp2
       go_loop [0] (fun v=>∃ j,v=.string (sB ((Y).take j))/\trn (Y)<=j/\j<=(Y).length) (fun v=>oK v)
       case atStart=>exact ⟨(Y).length,by rw [List.take_length],dS _,Nat.le_refl _⟩
       case round =>
        obtain ⟨j,rfl,hj1,hj2⟩:=hrel
        have HSZ:Hid ((sB ((Y).take j)).size=j):=by show _=_;rw [aA,List.length_take];omega
        by_cases c1:trn (Y)<j
        . obtain ⟨i,rfl⟩:∃ i,j=i+1:=⟨j - 1,by omega⟩
          have hit:i<(Y).length:=by omega
          have e0:∀ hh,(((sB ((Y).take (i+1)))[i]'hh).toNat:Int)=48:=fun hh=>by
           rw [fO hit hh,jX _ i hit (by omega)];rfl
          have cut:(sB ((Y).take (i+1))).extract 0 i=sB ((Y).take i):=by rw [eO,List.take_take,Nat.min_eq_left (by omega)]
          have HM:Hid ((sB ((Y).take i)).size=i):=by show _=_;rw [aA,List.length_take];omega
          generalize sB ((Y).take (i+1))=X at *
          have hX:(X.size:Int)=(i:Int)+1:=by have:=HSZ.out;omega
          have hiX:i<X.size:=by have:=HSZ.out;omega
          have e1:=e0 hiX
          have ix:((X.size:Int) - 1).toNat=i:=by omega
          have ix2:(X.size:Int) - 1=(i:Int):=by omega
          have hpos:0<X.size:=by omega
          have hbig:X.size<=140737488351256:=by have:=HSZ.out;have:=HLEN.out;omega
          have HX:Hid (X.size=i+1):=HSZ.out
          clear HSZ e0
          go_wp2
          go_round
          case rel=>exact ⟨i,rfl,by omega,by omega⟩
          case measure =>
           show (sB ((Y).take i)).size<X.size
           have a:=HM.out
           have b:=HX.out
           omega
        . obtain rfl:j=trn (Y):=by omega
          have HX:=HSZ.out
          have e9:=HT0.out
          generalize hXX:sB (Y.take (trn Y))=X at *
          have HXX:Hid (sB (Y.take (trn Y))=X):=hXX
          have hiX:trn Y - 1<X.size:=by omega
          have e1:=lG (e9 hiX)
          have ix:((X.size:Int) - 1).toNat=trn Y - 1:=by omega
          have hpos:0<X.size:=by omega
          have hbig:X.size<=140737488351256:=by have:=HLEN.out;omega
          have tz:((X.size:Int) == 0)=false:=beq_eq_false_iff_ne.mpr (by omega)
          have p1:(0:Int)<(X.size:Int):=by omega
          clear hXX HX e9 HSZ
          generalize trn Y - 1=y at *
          rcases Nat.lt_or_ge 1099511627776 k with k9 | k9
          . have k8:k<=140737488351256:=by omega
            go_wp2
            refine bodyPost_ret (v:=.tuple #[.agg #[.string ⟨#[]⟩,vI 0,.bool false],vI 4]) (by simp [results,Tryz.results88,go_sem]) rfl ⟨by rw [oC k9],?_⟩
            exact bz _ _
          have k8:k<=1099511627776:=k9
          clear k9
          go_wp2
          refine bodyPost_ret (v:=.tuple #[.agg #[.string X,vI (-(k:Int)),.bool false],vI 0]) (by simp [results,Tryz.results88,go_sem]) rfl ⟨by rw [HYY.out,HXX.out,kF k8],?_⟩
          exact bz _ _
theorem aFe       (l : List UInt8) (hl : l.length ≤ 140737488351256) (hd : ∀ c ∈ l, isD 10 c = true) (w : World) :
    Calls Tryz.prog 88 #[.string (sB l), .int .i64 0, .bool false] w fun e w' => e = .returned (if nz l = l.length then .tuple #[.agg #[.string ⟨#[]⟩, .int .i64 0, .bool false], .int .i64 0] else mkR (nz l) (sB (shT (l.drop (nz l)))) (anz ((l.drop (nz l)).drop 800))) ∧ Below w.heap.size w w' := by
  by_cases h : nz l = l.length
  · rw [if_pos h]
    exact aCH        l hl hd h w
  · have h0 : nz l < l.length := by have := cW    l; omega
    rw [if_neg h]
    by_cases h8 : (l.drop (nz l)).length ≤ 800
    · have e : (l.drop (nz l)).drop 800 = [] := List.drop_eq_nil_of_le h8
      have := aFg       l hl hd h0 h8 w
      unfold shT
      rw [e, show anz [] = false from rfl, if_neg (by decide), List.take_of_length_le h8]
      exact this
    · cases hm : anz ((l.drop (nz l)).drop 800) with
      | true =>
        have := aFf       l hl hd h0 (by omega) hm w
        unfold shT
        rw [if_pos hm]
        exact this
      | false =>
        have := aCG        l hl hd h0 (by omega) hm w
        unfold shT
        rw [if_neg (by rw [hm]; decide)]
        exact this
end Go.Proofs.YtejgpbhionadbaaGreatDoor
